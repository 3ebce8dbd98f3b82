/- The law's helper hex: contract. Condition: 32 bytes. -/
import Derived.Test.YtbkbodcncjhcmaaCBits
import Derived.WalkSpells
namespace Go.Proofs.Ytbkbodcncjhcmaa
set_option linter.unusedSimpArgs false
set_option linter.unusedVariables false
open Go.RowKit

def dgt (x : Nat) : ByteArray := ({ data := #[48, 49, 50, 51, 52, 53, 54, 55, 56, 57, 97, 98, 99, 100, 101, 102] } : ByteArray).extract x (x + 1)
def hx1 (s : ByteArray) (b : Int) : ByteArray := s ++ dgt (b / 16).toNat ++ dgt (b % 16).toNat
/-- A key, written. -/
def hx (l : List Int) : ByteArray := l.foldl hx1 { data := #[] }
theorem dgt_size (x : Nat) (h : x < 16) : (dgt x).size = 1 := by
  have : (List.range 16).all (fun x => decide ((dgt x).size = 1)) = true := by decide +kernel
  simpa using List.all_eq_true.1 this x (by simpa using h)
theorem hx_take (l : List Int) (k : Nat) (b : Int) (h : l[k]? = some b) : hx (l.take (k + 1)) = hx1 (hx (l.take k)) b := by
  unfold hx
  have hk := (List.getElem?_eq_some_iff.1 h).1
  have he := (List.getElem?_eq_some_iff.1 h).2
  rw [List.take_succ_eq_append_getElem hk, List.foldl_append, he]
  rfl
theorem and15 (b : Int) (h0 : 0 ≤ b) (h1 : b ≤ 255) : bits .and .u8 b 15 = b % 16 := by
  have h : (List.range 256).all (fun b => decide (bits .and .u8 (b : Int) 15 = (b : Int) % 16)) = true := by decide +kernel
  obtain ⟨n, rfl⟩ := Int.eq_ofNat_of_zero_le h0
  have := List.all_eq_true.1 h n (by simp; omega)
  simpa using this

set_option maxRecDepth 100000 in
set_option maxHeartbeats 4000000 in
theorem hex_is (l : List Int) (w : World) (hl : l.length = 32) (bl : Bys l) :
    Calls Try.prog 26 #[.agg (vs .u8 l)] w fun e w' => e = .returned (.string (hx l)) ∧ Fr (fun _ => False) w w' := by
  have HL := Lib.hid (And.intro hl bl)
  clear hl bl
  go_enter Try.func26, Try.ntmps26
  go_wp2
  go_loopw [3, 4] (fun u3 u4 wr => ∃ (k : Nat) (s : ByteArray), u4 = .int .i64 k ∧ k ≤ 32 ∧ u3 = .string s ∧ Hid (s = hx (l.take k) ∧ s.size = 2 * k) ∧ Hid (Ar wr w.heap.size 23 .u8 l) ∧ Hid (Fr (fun _ => False) w wr))
    (fun _ u4 _ => 32 - (intOf u4).toNat)
  case atStart => exact ⟨0, _, rfl, by omega, rfl, ⟨rfl, rfl⟩, Ar.new w 23 .u8 l, (Fr.refl _ _).alloc _⟩
  case round =>
    obtain ⟨k, s, rfl, hk, rfl, hs, hA, hF⟩ := hrel
    by_cases hlt : k < 32
    · obtain ⟨b, hb⟩ : ∃ b, b = l.getD k 0 := ⟨_, rfl⟩
      have gb := getD_some (l := l) (i := k) (by rw [HL.out.1]; omega)
      rw [← hb] at gb
      have bb := HL.out.2 b (List.mem_of_getElem? gb)
      have cb := hA.out.cell gb
      have ht := hx_take l k b gb
      have b0 := bb.1
      have b9 := bb.2
      obtain ⟨x, hx⟩ : ∃ x : Nat, b / 16 = (x : Int) := ⟨(b / 16).toNat, by omega⟩
      obtain ⟨y, hy'⟩ : ∃ y : Nat, b % 16 = (y : Int) := ⟨(b % 16).toNat, by omega⟩
      have hy : bits .and .u8 b 15 = (y : Int) := by rw [and15 b b0 b9, hy']
      have x9 : x < 16 := by omega
      have wx : IntKind.u8.wrap ((x : Int) + 1) = x + 1 := by rw [IntKind.wrap_u8]; omega
      have y9 : y < 16 := by omega
      have wy : IntKind.u8.wrap ((y : Int) + 1) = y + 1 := by rw [IntKind.wrap_u8]; omega
      have m1 : min (x + 1) 16 = x + 1 := by omega
      have m2 : min (y + 1) 16 = y + 1 := by omega
      have hsz := hs.out.2
      have n1 : ¬ 9223372036854775807 < s.size + 1 := by omega
      have n2 : ¬ 9223372036854775807 < s.size + 1 + 1 := by omega
      have HN : Hid (s ++ dgt x ++ dgt y = Ytbkbodcncjhcmaa.hx (l.take (k + 1)) ∧ (s ++ dgt x ++ dgt y).size = 2 * (k + 1)) := by
        refine ⟨?_, ?_⟩
        · rw [ht, hs.out.1, hx1, hx, hy']
          rfl
        · rw [ByteArray.size_append, ByteArray.size_append, dgt_size x x9, dgt_size y y9, hsz]
          omega
      unfold dgt at HN
      clear hb gb bb ht hsz hy'
      go_wp2
      go_quiet (fail)
      go_wp2
      go_roundw
      case rel => exact ⟨k + 1, _, by go_num, by omega, rfl, HN, hA.out, hF.out.drewN _⟩
      case measure => simp [intOf]; omega
    · obtain rfl : k = 32 := by omega
      have HE : Hid (s = hx l) := by
        have := hs.out.1
        rwa [List.take_of_length_le (by rw [HL.out.1]; omega)] at this
      go_wp2
      go_ret
      refine ⟨?_, hF.out⟩
      rw [← HE.out]
      rfl
end Go.Proofs.Ytbkbodcncjhcmaa
