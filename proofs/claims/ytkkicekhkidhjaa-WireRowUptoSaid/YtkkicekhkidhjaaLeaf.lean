/- What the leaves of package wire, and the reference's small helpers, answer: contracts. Each says its condition. -/
import Derived.Test.YtkkicekhkidhjaaProg
import Derived.Test.YtkkicekhkidhjaaBase
import Derived.Deep.DeepFit
import Derived.Outline
import Derived.RegionTactic
import Derived.BigQuiet
import Derived.Deep.QuietTactic
import Derived.Handy
import Derived.Laws.CopyOwn
import Derived.Lib.Hide
import Derived.Deep.AppendLies
import Derived.Deep.RegionLaw
import Derived.Laws.BitsLemmas
namespace Go.Proofs.Ytkkicekhkidhjaa
set_option linter.unusedSimpArgs false
set_option linter.unusedVariables false
open Go.RowKit

theorem Try.info5 : (Try.prog.info? 5).map (fun i => (i.zero, i.size, i.bytes)) = some (some (.int .u8 0), 1, 1) := by kernel_rfl
theorem size5 : (Try.prog.info? 5).map (·.size) = some 1 := by kernel_rfl

set_option maxHeartbeats 400000 in
theorem sizeMayBe_yes (n : Int) (w : World) (h1 : 1 ≤ n) (h8 : n ≤ 8) :
    Calls Try.prog 40 #[.int .i64 n] w fun e w' => e = .returned (.bool true) ∧ w = w' := by
  go_enter Try.func40, Try.ntmps40
  go_wp2
  go_ret
  exact ⟨rfl, rfl⟩
theorem sizeMayBe_no (n : Int) (w : World) (h : n < 1 ∨ 8 < n) :
    Calls Try.prog 40 #[.int .i64 n] w fun e w' => e = .returned (.bool false) ∧ w = w' := by
  rcases h with h | h
  · have hd : decide (1 ≤ n) = false := by simp; omega
    go_enter Try.func40, Try.ntmps40
    go_wp2
    go_ret
    exact ⟨rfl, rfl⟩
  · have hd : decide (1 ≤ n) = true := by simp; omega
    have hd2 : decide (n ≤ 8) = false := by simp; omega
    go_enter Try.func40, Try.ntmps40
    go_wp2
    go_ret
    exact ⟨rfl, rfl⟩

/-- An array of eight bytes, as a value. -/
def arr8 (a b c d e f g h : Int) : Array Value := #[.int .u8 a, .int .u8 b, .int .u8 c, .int .u8 d, .int .u8 e, .int .u8 f, .int .u8 g, .int .u8 h]

set_option maxHeartbeats 800000 in
theorem numberOf_any (v : Int) (w : World)  (h1 : 0 ≤ v) (h8 : v ≤ 9223372036854775807) :
    Calls Try.prog 50 #[.int .i64 v] w fun e w' => e = .returned (.agg #[.int .u8 (v/72057594037927936), .int .u8 (v/281474976710656%256), .int .u8 (v/1099511627776%256), .int .u8 (v/4294967296%256), .int .u8 (v/16777216%256), .int .u8 (v/65536%256), .int .u8 (v/256%256), .int .u8 (v%256)]) ∧ Fr (fun _ => False) w w' := by
  go_enter Try.func50, Try.ntmps50
  go_wp2
  go_rounds 9
  refine bodyPost_ret (v := .agg #[.int .u8 (v/72057594037927936), .int .u8 (v/281474976710656%256), .int .u8 (v/1099511627776%256), .int .u8 (v/4294967296%256), .int .u8 (v/16777216%256), .int .u8 (v/65536%256), .int .u8 (v/256%256), .int .u8 (v%256)]) (by simp [results, Try.results50, go_sem]) rfl ?_
  exact ⟨rfl, ((Fr.refl _ _).alloc _).alloc _⟩

set_option maxHeartbeats 400000 in
theorem tooGreat_any (a b c d e f g h : Int) (w : World) :
    Calls Try.prog 46 #[.agg #[.int .u8 a, .int .u8 b, .int .u8 c, .int .u8 d, .int .u8 e, .int .u8 f, .int .u8 g, .int .u8 h]] w fun r w' => r = .returned (.bool (decide (127 < a))) ∧ Fr (fun _ => False) w w' := by
  go_enter Try.func46, Try.ntmps46
  go_wp2
  go_ret
  exact ⟨rfl, (Fr.refl _ _).alloc _⟩

theorem or_i64 (x y : Int) (h0 : 0 ≤ x) (h1 : x ≤ 36028797018963967) (g0 : 0 ≤ y) (g1 : y ≤ 255) : bits BinOp.or IntKind.i64 (wrap64 (x * 256)) y = x * 256 + y := by
  rw [IntWalk.wrap64_in _ ⟨by omega, by omega⟩]
  exact bits_join .i64 63 (by decide) (fun n h0 h1 => by rw [IntKind.wrap_i64]; omega) 8 (x * 256) y (by omega) (by omega) (by omega) g0 (by omega) (by omega)
theorem or_i64_0 (y : Int) (g0 : 0 ≤ y) (g1 : y ≤ 255) : bits BinOp.or IntKind.i64 0 y = y := by
  have h := or_i64 0 y (by omega) (by omega) g0 g1
  rw [IntWalk.wrap64_in _ ⟨by omega, by omega⟩] at h
  simpa using h

set_option maxHeartbeats 800000 in
theorem value_any (a b c d e f g h : Int) (w : World) (ha : 0 ≤ a) (ha' : a ≤ 127) (hb : 0 ≤ b) (hb' : b ≤ 255) (hc : 0 ≤ c) (hc' : c ≤ 255) (hd : 0 ≤ d) (hd' : d ≤ 255) (he : 0 ≤ e) (he' : e ≤ 255) (hf : 0 ≤ f) (hf' : f ≤ 255) (hg : 0 ≤ g) (hg' : g ≤ 255) (hh : 0 ≤ h) (hh' : h ≤ 255) :
    Calls Try.prog 47 #[.agg #[.int .u8 a, .int .u8 b, .int .u8 c, .int .u8 d, .int .u8 e, .int .u8 f, .int .u8 g, .int .u8 h]] w fun r w' => r = .returned (.int .i64 (((((((a*256+b)*256+c)*256+d)*256+e)*256+f)*256+g)*256+h)) ∧ Fr (fun _ => False) w w' := by
  have i0 : ∀ W, (Instr.index 72 (.agg #[.int .u8 a, .int .u8 b, .int .u8 c, .int .u8 d, .int .u8 e, .int .u8 f, .int .u8 g, .int .u8 h]) (.int .i64 0)).run Try.prog W = .ok (.int .u8 a) W := fun _ => by kernel_rfl
  have i1 : ∀ W, (Instr.index 72 (.agg #[.int .u8 a, .int .u8 b, .int .u8 c, .int .u8 d, .int .u8 e, .int .u8 f, .int .u8 g, .int .u8 h]) (.int .i64 1)).run Try.prog W = .ok (.int .u8 b) W := fun _ => by kernel_rfl
  have i2 : ∀ W, (Instr.index 72 (.agg #[.int .u8 a, .int .u8 b, .int .u8 c, .int .u8 d, .int .u8 e, .int .u8 f, .int .u8 g, .int .u8 h]) (.int .i64 2)).run Try.prog W = .ok (.int .u8 c) W := fun _ => by kernel_rfl
  have i3 : ∀ W, (Instr.index 72 (.agg #[.int .u8 a, .int .u8 b, .int .u8 c, .int .u8 d, .int .u8 e, .int .u8 f, .int .u8 g, .int .u8 h]) (.int .i64 3)).run Try.prog W = .ok (.int .u8 d) W := fun _ => by kernel_rfl
  have i4 : ∀ W, (Instr.index 72 (.agg #[.int .u8 a, .int .u8 b, .int .u8 c, .int .u8 d, .int .u8 e, .int .u8 f, .int .u8 g, .int .u8 h]) (.int .i64 4)).run Try.prog W = .ok (.int .u8 e) W := fun _ => by kernel_rfl
  have i5 : ∀ W, (Instr.index 72 (.agg #[.int .u8 a, .int .u8 b, .int .u8 c, .int .u8 d, .int .u8 e, .int .u8 f, .int .u8 g, .int .u8 h]) (.int .i64 5)).run Try.prog W = .ok (.int .u8 f) W := fun _ => by kernel_rfl
  have i6 : ∀ W, (Instr.index 72 (.agg #[.int .u8 a, .int .u8 b, .int .u8 c, .int .u8 d, .int .u8 e, .int .u8 f, .int .u8 g, .int .u8 h]) (.int .i64 6)).run Try.prog W = .ok (.int .u8 g) W := fun _ => by kernel_rfl
  have i7 : ∀ W, (Instr.index 72 (.agg #[.int .u8 a, .int .u8 b, .int .u8 c, .int .u8 d, .int .u8 e, .int .u8 f, .int .u8 g, .int .u8 h]) (.int .i64 7)).run Try.prog W = .ok (.int .u8 h) W := fun _ => by kernel_rfl
  go_enter Try.func47, Try.ntmps47
  go_wp2
  go_rounds 9
  go_ret
  refine ⟨?_, (Fr.refl _ _).alloc _⟩
  show Ending.returned (.int .i64 (bits BinOp.or IntKind.i64 (wrap64 (bits BinOp.or IntKind.i64 (wrap64 (bits BinOp.or IntKind.i64 (wrap64 (bits BinOp.or IntKind.i64 (wrap64 (bits BinOp.or IntKind.i64 (wrap64 (bits BinOp.or IntKind.i64 (wrap64 (bits BinOp.or IntKind.i64 (wrap64 (bits BinOp.or IntKind.i64 0 a * 256)) b * 256)) c * 256)) d * 256)) e * 256)) f * 256)) g * 256)) h)) = _
  rw [or_i64_0 a ha (by omega), or_i64 a b ha (by omega) hb hb', or_i64 _ c (by omega) (by omega) hc hc', or_i64 _ d (by omega) (by omega) hd hd', or_i64 _ e (by omega) (by omega) he he', or_i64 _ f (by omega) (by omega) hf hf',
    or_i64 _ g (by omega) (by omega) hg hg', or_i64 _ h (by omega) (by omega) hh hh']

theorem run_mk (n : Nat) (hn : n ≤ 140737488355328) : ∀ W : World, (Instr.makeSlice 27 (.int .i64 (n : Int)) (.int .i64 (n : Int))).run Try.prog W = .ok (.slice (some ⟨W.heap.size, 0, none⟩) n n) (W.alloc (.cells (List.replicate n (Value.int .u8 0)).toArray 5)) := by
  intro W
  obtain ⟨i0, hi, hz0, hz1, hz2⟩ := info_parts Try.info5
  have h := run_make (P := Try.prog) W 27 5 i0 _ Try.underlying27 hi hz0 .i64 .i64 (n : Int) (n : Int) (by omega) (by omega) (by rw [hz2]; omega) (by omega)
  simp only [Int.toNat_natCast] at h
  rw [h]
  congr 3
  apply Array.toList_inj.1
  rw [hz1, Nat.mul_one]
  exact toList_madeCells_one _ _

set_option maxHeartbeats 400000 in
theorem copyOf_any (g : Nat) (A : Option Addr) (n c : Nat) (l : List Int) (w : World) (hs : Sl w g (.slice A n c) l) (hn : n ≤ 140737488355328) :
    Calls Try.prog 45 #[.slice A n c] w fun e w' => e = .returned (.slice (some ⟨w.heap.size, 0, none⟩) n n) ∧ w'.heap[w.heap.size]? = some (.cells (bs l).toArray 5 (0, 0)) ∧ Fr (fun _ => False) w w' := by
  have hmk := run_mk n hn
  have hl : l.length = n := by obtain ⟨_, A', c', e, _⟩ := hs; injection e with _ e2; exact e2.symm
  have HL := Lib.hid hl
  clear hl
  go_enter Try.func45, Try.ntmps45
  go_wp2_with (refine wpList_copy_splice rfl (.tmp 7) (.tmp 8) 27 27 rfl 5 Try.underlying27 size5 (some ⟨w.heap.size, 0, none⟩) A n n n c rfl rfl w.heap.size 0 (List.replicate n (.int .u8 0)) 5 ?hg (bs l) ?hn ?hpos ?hfit (bs_one l) w.heap.size w ?hb (Nat.le_refl _) ?_)
  case hg => rw [List.toArray_replicate]; exact heap_alloc_new w _
  case hn => rw [bs_length, HL.out]; exact (Nat.min_self n).symm
  case hpos =>
    intro h0
    obtain ⟨hb, A', c', e, hc, hm, hx⟩ := hs
    injection e with e1 e2 e3
    subst e1 e3
    obtain ⟨o, rfl, hg, hcell⟩ := hx (by rintro rfl; simp [bs] at h0)
    refine ⟨_, rfl, fun j v hv => ?_⟩
    rw [World.cell?_alloc_lt w _ _ (by rw [Addr_add_block]; exact hg)]
    rw [bs_get] at hv
    obtain ⟨b, hb1, rfl⟩ := Option.map_eq_some_iff.1 hv
    rw [Addr_add_none]
    exact hcell j b hb1
  case hfit => simp [bs_length, HL.out]
  case hb => exact (Below.refl _ _).alloc (Nat.le_refl _) _
  intro w1 hg1 hb1
  go_wp2
  go_ret
  refine ⟨rfl, ?_, Fr.of_below hb1⟩
  have := hg1.out
  rw [this]
  simp [splice, bs_length, HL.out]
end Go.Proofs.Ytkkicekhkidhjaa
