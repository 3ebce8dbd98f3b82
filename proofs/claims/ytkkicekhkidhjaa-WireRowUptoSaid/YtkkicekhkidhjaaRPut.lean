/- The reference's Put: contract. Condition: a number of the machine's. -/
import Derived.Test.YtkkicekhkidhjaaRP
namespace Go.Proofs.Ytkkicekhkidhjaa
set_option linter.unusedSimpArgs false
set_option linter.unusedVariables false
open Go.RowKit

theorem one_cell (y : Int) (j : Nat) (hj : j < [y].length) : (#[Value.int .u8 y] : Array Value)[j]? = (bs [y])[j]? := by
  have : j = 0 := by simpa using hj
  subst this
  rfl
set_option maxRecDepth 100000 in
set_option maxHeartbeats 8000000 in
theorem rput_main (p : Nat) (v : Value) (ls : List (List Int)) (vals : List Value) (n : Int) (k : Nat) (w : World) (h : RW w p v ls vals) (h1 : -9223372036854775808 ≤ n) (h2 : n ≤ 9223372036854775807) (hk1 : 1 ≤ k) (hk8 : k ≤ 8) (hn : ls.length ≤ 1000) :
    Calls Try.prog 16 #[.pointer (some ⟨p, 0, none⟩), .int .i64 n, .int .i64 k] w fun e w' => e = .returned (.int .i64 (putE n k)) ∧ RStep 1 w p v ls vals (pl n k) w' := by
  have H := Lib.hid h
  have hlt : p < w.heap.size := heap_lt h.here
  have x1 : IntKind.i64.wrap (8 * (k : Int)) = 8 * k := by rw [IntKind.wrap_i64]; omega
  have x2 : IntKind.i64.wrap (64 - 8 * (k : Int)) = 64 - 8 * k := by rw [IntKind.wrap_i64]; omega
  clear h
  go_enter Try.func16, Try.ntmps16
  go_wp2_with (first | (go_at_call 42; refine (rsize_yes _ _ (by omega) (by omega)).mono ?_; rintro e w1 ⟨rfl, rfl⟩) | (go_at_call 43; refine (rbits_any n _ h1 h2).mono ?_; rintro e w2 ⟨g, rfl, r1, r2, r3⟩; have A2 := Lib.hid r1; have G2 := Lib.hid r2; have F2 := Lib.hid r3; clear r1 r2 r3))
  go_loopw [8] (fun u8 wr => ∃ i : Nat, u8 = .int .i64 i ∧ i + 8 * k ≤ 64 ∧ wr = w2 ∧ Hid (∀ t, t < i → n / 2 ^ (63 - t) % 2 = 0)) (fun u8 _ => 64 - (intOf u8).toNat)
  case atStart => exact ⟨0, rfl, by omega, rfl, Lib.hid (fun t ht => absurd ht (Nat.not_lt_zero _))⟩
  case round =>
    obtain ⟨i, rfl, hi, e2, hB⟩ := hrel
    replace e2 := e2.symm
    subst e2
    by_cases hil : i + 8 * k < 64
    · have hd : decide ((i : Int) < 64 - 8 * (k : Int)) = true := by simp; omega
      have hb := bitl_get n i (by omega)
      obtain ⟨y, hy⟩ : ∃ y, n / 2 ^ (63 - i) % 2 = y := ⟨_, rfl⟩
      have hy2 : y = 0 ∨ y = 1 := by omega
      rw [hy] at hb
      have c1 := Ar.cell A2.out hb
      have HY := Lib.hid hy
      clear hb hy
      rcases hy2 with rfl | rfl
      · go_wp2
        go_roundw
        case rel => exact ⟨i + 1, by go_num, by omega, by first | rfl | trivial, Lib.hid (fun t ht => by
          rcases Nat.lt_or_ge t i with h3 | h3
          · exact hB.out t h3
          · have : t = i := by omega
            subst this
            exact HY.out)⟩
        case measure => simp [intOf]; omega
      · go_wp2
        go_ret
        have e9 := putE_bit hk1 hk8 hil HY.out
        refine ⟨by rw [e9]; rfl, ?_⟩
        have : pl n k = [] := by unfold pl; rw [if_neg (by rw [e9]; decide)]
        rw [this]
        exact RStep.none H.out F2.out
    · have hd : decide ((i : Int) < 64 - 8 * (k : Int)) = false := by simp; omega
      by_cases hneg : n < 0
      · have hd2 : decide (n < 0) = true := by simpa using hneg
        go_wp2
        go_ret
        have e9 := putE_neg (n := n) hk1 hk8 hneg
        refine ⟨by rw [e9]; rfl, ?_⟩
        have : pl n k = [] := by unfold pl; rw [if_neg (by rw [e9]; decide)]
        rw [this]
        exact RStep.none H.out F2.out
      · have hd2 : decide (n < 0) = false := by simpa using hneg
        have E0 : Hid (putE n k = 0) := putE_fits hk1 hk8 (by omega) h2 (fun t ht => hB.out t (by omega))
        have hnn : 0 ≤ n := by omega
        clear hneg hB
        go_wp2
        have sz2 := F2.out.size
        go_loopw [9, 10] (fun u9 u10 wr => ∃ j : Nat, u10 = .int .i64 (8 * ((8 - k + j : Nat) : Int)) ∧ j ≤ k ∧ Hid (Ow wr u9 ((beN n k).take j)) ∧ Hid (∀ b, u9.ownBlock = some b → w2.heap.size ≤ b) ∧ Hid (Fr (fun _ => False) w2 wr)) (fun _ u10 _ => 64 - (intOf u10).toNat)
        case atStart => exact ⟨0, by congr 1; omega, Nat.zero_le _, Ow.nil _, Lib.hid (fun b hb => by cases hb), Fr.refl _ _⟩
        case round =>
          obtain ⟨j, rfl, hj, hO, hU, hF⟩ := hrel
          obtain ⟨m, hm⟩ : ∃ m, 8 - k + j = m := ⟨_, rfl⟩
          rw [hm]
          by_cases hjk : j < k
          · have hm8 : m < 8 := by omega
            have y1 : IntKind.i64.wrap (8 * (m : Int) + 8) = 8 * m + 8 := by rw [IntKind.wrap_i64]; omega
            have hd3 : decide (8 * (m : Int) < 64) = true := by simp; omega
            have hsl := slice_eight g m hm8
            have A5 : Hid (Ar wr g 3 .i64 (bitl n)) := A2.out.fr hF.out (fun x => x)
            obtain ⟨y, hy⟩ : ∃ y, byat n m = y := ⟨_, rfl⟩
            have HY := Lib.hid (And.intro hy (hy ▸ byat_byte n m))
            have hnext := Lib.hid (beN_next (j := j) hnn h2 hk8 hjk)
            rw [hm, hy] at hnext
            have L5 : Hid ((List.take j (beN n k)).length + 1 ≤ 140737488355328) := by show _ ≤ _; rw [List.length_take]; omega
            have FA : Hid (Fr (fun _ => False) wr (wr.alloc (.cells #[.int .u8 y] 5))) := (Fr.refl _ _).alloc _
            have OA : Hid (Ow (wr.alloc (.cells #[.int .u8 y] 5)) u9 ((beN n k).take j)) := hO.out.keep FA.out (fun _ _ x => x)
            have SA : Hid (Sl (wr.alloc (.cells #[.int .u8 y] 5)) wr.heap.size (.slice (some ⟨wr.heap.size, 0, none⟩) 1 1) [y]) := Sl.lit wr [y] (by intro b hb; simp at hb; subst hb; exact HY.out.2) (by simp [maxLen]) _ rfl
            clear hy
            go_wp2_with (first | (go_at_call 44; refine (octet_any n g m (64 - 8 * m) _ A5.out hm8).mono ?_; rintro e w5 ⟨rfl, rfl⟩; rw [HY.out.1]) | (at_builtin; refine wpList_own rfl (.tmp 37) (.tmp 44) rfl OA.out rfl rfl SA.out L5.out ?_; intro A6 N6 c6 w6 hap hN6; have HAP := Lib.hid hap; clear hap hN6))
            have O6 : Hid (Ow w6 (.slice A6 N6 c6) ((beN n k).take (j + 1))) := by
              show _
              rw [← hnext.out]
              exact HAP.out.own
            have U6 : Hid (∀ b, (Value.slice A6 N6 c6).ownBlock = some b → w2.heap.size ≤ b) := Lib.hid (fun b hb => by
              rcases HAP.out.at_ with e | e
              · rw [e] at hb; exact hU.out b hb
              · rw [e] at hb; injection hb with hb; have := hF.out.size; have := FA.out.size; omega)
            have F6 : Hid (Fr (fun _ => False) w2 w6) := ((hF.out.trans FA.out).grown HAP.out.grown (fun b hb => .inr (hU.out b hb)))
            refine ⟨⟨j + 1, by congr 1; omega, by omega, O6, U6, F6⟩, by simp [intOf]; omega⟩
          · have hm8 : m = 8 := by omega
            subst hm8
            have hjk2 : j = k := by omega
            have O6 : Hid (Ow wr u9 (beN n k)) := by
              have h := hO.out
              rwa [hjk2, List.take_of_length_le (by rw [beN_length n k hk8]; exact Nat.le_refl _)] at h
            have R6 : Hid (RW wr p v ls vals) := (H.out.keep F2.out (fun _ _ x => x)).keep hF.out (fun _ _ x => x)
            have c0 : wr.cell? ⟨p, 0, none⟩ = some v := by rw [cell_of_row wr p 0 _ _ _ R6.out.here]; rfl
            have OA : Hid (Ow (wr.alloc (.cells #[u9] 27)) u9 (beN n k)) := O6.out.keep ((Fr.refl (fun _ => False) _).alloc _) (fun _ _ x => x)
            have RA : Hid (RW (wr.alloc (.cells #[u9] 27)) p v ls vals) := R6.out.keep ((Fr.refl (fun _ => False) _).alloc _) (fun _ _ x => x)
            have CA : Hid ((wr.alloc (.cells #[u9] 27)).cell? ⟨wr.heap.size, 0, none⟩ = some u9) := by
              show _ = _
              rw [cell_of_row _ wr.heap.size 0 _ _ _ (heap_alloc_new wr (.cells #[u9] 27))]
              rfl
            obtain ⟨A9, n9, c9, e9, -⟩ := O6.out.shape
            subst e9
            clear hO
            go_wp2_with (at_builtin; refine wpList_push rfl (.tmp 50) (.tmp 52) rfl RA.out rfl OA.out rfl CA.out hn ?_; intro A7 N7 c7 w7 z1 z2 z3 z4; have k7 : w7.cell? ⟨p, 0, none⟩ = some v := (by rw [cell_of_row w7 p 0 _ _ _ z1]; rfl); have g7 : w7.frozen? ⟨p, 0, none⟩ = false := frozen_of_row w7 p 0 _ _ z1; have Z2 := Lib.hid z2; have Z3 := Lib.hid z3; have Z4 := Lib.hid z4; clear z1 z2 z3 z4)
            go_ret
            refine ⟨by rw [E0.out]; rfl, ?_⟩
            have e : pl n k = beN n k := by unfold pl; rw [if_pos E0.out, Int.toNat_natCast]
            rw [e]
            have FW : Fr (fun _ => False) w (wr.alloc (.cells #[.slice A9 n9 c9] 27)) := (F2.out.trans hF.out).alloc _
            exact RStep.push FW Z2.out Z3.out Z4.out (fun b hb => by have := hU.out b hb; omega)

theorem rput_any (p : Nat) (v : Value) (ls : List (List Int)) (vals : List Value) (n size : Int) (w : World) (h : RW w p v ls vals) (h1 : -9223372036854775808 ≤ n) (h2 : n ≤ 9223372036854775807) (hn : ls.length ≤ 1000) :
    Calls Try.prog 16 #[.pointer (some ⟨p, 0, none⟩), .int .i64 n, .int .i64 size] w fun e w' => e = .returned (.int .i64 (putE n size)) ∧ RStep 1 w p v ls vals (pl n size) w' := by
  by_cases hs : size < 1 ∨ 8 < size
  · refine (rput_arg p n size w hs).mono ?_
    rintro e w' ⟨rfl, rfl⟩
    have e2 : putE n size = 2 := by unfold putE; rw [if_pos hs]
    have : pl n size = [] := by unfold pl; rw [if_neg (by rw [e2]; decide)]
    rw [e2, this]
    exact ⟨rfl, RStep.none h (Fr.refl _ _)⟩
  · obtain ⟨k, rfl⟩ := Int.eq_ofNat_of_zero_le (show 0 ≤ size by omega)
    exact rput_main p v ls vals n k w h h1 h2 (by omega) (by omega) hn

/-- What Octets answers, and writes. -/
def octE (m : Nat) : Int := if 65535 < m then 5 else 0
def ol (m : Nat) (l : List Int) : List Int := if 65535 < m then [] else beN m 2 ++ l

theorem putE_len {m : Nat} (hm : m ≤ 65535) : putE m 2 = 0 := by
  unfold putE
  rw [if_neg (by omega), if_neg]
  rintro (h | ⟨_, h⟩)
  · omega
  · have : (256 : Int) ^ (2 : Int).toNat = 65536 := by decide
    omega
theorem putE_great {m : Nat} (hm : 65535 < m) : putE m 2 = 9 := by
  unfold putE
  rw [if_neg (by omega), if_pos]
  refine .inr ⟨by omega, ?_⟩
  have : (256 : Int) ^ (2 : Int).toNat = 65536 := by decide
  omega

theorem rwoctets_any (p g : Nat) (v : Value) (ls : List (List Int)) (vals : List Value) (A : Option Addr) (m c : Nat) (l : List Int) (w : World) (h : RW w p v ls vals) (hs : Sl w g (.slice A m c) l) (hg : l ≠ [] → ¬ Tb p v vals g) (hm : m ≤ 140737488355328) (hn : ls.length ≤ 990) :
    Calls Try.prog 20 #[.pointer (some ⟨p, 0, none⟩), .slice A m c] w fun e w' => e = .returned (.int .i64 (octE m)) ∧ RStep 2 w p v ls vals (ol m l) w' := by
  have H := Lib.hid h
  have HS := Lib.hid hs
  have HG := Lib.hid hg
  clear h hs hg
  have put2 := rput_any p v ls vals m 2 w H.out (by omega) (by omega) (by omega)
  rcases Nat.lt_or_ge 65535 m with hb | hb
  · have e1 : octE m = 5 := by unfold octE; rw [if_pos hb]
    have e2 : ol m l = [] := by unfold ol; rw [if_pos hb]
    have e4 : pl m 2 = [] := by unfold pl; rw [if_neg (by rw [putE_great hb]; decide)]
    rw [e1, e2]
    rw [putE_great hb, e4] at put2
    have P2 := Lib.hid put2
    clear put2
    go_enter Try.func20, Try.ntmps20
    go_wp2_with (go_at_call 16; refine P2.out.mono ?_; rintro e w2 ⟨rfl, r1⟩; have R1 := Lib.hid r1; clear r1)
    go_ret
    exact ⟨rfl, R1.out.mono (by decide)⟩
  · have e1 : octE m = 0 := by unfold octE; rw [if_neg (by omega)]
    have e2 : ol m l = beN m 2 ++ l := by unfold ol; rw [if_neg (by omega)]
    have e4 : pl m 2 = beN m 2 := by unfold pl; rw [if_pos (putE_len hb)]; rfl
    rw [e1, e2]
    rw [putE_len hb, e4] at put2
    have P2 := Lib.hid put2
    clear put2
    go_enter Try.func20, Try.ntmps20
    go_wp2_with (first
      | (go_at_call 16; refine P2.out.mono ?_; rintro e w2 ⟨rfl, v2, ls2, vals2, r1, r2, r3, r4, r5⟩; have R1 := Lib.hid r1; have R2 := Lib.hid r2; have R3 := Lib.hid r3; have R4 := Lib.hid r4; have R5 := Lib.hid r5; clear r1 r2 r3 r4 r5
         have S2 : Hid (∃ g2, Sl w2 g2 (.slice A m c) l) := (by
           by_cases hl : l = []
           · subst hl; exact ⟨w.heap.size, (HS.out.any w.heap.size).keep R4.out.size (fun h => absurd h (Nat.lt_irrefl _))⟩
           · exact ⟨g, HS.out.fr R4.out (fun _ => HG.out hl)⟩))
      | (go_at_call 18; refine (rwbytes_any p _ v2 ls2 vals2 A m c l _ R1.out S2.out.choose_spec hm (by have := R3.out; omega)).mono ?_; rintro e w3 ⟨v3, x3, rfl, r1, r2, r3, r4⟩; have T1 := Lib.hid r1; have T2 := Lib.hid r2; have T3 := Lib.hid r3; have T4 := Lib.hid r4; clear r1 r2 r3 r4))
    go_ret
    exact ⟨rfl, RStep.comp R2.out R3.out R4.out R5.out (RStep.push (Fr.refl _ _) T1.out T2.out T3.out T4.out)⟩
end Go.Proofs.Ytkkicekhkidhjaa
