/- The reference's reader: what Get answers. Condition: a reader that lies in memory. -/
import Derived.Test.YtkkicekhkidhjaaRef
import Derived.Test.YtkkicekhkidhjaaGrowsW
namespace Go.Proofs.Ytkkicekhkidhjaa
set_option linter.unusedSimpArgs false
set_option linter.unusedVariables false
open Go.RowKit

theorem number_yes (g : Nat) (A : Option Addr) (n c : Nat) (l : List Int) (w : World) (hs : Sl w g (.slice A n c) l) (hn : n ≤ 8) (N : Int) (hN : num l = N) (hm : N ≤ 9223372036854775807) :
    Calls Try.prog 48 #[.slice A n c] w fun e w' => e = .returned (.tuple #[.int .i64 N, .bool true]) ∧ w' = w := by
  refine (number_any g A n c l w hs hn).mono ?_
  rintro e w' ⟨rfl, rfl⟩
  unfold NumAns
  rw [if_pos (by rw [hN]; exact hm), hN]
  exact ⟨rfl, rfl⟩
theorem number_no (g : Nat) (A : Option Addr) (n c : Nat) (l : List Int) (w : World) (hs : Sl w g (.slice A n c) l) (hn : n ≤ 8) (hm : 9223372036854775807 < num l) :
    Calls Try.prog 48 #[.slice A n c] w fun e w' => e = .returned (.tuple #[.int .i64 0, .bool false]) ∧ w' = w := by
  refine (number_any g A n c l w hs hn).mono ?_
  rintro e w' ⟨rfl, rfl⟩
  unfold NumAns
  rw [if_neg (by omega)]
  exact ⟨rfl, rfl⟩

/-- x[k:k+m] -/
theorem slice_mid (A : Option Addr) (n c k m : Nat) (hk : k + m ≤ n) (hc : n ≤ c) : ∃ A', (∀ W : World, (Instr.sliceAt 27 (.slice A n c) (some (.int .i64 (k : Int))) (some (.int .i64 ((k : Int) + (m : Int)))) none).run Try.prog W = .ok (.slice A' m (c - k)) W) ∧
    ∀ (W : World) (g : Nat) (l : List Int), Sl W g (.slice A n c) l → Sl W g (.slice A' m (c - k)) ((l.drop k).take m) := by
  refine ⟨if c = k then A else A.map (·.add k), fun W => ?_, fun W g l h => ?_⟩
  · rw [run_sliceAt_slice W 27 _ _ _ _ under27, run_slice_lh W 27 A n c under27 .i64 .i64 k ((k : Int) + m) (by omega) (by omega) (by omega), Int.toNat_natCast, show ((k : Int) + (m : Int)).toNat = k + m by omega, elem27]
    simp only [Result.andThen, sliced, Nat.mul_one, Nat.add_sub_cancel_left]
  · have := h.drop k (by rw [h.len]; omega)
    rw [h.len] at this
    exact this.take m (by rw [List.length_drop, h.len]; omega)

theorem rget_arg (p g k : Nat) (all : List Int) (size : Int) (w : World) (h : RR w p g all k) (hs : size < 1 ∨ 8 < size) :
    Calls Try.prog 29 #[.pointer (some ⟨p, 0, none⟩), .int .i64 size] w fun e w' => e = .returned (.tuple #[.int .i64 0, .int .i64 2]) ∧ w = w' := by
  go_enter Try.func29, Try.ntmps29
  go_wp2_with (go_at_call 42; refine (rsize_no size _ hs).mono ?_; rintro e w1 ⟨rfl, rfl⟩)
  go_ret2
  exact ⟨rfl, rfl⟩

set_option maxHeartbeats 1000000 in
theorem rget_trunc (p g k : Nat) (all : List Int) (m : Nat) (w : World) (h : RR w p g all k) (h1 : 1 ≤ m) (h8 : m ≤ 8) (hl : all.length - k < m) :
    Calls Try.prog 29 #[.pointer (some ⟨p, 0, none⟩), .int .i64 m] w fun e w' => e = .returned (.tuple #[.int .i64 0, .int .i64 3]) ∧ ∃ q, w' = w.drewN q := by
  have hka : k ≤ all.length := by obtain ⟨_, _, _, _, h⟩ := h; exact h
  have H := Lib.hid h
  clear h
  go_enter Try.func29, Try.ntmps29
  go_wp2_with (first
    | (go_at_call 42; refine (rsize_yes m _ (by omega) (by omega)).mono ?_; rintro e w1 ⟨rfl, rfl⟩)
    | (go_at_call 35; refine (rleft_any p g k all _ H.out).mono ?_; rintro e w1 ⟨rfl, q, rfl⟩))
  go_ret2
  exact ⟨rfl, q, rfl⟩

set_option maxHeartbeats 1000000 in
theorem rget_range (p g k : Nat) (all : List Int) (m : Nat) (w : World) (h : RR w p g all k) (h1 : 1 ≤ m) (h8 : m ≤ 8) (hl : m ≤ all.length - k) (hx : 9223372036854775807 < num ((all.drop k).take m)) :
    Calls Try.prog 29 #[.pointer (some ⟨p, 0, none⟩), .int .i64 m] w fun e w' => e = .returned (.tuple #[.int .i64 0, .int .i64 9]) ∧ ∃ q, w' = w.drewN q := by
  have H := Lib.hid h
  obtain ⟨v, g1, g2, g3, g4⟩ := h
  have c0 : w.cell? ⟨p, 0, none⟩ = some v := by rw [cell_of_row w p 0 _ _ _ g1]; rfl
  have c1 : w.cell? ⟨p, 1, none⟩ = some (.int .i64 k) := by rw [cell_of_row w p 1 _ _ _ g1]; rfl
  obtain ⟨A, n, c, rfl⟩ : ∃ A n c, v = .slice A n c := by obtain ⟨_, A, c, e, _⟩ := g2; exact ⟨A, _, c, e⟩
  have hn := g2.len
  have hcap := g2.cap
  unfold maxLen at hcap
  obtain ⟨A', hsl, hsl2⟩ := slice_mid A n c k m (by omega) hcap.1
  have HT : Hid (Sl w g (.slice A' m (c - k)) ((all.drop k).take m)) := hsl2 w g all g2
  have hka : k ≤ all.length := g4
  have hi1 : (k : Int) + (m : Int) ≤ n := by omega
  have hwr : IntKind.i64.wrap ((k : Int) + (m : Int)) = (k : Int) + (m : Int) := IntWalk.i64_in _ (by omega)
  have HX := Lib.hid hx
  clear hsl2 g1 g2 g4 hn hx
  go_enter Try.func29, Try.ntmps29
  go_wp2_with (first
    | (go_at_call 42; refine (rsize_yes m _ (by omega) (by omega)).mono ?_; rintro e w1 ⟨rfl, rfl⟩)
    | (go_at_call 35; refine (rleft_any p g k all _ H.out).mono ?_; rintro e w1 ⟨rfl, q, hq⟩; have e0 : w1.cell? ⟨p, 0, none⟩ = some (.slice A n c) := (by rw [hq]; exact c0); have e1 : w1.cell? ⟨p, 1, none⟩ = some (.int .i64 k) := (by rw [hq]; exact c1); have HT1 : Hid (Sl w1 g (.slice A' m (c - k)) ((all.drop k).take m)) := (by rw [hq]; exact HT.out); have HQ := Lib.hid hq; clear hq))
  go_quiet ((go_at_call 48; refine Calls.quiet_of_same (number_no g A' m (c - k) ((all.drop k).take m) _ (by exact HT1.out) h8 HX.out)))
  go_wp2
  go_ret2
  refine ⟨rfl, q + nq, ?_⟩
  rw [HQ.out, World.drewN_drewN]
set_option maxHeartbeats 1000000 in
theorem rget_ok (p g k : Nat) (all : List Int) (m : Nat) (w : World) (h : RR w p g all k) (h1 : 1 ≤ m) (h8 : m ≤ 8) (hl : m ≤ all.length - k) (N : Int) (hx : num ((all.drop k).take m) = N) (hm : N ≤ 9223372036854775807) :
    Calls Try.prog 29 #[.pointer (some ⟨p, 0, none⟩), .int .i64 m] w fun e w' => e = .returned (.tuple #[.int .i64 N, .int .i64 0]) ∧ RR w' p g all (k + m) ∧ Fr (fun x => x = p) w w' := by
  have H := Lib.hid h
  obtain ⟨v, g1, g2, g3, g4⟩ := h
  have c0 : w.cell? ⟨p, 0, none⟩ = some v := by rw [cell_of_row w p 0 _ _ _ g1]; rfl
  have c1 : w.cell? ⟨p, 1, none⟩ = some (.int .i64 k) := by rw [cell_of_row w p 1 _ _ _ g1]; rfl
  obtain ⟨A, n, c, rfl⟩ : ∃ A n c, v = .slice A n c := by obtain ⟨_, A, c, e, _⟩ := g2; exact ⟨A, _, c, e⟩
  have hn := g2.len
  have hcap := g2.cap
  unfold maxLen at hcap
  obtain ⟨A', hsl, hsl2⟩ := slice_mid A n c k m (by omega) hcap.1
  have HT : Hid (Sl w g (.slice A' m (c - k)) ((all.drop k).take m)) := hsl2 w g all g2
  have hka : k ≤ all.length := g4
  have hi1 : (k : Int) + (m : Int) ≤ n := by omega
  have hwr : IntKind.i64.wrap ((k : Int) + (m : Int)) = (k : Int) + (m : Int) := IntWalk.i64_in _ (by omega)
  have HX := Lib.hid hx
  have G1 := Lib.hid g1
  have G2 := Lib.hid g2
  have hp := heap_lt g1
  clear hsl2 g1 g2 g4 hn hx
  go_enter Try.func29, Try.ntmps29
  go_wp2_with (first
    | (go_at_call 42; refine (rsize_yes m _ (by omega) (by omega)).mono ?_; rintro e w1 ⟨rfl, rfl⟩)
    | (go_at_call 35; refine (rleft_any p g k all _ H.out).mono ?_; rintro e w1 ⟨rfl, q, hq⟩; have e0 : w1.cell? ⟨p, 0, none⟩ = some (.slice A n c) := (by rw [hq]; exact c0); have e1 : w1.cell? ⟨p, 1, none⟩ = some (.int .i64 k) := (by rw [hq]; exact c1); have HT1 : Hid (Sl w1 g (.slice A' m (c - k)) ((all.drop k).take m)) := (by rw [hq]; exact HT.out); have HQ := Lib.hid hq; clear hq))
  go_quiet ((go_at_call 48; refine Calls.quiet_of_same (number_yes g A' m (c - k) ((all.drop k).take m) _ (by exact HT1.out) h8 N HX.out hm)))
  have HW : Hid ((w1.drewN nq).heap[p]? = some (.cells #[.slice A n c, .int .i64 k] 70 (0, 0))) := by
    show _ = _
    rw [HQ.out]; exact G1.out
  have x1 : (w1.drewN nq).cell? ⟨p, 1, none⟩ = some (.int .i64 k) := by rw [cell_of_row _ p 1 _ _ _ HW.out]; rfl
  have x2 : (w1.drewN nq).frozen? ⟨p, 1, none⟩ = false := frozen_of_row _ p 1 _ _ HW.out
  have FW : Hid (Fr (fun x => x = p) w (w1.drewN nq)) := by
    show Fr _ _ _
    rw [HQ.out]; exact (((Fr.refl _ w).drewN q).drewN nq)
  generalize w1.drewN nq = w2 at *
  go_wp2
  go_ret2
  have F : Fr (fun x => x = p) w (w2.setCell ⟨p, 1, none⟩ (.int .i64 ((k : Int) + m))) := Fr.setCell FW.out (p := ⟨p, 1, none⟩) _ (.inl rfl)
  refine ⟨rfl, ⟨_, ?_, G2.out.fr F (fun _ e => g3 e.symm), g3, by omega⟩, F⟩
  have := heap_setCell_same w2 p 1 _ _ (.int .i64 ((k : Int) + m)) HW.out
  rw [this]
  simp
end Go.Proofs.Ytkkicekhkidhjaa
