/- The reference's reader: what Octets answers. Condition: a reader that lies in memory. -/
import Derived.Test.YtkkicekhkidhjaaRef3
namespace Go.Proofs.Ytkkicekhkidhjaa
set_option linter.unusedSimpArgs false
set_option linter.unusedVariables false
open Go.RowKit

theorem ro_short (p g k : Nat) (all : List Int) (most : Int) (w : World) (h : RR w p g all k) (hl : all.length - k < 2) :
    Calls Try.prog 33 #[.pointer (some ⟨p, 0, none⟩), .int .i64 most] w fun e w' => e = .returned (.tuple #[.slice none 0 0, .int .i64 3]) ∧ ∃ q, w' = w.drewN q := by
  have hka : k ≤ all.length := by obtain ⟨_, _, _, _, h⟩ := h; exact h
  have H := Lib.hid h
  clear h
  have hd : decide ((all.length : Int) - k < 2) = true := decide_eq_true (by omega)
  go_enter Try.func33, Try.ntmps33
  go_wp2_with (go_at_call 35; refine (rleft_any p g k all _ H.out).mono ?_; rintro e w1 ⟨rfl, q, rfl⟩)
  go_ret2
  exact ⟨rfl, q, rfl⟩

set_option maxHeartbeats 1000000 in
theorem ro_limit (N p g k : Nat) (all : List Int) (most : Int) (w : World) (h : RR w p g all k) (hl : 2 ≤ all.length - k) (hN : (N : Int) = num ((all.drop k).take 2)) (hN2 : N ≤ 65535) (hm : most < N) :
    Calls Try.prog 33 #[.pointer (some ⟨p, 0, none⟩), .int .i64 most] w fun e w' => e = .returned (.tuple #[.slice none 0 0, .int .i64 5]) ∧ ∃ q, w' = w.drewN q := by
  have hd2 : decide (most < (N : Int)) = true := decide_eq_true hm
  have H := Lib.hid h
  obtain ⟨v, g1, g2, g3, g4⟩ := h
  have hka : k ≤ all.length := g4
  have c0 : w.cell? ⟨p, 0, none⟩ = some v := by rw [cell_of_row w p 0 _ _ _ g1]; rfl
  have c1 : w.cell? ⟨p, 1, none⟩ = some (.int .i64 k) := by rw [cell_of_row w p 1 _ _ _ g1]; rfl
  obtain ⟨A, n, c, rfl⟩ : ∃ A n c, v = .slice A n c := by obtain ⟨_, A, c, e, _⟩ := g2; exact ⟨A, _, c, e⟩
  have hn := g2.len
  have hcap := g2.cap
  unfold maxLen at hcap
  obtain ⟨A1, hsl, hsl2⟩ := slice_mid A n c k 2 (by omega) hcap.1
  replace hsl : ∀ W : World, (Instr.sliceAt 27 (.slice A n c) (some (.int .i64 (k : Int))) (some (.int .i64 ((k : Int) + 2))) none).run Try.prog W = .ok (.slice A1 2 (c - k)) W := hsl
  have hi1 : (k : Int) + 2 ≤ n := by omega
  have hwr : IntKind.i64.wrap ((k : Int) + 2) = (k : Int) + 2 := IntWalk.i64_in _ (by omega)
  have hwl : IntKind.i64.wrap ((all.length : Int) - k - 2) = (all.length : Int) - k - 2 := IntWalk.i64_in _ (by omega)
  have hd : decide ((all.length : Int) - k < 2) = false := decide_eq_false (by omega)
  have HT : Hid (Sl w g (.slice A1 2 (c - k)) ((all.drop k).take 2)) := hsl2 w g all g2
  have HX := Lib.hid hN.symm
  have G1 := Lib.hid g1
  have G2 := Lib.hid g2
  have G3 := Lib.hid g3
  have hp := heap_lt g1
  clear hsl2 g1 g2 g4 hn hN
  go_enter Try.func33, Try.ntmps33
  go_wp2_with (go_at_call 35; refine (rleft_any p g k all _ H.out).mono ?_; rintro e w1 ⟨rfl, q, hq⟩; have e0 : w1.cell? ⟨p, 0, none⟩ = some (.slice A n c) := (by rw [hq]; exact c0); have e1 : w1.cell? ⟨p, 1, none⟩ = some (.int .i64 k) := (by rw [hq]; exact c1); have HT1 : Hid (Sl w1 g (.slice A1 2 (c - k)) ((all.drop k).take 2)) := (by rw [hq]; exact HT.out); have HQ := Lib.hid hq; clear hq)
  go_quiet ((go_at_call 48; refine Calls.quiet_of_same (number_yes g A1 2 (c - k) ((all.drop k).take 2) _ (by exact HT1.out) (by decide) N HX.out (by omega))))
  go_wp2
  go_ret2
  refine ⟨rfl, q + nq, ?_⟩
  rw [HQ.out, World.drewN_drewN]

set_option maxHeartbeats 1000000 in
theorem ro_trunc (N p g k : Nat) (all : List Int) (most : Int) (w : World) (h : RR w p g all k) (hl : 2 ≤ all.length - k) (hN : (N : Int) = num ((all.drop k).take 2)) (hN2 : N ≤ 65535) (hm : N ≤ most) (ht : all.length - k - 2 < N) :
    Calls Try.prog 33 #[.pointer (some ⟨p, 0, none⟩), .int .i64 most] w fun e w' => e = .returned (.tuple #[.slice none 0 0, .int .i64 3]) ∧ ∃ q, w' = w.drewN q := by
  have hd2 : decide (most < (N : Int)) = false := decide_eq_false (by omega)
  have hka0 : k ≤ all.length := by obtain ⟨_, _, _, _, h⟩ := h; exact h
  have hd3 : decide ((all.length : Int) - k - 2 < N) = true := decide_eq_true (by omega)
  have H := Lib.hid h
  obtain ⟨v, g1, g2, g3, g4⟩ := h
  have hka : k ≤ all.length := g4
  have c0 : w.cell? ⟨p, 0, none⟩ = some v := by rw [cell_of_row w p 0 _ _ _ g1]; rfl
  have c1 : w.cell? ⟨p, 1, none⟩ = some (.int .i64 k) := by rw [cell_of_row w p 1 _ _ _ g1]; rfl
  obtain ⟨A, n, c, rfl⟩ : ∃ A n c, v = .slice A n c := by obtain ⟨_, A, c, e, _⟩ := g2; exact ⟨A, _, c, e⟩
  have hn := g2.len
  have hcap := g2.cap
  unfold maxLen at hcap
  obtain ⟨A1, hsl, hsl2⟩ := slice_mid A n c k 2 (by omega) hcap.1
  replace hsl : ∀ W : World, (Instr.sliceAt 27 (.slice A n c) (some (.int .i64 (k : Int))) (some (.int .i64 ((k : Int) + 2))) none).run Try.prog W = .ok (.slice A1 2 (c - k)) W := hsl
  have hi1 : (k : Int) + 2 ≤ n := by omega
  have hwr : IntKind.i64.wrap ((k : Int) + 2) = (k : Int) + 2 := IntWalk.i64_in _ (by omega)
  have hwl : IntKind.i64.wrap ((all.length : Int) - k - 2) = (all.length : Int) - k - 2 := IntWalk.i64_in _ (by omega)
  have hd : decide ((all.length : Int) - k < 2) = false := decide_eq_false (by omega)
  have HT : Hid (Sl w g (.slice A1 2 (c - k)) ((all.drop k).take 2)) := hsl2 w g all g2
  have HX := Lib.hid hN.symm
  have G1 := Lib.hid g1
  have G2 := Lib.hid g2
  have G3 := Lib.hid g3
  have hp := heap_lt g1
  clear hsl2 g1 g2 g4 hn hN
  go_enter Try.func33, Try.ntmps33
  go_wp2_with (go_at_call 35; refine (rleft_any p g k all _ H.out).mono ?_; rintro e w1 ⟨rfl, q, hq⟩; have e0 : w1.cell? ⟨p, 0, none⟩ = some (.slice A n c) := (by rw [hq]; exact c0); have e1 : w1.cell? ⟨p, 1, none⟩ = some (.int .i64 k) := (by rw [hq]; exact c1); have HT1 : Hid (Sl w1 g (.slice A1 2 (c - k)) ((all.drop k).take 2)) := (by rw [hq]; exact HT.out); have HQ := Lib.hid hq; clear hq)
  go_quiet ((go_at_call 48; refine Calls.quiet_of_same (number_yes g A1 2 (c - k) ((all.drop k).take 2) _ (by exact HT1.out) (by decide) N HX.out (by omega))))
  have HW : Hid (RR (w1.drewN nq) p g all k) := by
    show RR _ _ _ _ _
    rw [HQ.out]; exact H.out
  have HQ2 : Hid (w1.drewN nq = w.drewN (q + nq)) := by
    show _ = _
    rw [HQ.out, World.drewN_drewN]
  generalize w1.drewN nq = w2 at *
  go_wp2_with (go_at_call 35; refine (rleft_any p g k all _ HW.out).mono ?_; rintro e w3 ⟨rfl, q3, hq3⟩; have HQ3 := Lib.hid hq3; clear hq3)
  go_ret2
  refine ⟨rfl, q + nq + q3, ?_⟩
  rw [HQ3.out, HQ2.out, World.drewN_drewN]

set_option maxHeartbeats 2000000 in
theorem ro_ok (N p g k : Nat) (all : List Int) (most : Int) (w : World) (h : RR w p g all k) (hl : 2 ≤ all.length - k) (hN : (N : Int) = num ((all.drop k).take 2)) (hN2 : N ≤ 65535) (hm : N ≤ most) (ht : N ≤ all.length - k - 2) :
    Calls Try.prog 33 #[.pointer (some ⟨p, 0, none⟩), .int .i64 most] w fun e w' => ∃ A' c', e = .returned (.tuple #[.slice A' N c', .int .i64 0]) ∧ Ow w' (.slice A' N c') ((all.drop (k + 2)).take N) ∧ RR w' p g all (k + 2 + N) ∧ Fr (fun x => x = p) w w' := by
  have hd2 : decide (most < (N : Int)) = false := decide_eq_false (by omega)
  have hka0 : k ≤ all.length := by obtain ⟨_, _, _, _, h⟩ := h; exact h
  have hd3 : decide ((all.length : Int) - k - 2 < N) = false := decide_eq_false (by omega)
  have H := Lib.hid h
  obtain ⟨v, g1, g2, g3, g4⟩ := h
  have hka : k ≤ all.length := g4
  have c0 : w.cell? ⟨p, 0, none⟩ = some v := by rw [cell_of_row w p 0 _ _ _ g1]; rfl
  have c1 : w.cell? ⟨p, 1, none⟩ = some (.int .i64 k) := by rw [cell_of_row w p 1 _ _ _ g1]; rfl
  obtain ⟨A, n, c, rfl⟩ : ∃ A n c, v = .slice A n c := by obtain ⟨_, A, c, e, _⟩ := g2; exact ⟨A, _, c, e⟩
  have hn := g2.len
  have hcap := g2.cap
  unfold maxLen at hcap
  obtain ⟨A1, hsl, hsl2⟩ := slice_mid A n c k 2 (by omega) hcap.1
  replace hsl : ∀ W : World, (Instr.sliceAt 27 (.slice A n c) (some (.int .i64 (k : Int))) (some (.int .i64 ((k : Int) + 2))) none).run Try.prog W = .ok (.slice A1 2 (c - k)) W := hsl
  have hi1 : (k : Int) + 2 ≤ n := by omega
  have hwr : IntKind.i64.wrap ((k : Int) + 2) = (k : Int) + 2 := IntWalk.i64_in _ (by omega)
  have hwl : IntKind.i64.wrap ((all.length : Int) - k - 2) = (all.length : Int) - k - 2 := IntWalk.i64_in _ (by omega)
  have hd : decide ((all.length : Int) - k < 2) = false := decide_eq_false (by omega)
  have HT : Hid (Sl w g (.slice A1 2 (c - k)) ((all.drop k).take 2)) := hsl2 w g all g2
  have HX := Lib.hid hN.symm
  have G1 := Lib.hid g1
  have G2 := Lib.hid g2
  have G3 := Lib.hid g3
  have hp := heap_lt g1
  clear hsl2 g1 g2 g4 hn hN
  go_enter Try.func33, Try.ntmps33
  go_wp2_with (go_at_call 35; refine (rleft_any p g k all _ H.out).mono ?_; rintro e w1 ⟨rfl, q, hq⟩; have e0 : w1.cell? ⟨p, 0, none⟩ = some (.slice A n c) := (by rw [hq]; exact c0); have e1 : w1.cell? ⟨p, 1, none⟩ = some (.int .i64 k) := (by rw [hq]; exact c1); have HT1 : Hid (Sl w1 g (.slice A1 2 (c - k)) ((all.drop k).take 2)) := (by rw [hq]; exact HT.out); have HQ := Lib.hid hq; clear hq)
  go_quiet ((go_at_call 48; refine Calls.quiet_of_same (number_yes g A1 2 (c - k) ((all.drop k).take 2) _ (by exact HT1.out) (by decide) N HX.out (by omega))))
  have HW : Hid (RR (w1.drewN nq) p g all k) := by
    show RR _ _ _ _ _
    rw [HQ.out]; exact H.out
  have HQ2 : Hid (w1.drewN nq = w.drewN (q + nq)) := by
    show _ = _
    rw [HQ.out, World.drewN_drewN]
  generalize w1.drewN nq = w2 at *
  go_wp2_with (first
    | (go_at_call 35; refine (rleft_any p g k all _ HW.out).mono ?_; rintro e w3 ⟨rfl, q3, hq3⟩; have HQ3 := Lib.hid hq3; have HB : Hid (w3.heap[p]? = some (.cells #[.slice A n c, .int .i64 k] 70 (0, 0))) := (by rw [hq3, HQ2.out]; exact G1.out); have x0 : w3.cell? ⟨p, 1, none⟩ = some (.int .i64 k) := (by rw [cell_of_row w3 p 1 _ _ _ HB.out]; rfl); have x2 : w3.frozen? ⟨p, 1, none⟩ = false := frozen_of_row _ p 1 _ _ HB.out; have F3 : Hid (Fr (fun x => x = p) w w3) := (by rw [hq3, HQ2.out]; exact ((Fr.refl _ w).drewN _).drewN _); clear hq3 HW)
    | (go_at_call 31
       have F4 : Hid (Fr (fun x => x = p) w (w3.setCell ⟨p, 1, none⟩ (.int .i64 ((k : Int) + 2)))) := Fr.setCell F3.out (p := ⟨p, 1, none⟩) _ (.inl rfl)
       have R4 : Hid (RR (w3.setCell ⟨p, 1, none⟩ (.int .i64 ((k : Int) + 2))) p g all (k + 2)) := ⟨_, (by have := heap_setCell_same w3 p 1 _ _ (.int .i64 ((k : Int) + 2)) HB.out; rw [this]; simp), G2.out.fr F4.out (fun _ e => G3.out e.symm), G3.out, by omega⟩
       generalize w3.setCell ⟨p, 1, none⟩ (.int .i64 ((k : Int) + 2)) = w4 at *
       refine (rb_ok p g (k + 2) all N w4 R4.out (by omega) (by omega)).mono ?_
       rintro e w5 ⟨A5, c5, rfl, r1, r2, r3⟩
       have O5 := Lib.hid r1; have R5 := Lib.hid r2; have F5 := Lib.hid r3; clear r1 r2 r3))
  go_ret2
  exact ⟨_, _, rfl, O5.out, R5.out, F4.out.trans F5.out⟩
end Go.Proofs.Ytkkicekhkidhjaa
