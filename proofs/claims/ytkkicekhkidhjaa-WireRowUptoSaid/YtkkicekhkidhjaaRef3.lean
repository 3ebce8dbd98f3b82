/- The reference's reader: what Bytes answers. Condition: a reader that lies in memory. -/
import Derived.Test.YtkkicekhkidhjaaRef2
namespace Go.Proofs.Ytkkicekhkidhjaa
set_option linter.unusedSimpArgs false
set_option linter.unusedVariables false
open Go.RowKit

theorem rb_neg (p g k : Nat) (all : List Int) (n : Int) (w : World) (h : RR w p g all k) (hn : n < 0) :
    Calls Try.prog 31 #[.pointer (some ⟨p, 0, none⟩), .int .i64 n] w fun e w' => e = .returned (.tuple #[.slice none 0 0, .int .i64 2]) ∧ w = w' := by
  have hd : decide (n < 0) = true := decide_eq_true hn
  go_enter Try.func31, Try.ntmps31
  go_wp2
  go_ret2
  exact ⟨rfl, rfl⟩

theorem rb_trunc (p g k : Nat) (all : List Int) (n : Int) (w : World) (h : RR w p g all k) (h0 : 0 ≤ n) (hl : (all.length : Int) - k < n) :
    Calls Try.prog 31 #[.pointer (some ⟨p, 0, none⟩), .int .i64 n] w fun e w' => e = .returned (.tuple #[.slice none 0 0, .int .i64 3]) ∧ ∃ q, w' = w.drewN q := by
  have H := Lib.hid h
  clear h
  have hd : decide (n < 0) = false := decide_eq_false (by omega)
  have hd2 : decide ((all.length : Int) - k < n) = true := decide_eq_true hl
  go_enter Try.func31, Try.ntmps31
  go_wp2_with (go_at_call 35; refine (rleft_any p g k all _ H.out).mono ?_; rintro e w1 ⟨rfl, q, rfl⟩)
  go_ret2
  exact ⟨rfl, q, rfl⟩

set_option maxHeartbeats 1000000 in
theorem rb_ok (p g k : Nat) (all : List Int) (m : Nat) (w : World) (h : RR w p g all k) (hl : m ≤ all.length - k) (hm : m ≤ 140737488355328) :
    Calls Try.prog 31 #[.pointer (some ⟨p, 0, none⟩), .int .i64 m] w fun e w' => ∃ A' c', e = .returned (.tuple #[.slice A' m c', .int .i64 0]) ∧ Ow w' (.slice A' m c') ((all.drop k).take m) ∧ RR w' p g all (k + m) ∧ Fr (fun x => x = p) w w' := by
  have H := Lib.hid h
  obtain ⟨v, g1, g2, g3, g4⟩ := h
  have hka : k ≤ all.length := g4
  have c0 : w.cell? ⟨p, 0, none⟩ = some v := by rw [cell_of_row w p 0 _ _ _ g1]; rfl
  have c1 : w.cell? ⟨p, 1, none⟩ = some (.int .i64 k) := by rw [cell_of_row w p 1 _ _ _ g1]; rfl
  obtain ⟨A, n, c, rfl⟩ : ∃ A n c, v = .slice A n c := by obtain ⟨_, A, c, e, _⟩ := g2; exact ⟨A, _, c, e⟩
  have hn := g2.len
  have hcap := g2.cap
  unfold maxLen at hcap
  obtain ⟨A1, hsl, hsl2⟩ := slice_mid A n c k m (by omega) hcap.1
  have hi1 : (k : Int) + (m : Int) ≤ n := by omega
  have hwr : IntKind.i64.wrap ((k : Int) + (m : Int)) = (k : Int) + (m : Int) := IntWalk.i64_in _ (by omega)
  have hws : IntKind.i64.wrap (k : Int) = (k : Int) := IntWalk.i64_in _ (by omega)
  have hd : decide ((m : Int) < 0) = false := decide_eq_false (by omega)
  have hd2 : decide ((all.length : Int) - k < (m : Int)) = false := decide_eq_false (by omega)
  have HSL := Lib.hid hsl2
  have G1 := Lib.hid g1
  have G2 := Lib.hid g2
  have G3 := Lib.hid g3
  have hp := heap_lt g1
  clear hsl2 g1 g2 g4 hn
  go_enter Try.func31, Try.ntmps31
  go_wp2_with (go_at_call 35; refine (rleft_any p g k all _ H.out).mono ?_; rintro e w1 ⟨rfl, q, hq⟩; have e0 : w1.cell? ⟨p, 0, none⟩ = some (.slice A n c) := (by rw [hq]; exact c0); have e1 : w1.cell? ⟨p, 1, none⟩ = some (.int .i64 k) := (by rw [hq]; exact c1); have HQ := Lib.hid hq; have HW : Hid (w1.heap[p]? = some (.cells #[.slice A n c, .int .i64 k] 70 (0, 0))) := (by rw [hq]; exact G1.out); have x2 : w1.frozen? ⟨p, 1, none⟩ = false := frozen_of_row _ p 1 _ _ HW.out; clear hq)
  have F1 : Hid (Fr (fun x => x = p) w (w1.setCell ⟨p, 1, none⟩ (.int .i64 ((k : Int) + m)))) := by
    show Fr _ _ _
    rw [HQ.out]; exact Fr.setCell ((Fr.refl _ w).drewN q) (p := ⟨p, 1, none⟩) _ (.inl rfl)
  have HX : Hid ((w1.setCell ⟨p, 1, none⟩ (.int .i64 ((k : Int) + m))).heap[p]? = some (.cells #[.slice A n c, .int .i64 ((k : Int) + m)] 70 (0, 0))) := by
    show _ = _
    have := heap_setCell_same w1 p 1 _ _ (.int .i64 ((k : Int) + m)) HW.out
    rw [this]
    simp
  generalize w1.setCell ⟨p, 1, none⟩ (.int .i64 ((k : Int) + m)) = w2 at *
  have f0 : w2.cell? ⟨p, 0, none⟩ = some (.slice A n c) := by rw [cell_of_row w2 p 0 _ _ _ HX.out]; rfl
  have f1 : w2.cell? ⟨p, 1, none⟩ = some (.int .i64 ((k : Int) + m)) := by rw [cell_of_row w2 p 1 _ _ _ HX.out]; rfl
  have hks : (k : Int) + m - m = k := by omega
  refine wp_region_still_tail 15 (by kernel_rfl) (by kernel_rfl) ?_
  simp only [List.take_succ_cons, List.take_zero, List.drop_succ_cons, List.drop_zero]
  iterate 15 still_step
  refine wpStill_nil ?_
  change wpList _ _ _ _ _ w2.drew
  have X7 : Hid (Sl w2.drew g (.slice A1 m (c - k)) ((all.drop k).take m)) := HSL.out _ _ _ (G2.out.fr F1.out.drew (fun _ e => G3.out e.symm))
  have F7 := Lib.hid F1.out.drew
  have HX7 : Hid (w2.drew.heap[p]? = some (.cells #[.slice A n c, .int .i64 ((k : Int) + m)] 70 (0, 0))) := HX.out
  generalize w2.drew = w3 at *
  go_wp2_with (at_builtin; refine wpList_own rfl (.const (.slice none 0 0)) (.tmp 35) rfl (Ow.nil w3) rfl rfl X7.out (by simpa using hm) ?_; intro A2 N2 c2 w4 hap hN2; have HN2 := Lib.hid hN2; have HAP := Lib.hid hap; clear hN2 hap)
  go_ret2
  have e : N2 = m := by rw [HN2.out, List.nil_append, List.length_take, List.length_drop]; omega
  subst e
  have F2 : Fr (fun _ => False) w3 w4 := (Fr.refl _ w3).grown HAP.out.grown (fun k hk => by cases hk)
  have hp3 : p < w3.heap.size := heap_lt HX7.out
  exact ⟨A2, c2, rfl, HAP.out.own, ⟨_, (F2.block p hp3 (fun x => x)).trans HX7.out, (G2.out.fr F7.out (fun _ e => G3.out e.symm)).fr F2 (fun _ x => x), G3.out, by omega⟩, F7.out.trans F2.any⟩
end Go.Proofs.Ytkkicekhkidhjaa
