/- What the reader's Get answers where the bytes are there, size by size. Condition: a reader that lies in memory. -/
import Derived.Test.YtkkicekhkidhjaaReader
namespace Go.Proofs.Ytkkicekhkidhjaa
set_option linter.unusedSimpArgs false
set_option linter.unusedVariables false
open Go.RowKit

set_option maxHeartbeats 2000000 in
theorem get_1 (p g : Nat) (x1 : Int) (l : List Int) (w : World) (h : Rd w p g (x1 :: l)) :
    Calls Try.prog 28 #[.pointer (some ⟨p, 0, none⟩), .int .i64 1] w fun e w' => e = .returned (.tuple #[.int .i64 (num [x1]), .int .i64 0]) ∧ Rd w' p g l ∧ Fr (· = p) w w' := by
  obtain ⟨v, g1, g2, g3⟩ := h
  have c0 : w.cell? ⟨p, 0, none⟩ = some (.bool true) := by rw [cell_of_row w p 0 _ _ _ g1]; rfl
  have c1 : w.cell? ⟨p, 1, none⟩ = some v := by rw [cell_of_row w p 1 _ _ _ g1]; rfl
  have hp := heap_lt g1
  obtain ⟨A, n, c, rfl⟩ : ∃ A n c, v = .slice A n c := by obtain ⟨_, A, c, e, _⟩ := g2; exact ⟨A, _, c, e⟩
  have hn := g2.len
  have hn2 : 1 ≤ n := by simp at hn; omega
  obtain ⟨o, hA, hcell⟩ := g2.at_ (by omega)
  have hcap : n ≤ c ∧ c ≤ maxLen := by obtain ⟨_, A', c', e, h1, h2, _⟩ := g2; injection e with _ e2 e3; omega
  have hgw : g < w.heap.size := by obtain ⟨_, A', c', e, _, _, hx⟩ := g2; exact (hx (by simp)).choose_spec.2.1
  have hb := g2.1
  have b1 := hb x1 (by simp)
  have HG0 : Hid (((w.alloc (.cells [.int .u8 0, .int .u8 0, .int .u8 0, .int .u8 0, .int .u8 0, .int .u8 0, .int .u8 0, .int .u8 0].toArray 72)).drew).heap[w.heap.size]? = some (.cells [.int .u8 0, .int .u8 0, .int .u8 0, .int .u8 0, .int .u8 0, .int .u8 0, .int .u8 0, .int .u8 0].toArray 72 (0, 0))) := heap_alloc_new w _
  have HPOS : Hid (0 < (bs [x1]).length → ∃ ad, A = some ad ∧ ∀ j v, (bs [x1])[j]? = some v → ((w.alloc (.cells [.int .u8 0, .int .u8 0, .int .u8 0, .int .u8 0, .int .u8 0, .int .u8 0, .int .u8 0, .int .u8 0].toArray 72)).drew).cell? (ad.add j) = some v) := by
    intro _
    refine ⟨_, hA, fun j v hv => ?_⟩
    have hj : j < 1 := by
      rcases Nat.lt_or_ge j 1 with h | h
      · exact h
      · rw [List.getElem?_eq_none (by simpa [bs] using h)] at hv; cases hv
    have hcj := hcell j (by omega)
    have hold : ((w.alloc (.cells [.int .u8 0, .int .u8 0, .int .u8 0, .int .u8 0, .int .u8 0, .int .u8 0, .int .u8 0, .int .u8 0].toArray 72)).drew).cell? (Addr.add ⟨g, o, none⟩ j) = w.cell? ⟨g, o + j, none⟩ := by
      rw [Addr_add_none]
      exact World.cell?_alloc_lt w _ _ hgw
    rw [hold, hcj, ← hv]
    obtain rfl : j = 0 := by omega
    rfl
  have HMIN : Hid ((bs [x1]).length = Nat.min n 1) := by show 1 = Nat.min n 1; exact (Nat.min_eq_right hn2).symm
  have HBL : Hid (Below w.heap.size w ((w.alloc (.cells [.int .u8 0, .int .u8 0, .int .u8 0, .int .u8 0, .int .u8 0, .int .u8 0, .int .u8 0, .int .u8 0].toArray 72)).drew)) := ((Below.refl _ _).alloc (Nat.le_refl _) _).drew
  obtain ⟨A', hA'⟩ : ∃ A', A' = (if c = 1 then A else A.map (·.add 1)) := ⟨_, rfl⟩
  have HDR : Hid (Sl w g (.slice A' (n - 1) (c - 1)) l) := by
    have := g2.drop 1 (by simp)
    rw [hn] at this
    rw [hA']
    exact this
  have hsl : ∀ W : World, (Instr.sliceAt 27 (.slice A n c) (some (.int .i64 1)) none none).run Try.prog W = .ok (.slice A' (n - 1) (c - 1)) W := by
    intro W
    rw [run_sliceAt_slice W 27 _ _ _ _ (by kernel_rfl), run_slice_l W 27 A n c (by kernel_rfl) .i64 1 (by omega) (by omega)]
    rw [hA']
    rfl
  have G1 := Lib.hid g1
  have G3 := Lib.hid g3
  have hpg : ¬ w.heap.size = p := by omega
  clear g1 g2 g3 hn hb hcell hA hA' hgw
  have e0 : IntKind.i64.wrap 0 = 0 := by decide
  have e1 : IntKind.i64.wrap 1 = 1 := by decide
  have e2 : IntKind.i64.wrap 2 = 2 := by decide
  have e3 : IntKind.i64.wrap 3 = 3 := by decide
  have e4 : IntKind.i64.wrap 4 = 4 := by decide
  have e5 : IntKind.i64.wrap 5 = 5 := by decide
  have e6 : IntKind.i64.wrap 6 = 6 := by decide
  have e7 : IntKind.i64.wrap 7 = 7 := by decide
  go_enter Try.func28, Try.ntmps28
  go_wp2_with (go_at_call 40; refine (sizeMayBe_yes _ _ (by decide) (by decide)).mono ?_; rintro e w1 ⟨rfl, rfl⟩)
  go_region_law (refine step_copy_splice rfl (.tmp 30) (.tmp 35) 27 27 rfl 5 Try.underlying27 size5 (some ⟨w.heap.size, 7, none⟩) A 1 1 n c rfl rfl w.heap.size 7 [.int .u8 0, .int .u8 0, .int .u8 0, .int .u8 0, .int .u8 0, .int .u8 0, .int .u8 0, .int .u8 0] 72 HG0.out (bs [x1]) HMIN.out (fun h => ⟨rfl, HPOS.out h⟩) (Nat.le_refl 8) (bs_one _) w.heap.size w HBL.out (Nat.le_refl _) ?_; intro w2 hg2 hb2)
  have hf2 := Lib.hid (Fr.of_below (S := fun _ => False) hb2)
  have hs2 : w.heap.size ≤ w2.heap.size := hb2.size
  have hh2 : Hid (w2.heap[w.heap.size]? = some (.cells #[.int .u8 0, .int .u8 0, .int .u8 0, .int .u8 0, .int .u8 0, .int .u8 0, .int .u8 0, .int .u8 x1] 72 (0, 0))) := hg2.out
  have W2 : Hid (w2.heap[p]? = some (.cells #[.bool true, .slice A n c] 61 (0, 0))) := (hf2.out.block p hp (fun x => x)).trans G1.out
  clear hg2 hb2
  go_wp2_with (first
    | (refine wpList_load_row rfl 72 (.tmp 6) rfl w.heap.size rfl 72 #[.int .u8 0, .int .u8 0, .int .u8 0, .int .u8 0, .int .u8 0, .int .u8 0, .int .u8 0, .int .u8 x1] (0, 0) _ ?_ Try.underlying72 rfl size72 ?_
       focus (first | exact hh2.out | exact H4.out _))
    | (go_at_call 46; refine (tooGreat_any _ _ _ _ _ _ _ _ _).mono ?_; rintro e w3 ⟨rfl, r3⟩
       have hs3 : w2.heap.size ≤ w3.heap.size := r3.size
       have W3 : Hid (w3.heap[p]? = some (.cells #[.bool true, .slice A n c] 61 (0, 0))) := (r3.block p (by omega) (fun x => x)).trans W2.out
       have k1 : w3.cell? ⟨p, 1, none⟩ = some (.slice A n c) := by (rw [cell_of_row w3 p 1 _ _ _ W3.out]; rfl)
       have k2 : w3.frozen? ⟨p, 1, none⟩ = false := frozen_of_row w3 p 1 _ _ W3.out
       have H4 : Hid (∀ v, (w3.setCell ⟨p, 1, none⟩ v).heap[w.heap.size]? = some (.cells #[.int .u8 0, .int .u8 0, .int .u8 0, .int .u8 0, .int .u8 0, .int .u8 0, .int .u8 0, .int .u8 x1] 72 (0, 0))) := fun v => (heap_setCell_other w3 _ _ v hpg).trans ((r3.block _ (heap_lt hh2.out) (fun x => x)).trans hh2.out)
       have R3 := Lib.hid r3
       clear r3)
    | (go_at_call 47; refine (value_any 0 0 0 0 0 0 0 x1 _ (by decide) (by decide) (by decide) (by decide) (by decide) (by decide) (by decide) (by decide) (by decide) (by decide) (by decide) (by decide) (by decide) (by decide) b1.1 b1.2).mono ?_; rintro e w4 ⟨rfl, r4⟩
       have R4 := Lib.hid r4
       clear r4))
  go_ret2
  have F3 : Fr (fun _ => False) w w3 := hf2.out.trans R3.out
  have F4 : Fr (· = p) w w4 := (Fr.setCell (S := fun x => x = p) F3.any (p := ⟨p, 1, none⟩) (.slice A' (n - 1) (c - 1)) (.inl rfl)).trans R4.out.any
  refine ⟨?_, ⟨_, ?_, HDR.out.fr F4 (fun _ e => G3.out e.symm), G3.out⟩, F4⟩
  · simp [num]
  · have := heap_setCell_same w3 p 1 _ _ (.slice A' (n - 1) (c - 1)) W3.out
    exact (R4.out.block p (by rw [heap_size_setCell]; exact heap_lt W3.out) (fun x => x)).trans this

set_option maxHeartbeats 2000000 in
theorem get_2 (p g : Nat) (x1 x2 : Int) (l : List Int) (w : World) (h : Rd w p g (x1 :: x2 :: l)) :
    Calls Try.prog 28 #[.pointer (some ⟨p, 0, none⟩), .int .i64 2] w fun e w' => e = .returned (.tuple #[.int .i64 (num [x1, x2]), .int .i64 0]) ∧ Rd w' p g l ∧ Fr (· = p) w w' := by
  obtain ⟨v, g1, g2, g3⟩ := h
  have c0 : w.cell? ⟨p, 0, none⟩ = some (.bool true) := by rw [cell_of_row w p 0 _ _ _ g1]; rfl
  have c1 : w.cell? ⟨p, 1, none⟩ = some v := by rw [cell_of_row w p 1 _ _ _ g1]; rfl
  have hp := heap_lt g1
  obtain ⟨A, n, c, rfl⟩ : ∃ A n c, v = .slice A n c := by obtain ⟨_, A, c, e, _⟩ := g2; exact ⟨A, _, c, e⟩
  have hn := g2.len
  have hn2 : 2 ≤ n := by simp at hn; omega
  obtain ⟨o, hA, hcell⟩ := g2.at_ (by omega)
  have hcap : n ≤ c ∧ c ≤ maxLen := by obtain ⟨_, A', c', e, h1, h2, _⟩ := g2; injection e with _ e2 e3; omega
  have hgw : g < w.heap.size := by obtain ⟨_, A', c', e, _, _, hx⟩ := g2; exact (hx (by simp)).choose_spec.2.1
  have hb := g2.1
  have b1 := hb x1 (by simp)
  have b2 := hb x2 (by simp)
  have HG0 : Hid (((w.alloc (.cells [.int .u8 0, .int .u8 0, .int .u8 0, .int .u8 0, .int .u8 0, .int .u8 0, .int .u8 0, .int .u8 0].toArray 72)).drew).heap[w.heap.size]? = some (.cells [.int .u8 0, .int .u8 0, .int .u8 0, .int .u8 0, .int .u8 0, .int .u8 0, .int .u8 0, .int .u8 0].toArray 72 (0, 0))) := heap_alloc_new w _
  have HPOS : Hid (0 < (bs [x1, x2]).length → ∃ ad, A = some ad ∧ ∀ j v, (bs [x1, x2])[j]? = some v → ((w.alloc (.cells [.int .u8 0, .int .u8 0, .int .u8 0, .int .u8 0, .int .u8 0, .int .u8 0, .int .u8 0, .int .u8 0].toArray 72)).drew).cell? (ad.add j) = some v) := by
    intro _
    refine ⟨_, hA, fun j v hv => ?_⟩
    have hj : j < 2 := by
      rcases Nat.lt_or_ge j 2 with h | h
      · exact h
      · rw [List.getElem?_eq_none (by simpa [bs] using h)] at hv; cases hv
    have hcj := hcell j (by omega)
    have hold : ((w.alloc (.cells [.int .u8 0, .int .u8 0, .int .u8 0, .int .u8 0, .int .u8 0, .int .u8 0, .int .u8 0, .int .u8 0].toArray 72)).drew).cell? (Addr.add ⟨g, o, none⟩ j) = w.cell? ⟨g, o + j, none⟩ := by
      rw [Addr_add_none]
      exact World.cell?_alloc_lt w _ _ hgw
    rw [hold, hcj, ← hv]
    obtain rfl | rfl : j = 0 ∨ j = 1 := by omega
    all_goals rfl
  have HMIN : Hid ((bs [x1, x2]).length = Nat.min n 2) := by show 2 = Nat.min n 2; exact (Nat.min_eq_right hn2).symm
  have HBL : Hid (Below w.heap.size w ((w.alloc (.cells [.int .u8 0, .int .u8 0, .int .u8 0, .int .u8 0, .int .u8 0, .int .u8 0, .int .u8 0, .int .u8 0].toArray 72)).drew)) := ((Below.refl _ _).alloc (Nat.le_refl _) _).drew
  obtain ⟨A', hA'⟩ : ∃ A', A' = (if c = 2 then A else A.map (·.add 2)) := ⟨_, rfl⟩
  have HDR : Hid (Sl w g (.slice A' (n - 2) (c - 2)) l) := by
    have := g2.drop 2 (by simp)
    rw [hn] at this
    rw [hA']
    exact this
  have hsl : ∀ W : World, (Instr.sliceAt 27 (.slice A n c) (some (.int .i64 2)) none none).run Try.prog W = .ok (.slice A' (n - 2) (c - 2)) W := by
    intro W
    rw [run_sliceAt_slice W 27 _ _ _ _ (by kernel_rfl), run_slice_l W 27 A n c (by kernel_rfl) .i64 2 (by omega) (by omega)]
    rw [hA']
    rfl
  have G1 := Lib.hid g1
  have G3 := Lib.hid g3
  have hpg : ¬ w.heap.size = p := by omega
  clear g1 g2 g3 hn hb hcell hA hA' hgw
  have e0 : IntKind.i64.wrap 0 = 0 := by decide
  have e1 : IntKind.i64.wrap 1 = 1 := by decide
  have e2 : IntKind.i64.wrap 2 = 2 := by decide
  have e3 : IntKind.i64.wrap 3 = 3 := by decide
  have e4 : IntKind.i64.wrap 4 = 4 := by decide
  have e5 : IntKind.i64.wrap 5 = 5 := by decide
  have e6 : IntKind.i64.wrap 6 = 6 := by decide
  have e7 : IntKind.i64.wrap 7 = 7 := by decide
  go_enter Try.func28, Try.ntmps28
  go_wp2_with (go_at_call 40; refine (sizeMayBe_yes _ _ (by decide) (by decide)).mono ?_; rintro e w1 ⟨rfl, rfl⟩)
  go_region_law (refine step_copy_splice rfl (.tmp 30) (.tmp 35) 27 27 rfl 5 Try.underlying27 size5 (some ⟨w.heap.size, 6, none⟩) A 2 2 n c rfl rfl w.heap.size 6 [.int .u8 0, .int .u8 0, .int .u8 0, .int .u8 0, .int .u8 0, .int .u8 0, .int .u8 0, .int .u8 0] 72 HG0.out (bs [x1, x2]) HMIN.out (fun h => ⟨rfl, HPOS.out h⟩) (Nat.le_refl 8) (bs_one _) w.heap.size w HBL.out (Nat.le_refl _) ?_; intro w2 hg2 hb2)
  have hf2 := Lib.hid (Fr.of_below (S := fun _ => False) hb2)
  have hs2 : w.heap.size ≤ w2.heap.size := hb2.size
  have hh2 : Hid (w2.heap[w.heap.size]? = some (.cells #[.int .u8 0, .int .u8 0, .int .u8 0, .int .u8 0, .int .u8 0, .int .u8 0, .int .u8 x1, .int .u8 x2] 72 (0, 0))) := hg2.out
  have W2 : Hid (w2.heap[p]? = some (.cells #[.bool true, .slice A n c] 61 (0, 0))) := (hf2.out.block p hp (fun x => x)).trans G1.out
  clear hg2 hb2
  go_wp2_with (first
    | (refine wpList_load_row rfl 72 (.tmp 6) rfl w.heap.size rfl 72 #[.int .u8 0, .int .u8 0, .int .u8 0, .int .u8 0, .int .u8 0, .int .u8 0, .int .u8 x1, .int .u8 x2] (0, 0) _ ?_ Try.underlying72 rfl size72 ?_
       focus (first | exact hh2.out | exact H4.out _))
    | (go_at_call 46; refine (tooGreat_any _ _ _ _ _ _ _ _ _).mono ?_; rintro e w3 ⟨rfl, r3⟩
       have hs3 : w2.heap.size ≤ w3.heap.size := r3.size
       have W3 : Hid (w3.heap[p]? = some (.cells #[.bool true, .slice A n c] 61 (0, 0))) := (r3.block p (by omega) (fun x => x)).trans W2.out
       have k1 : w3.cell? ⟨p, 1, none⟩ = some (.slice A n c) := by (rw [cell_of_row w3 p 1 _ _ _ W3.out]; rfl)
       have k2 : w3.frozen? ⟨p, 1, none⟩ = false := frozen_of_row w3 p 1 _ _ W3.out
       have H4 : Hid (∀ v, (w3.setCell ⟨p, 1, none⟩ v).heap[w.heap.size]? = some (.cells #[.int .u8 0, .int .u8 0, .int .u8 0, .int .u8 0, .int .u8 0, .int .u8 0, .int .u8 x1, .int .u8 x2] 72 (0, 0))) := fun v => (heap_setCell_other w3 _ _ v hpg).trans ((r3.block _ (heap_lt hh2.out) (fun x => x)).trans hh2.out)
       have R3 := Lib.hid r3
       clear r3)
    | (go_at_call 47; refine (value_any 0 0 0 0 0 0 x1 x2 _ (by decide) (by decide) (by decide) (by decide) (by decide) (by decide) (by decide) (by decide) (by decide) (by decide) (by decide) (by decide) b1.1 b1.2 b2.1 b2.2).mono ?_; rintro e w4 ⟨rfl, r4⟩
       have R4 := Lib.hid r4
       clear r4))
  go_ret2
  have F3 : Fr (fun _ => False) w w3 := hf2.out.trans R3.out
  have F4 : Fr (· = p) w w4 := (Fr.setCell (S := fun x => x = p) F3.any (p := ⟨p, 1, none⟩) (.slice A' (n - 2) (c - 2)) (.inl rfl)).trans R4.out.any
  refine ⟨?_, ⟨_, ?_, HDR.out.fr F4 (fun _ e => G3.out e.symm), G3.out⟩, F4⟩
  · simp [num]
  · have := heap_setCell_same w3 p 1 _ _ (.slice A' (n - 2) (c - 2)) W3.out
    exact (R4.out.block p (by rw [heap_size_setCell]; exact heap_lt W3.out) (fun x => x)).trans this

set_option maxHeartbeats 2000000 in
theorem get_3 (p g : Nat) (x1 x2 x3 : Int) (l : List Int) (w : World) (h : Rd w p g (x1 :: x2 :: x3 :: l)) :
    Calls Try.prog 28 #[.pointer (some ⟨p, 0, none⟩), .int .i64 3] w fun e w' => e = .returned (.tuple #[.int .i64 (num [x1, x2, x3]), .int .i64 0]) ∧ Rd w' p g l ∧ Fr (· = p) w w' := by
  obtain ⟨v, g1, g2, g3⟩ := h
  have c0 : w.cell? ⟨p, 0, none⟩ = some (.bool true) := by rw [cell_of_row w p 0 _ _ _ g1]; rfl
  have c1 : w.cell? ⟨p, 1, none⟩ = some v := by rw [cell_of_row w p 1 _ _ _ g1]; rfl
  have hp := heap_lt g1
  obtain ⟨A, n, c, rfl⟩ : ∃ A n c, v = .slice A n c := by obtain ⟨_, A, c, e, _⟩ := g2; exact ⟨A, _, c, e⟩
  have hn := g2.len
  have hn2 : 3 ≤ n := by simp at hn; omega
  obtain ⟨o, hA, hcell⟩ := g2.at_ (by omega)
  have hcap : n ≤ c ∧ c ≤ maxLen := by obtain ⟨_, A', c', e, h1, h2, _⟩ := g2; injection e with _ e2 e3; omega
  have hgw : g < w.heap.size := by obtain ⟨_, A', c', e, _, _, hx⟩ := g2; exact (hx (by simp)).choose_spec.2.1
  have hb := g2.1
  have b1 := hb x1 (by simp)
  have b2 := hb x2 (by simp)
  have b3 := hb x3 (by simp)
  have HG0 : Hid (((w.alloc (.cells [.int .u8 0, .int .u8 0, .int .u8 0, .int .u8 0, .int .u8 0, .int .u8 0, .int .u8 0, .int .u8 0].toArray 72)).drew).heap[w.heap.size]? = some (.cells [.int .u8 0, .int .u8 0, .int .u8 0, .int .u8 0, .int .u8 0, .int .u8 0, .int .u8 0, .int .u8 0].toArray 72 (0, 0))) := heap_alloc_new w _
  have HPOS : Hid (0 < (bs [x1, x2, x3]).length → ∃ ad, A = some ad ∧ ∀ j v, (bs [x1, x2, x3])[j]? = some v → ((w.alloc (.cells [.int .u8 0, .int .u8 0, .int .u8 0, .int .u8 0, .int .u8 0, .int .u8 0, .int .u8 0, .int .u8 0].toArray 72)).drew).cell? (ad.add j) = some v) := by
    intro _
    refine ⟨_, hA, fun j v hv => ?_⟩
    have hj : j < 3 := by
      rcases Nat.lt_or_ge j 3 with h | h
      · exact h
      · rw [List.getElem?_eq_none (by simpa [bs] using h)] at hv; cases hv
    have hcj := hcell j (by omega)
    have hold : ((w.alloc (.cells [.int .u8 0, .int .u8 0, .int .u8 0, .int .u8 0, .int .u8 0, .int .u8 0, .int .u8 0, .int .u8 0].toArray 72)).drew).cell? (Addr.add ⟨g, o, none⟩ j) = w.cell? ⟨g, o + j, none⟩ := by
      rw [Addr_add_none]
      exact World.cell?_alloc_lt w _ _ hgw
    rw [hold, hcj, ← hv]
    obtain rfl | rfl | rfl : j = 0 ∨ j = 1 ∨ j = 2 := by omega
    all_goals rfl
  have HMIN : Hid ((bs [x1, x2, x3]).length = Nat.min n 3) := by show 3 = Nat.min n 3; exact (Nat.min_eq_right hn2).symm
  have HBL : Hid (Below w.heap.size w ((w.alloc (.cells [.int .u8 0, .int .u8 0, .int .u8 0, .int .u8 0, .int .u8 0, .int .u8 0, .int .u8 0, .int .u8 0].toArray 72)).drew)) := ((Below.refl _ _).alloc (Nat.le_refl _) _).drew
  obtain ⟨A', hA'⟩ : ∃ A', A' = (if c = 3 then A else A.map (·.add 3)) := ⟨_, rfl⟩
  have HDR : Hid (Sl w g (.slice A' (n - 3) (c - 3)) l) := by
    have := g2.drop 3 (by simp)
    rw [hn] at this
    rw [hA']
    exact this
  have hsl : ∀ W : World, (Instr.sliceAt 27 (.slice A n c) (some (.int .i64 3)) none none).run Try.prog W = .ok (.slice A' (n - 3) (c - 3)) W := by
    intro W
    rw [run_sliceAt_slice W 27 _ _ _ _ (by kernel_rfl), run_slice_l W 27 A n c (by kernel_rfl) .i64 3 (by omega) (by omega)]
    rw [hA']
    rfl
  have G1 := Lib.hid g1
  have G3 := Lib.hid g3
  have hpg : ¬ w.heap.size = p := by omega
  clear g1 g2 g3 hn hb hcell hA hA' hgw
  have e0 : IntKind.i64.wrap 0 = 0 := by decide
  have e1 : IntKind.i64.wrap 1 = 1 := by decide
  have e2 : IntKind.i64.wrap 2 = 2 := by decide
  have e3 : IntKind.i64.wrap 3 = 3 := by decide
  have e4 : IntKind.i64.wrap 4 = 4 := by decide
  have e5 : IntKind.i64.wrap 5 = 5 := by decide
  have e6 : IntKind.i64.wrap 6 = 6 := by decide
  have e7 : IntKind.i64.wrap 7 = 7 := by decide
  go_enter Try.func28, Try.ntmps28
  go_wp2_with (go_at_call 40; refine (sizeMayBe_yes _ _ (by decide) (by decide)).mono ?_; rintro e w1 ⟨rfl, rfl⟩)
  go_region_law (refine step_copy_splice rfl (.tmp 30) (.tmp 35) 27 27 rfl 5 Try.underlying27 size5 (some ⟨w.heap.size, 5, none⟩) A 3 3 n c rfl rfl w.heap.size 5 [.int .u8 0, .int .u8 0, .int .u8 0, .int .u8 0, .int .u8 0, .int .u8 0, .int .u8 0, .int .u8 0] 72 HG0.out (bs [x1, x2, x3]) HMIN.out (fun h => ⟨rfl, HPOS.out h⟩) (Nat.le_refl 8) (bs_one _) w.heap.size w HBL.out (Nat.le_refl _) ?_; intro w2 hg2 hb2)
  have hf2 := Lib.hid (Fr.of_below (S := fun _ => False) hb2)
  have hs2 : w.heap.size ≤ w2.heap.size := hb2.size
  have hh2 : Hid (w2.heap[w.heap.size]? = some (.cells #[.int .u8 0, .int .u8 0, .int .u8 0, .int .u8 0, .int .u8 0, .int .u8 x1, .int .u8 x2, .int .u8 x3] 72 (0, 0))) := hg2.out
  have W2 : Hid (w2.heap[p]? = some (.cells #[.bool true, .slice A n c] 61 (0, 0))) := (hf2.out.block p hp (fun x => x)).trans G1.out
  clear hg2 hb2
  go_wp2_with (first
    | (refine wpList_load_row rfl 72 (.tmp 6) rfl w.heap.size rfl 72 #[.int .u8 0, .int .u8 0, .int .u8 0, .int .u8 0, .int .u8 0, .int .u8 x1, .int .u8 x2, .int .u8 x3] (0, 0) _ ?_ Try.underlying72 rfl size72 ?_
       focus (first | exact hh2.out | exact H4.out _))
    | (go_at_call 46; refine (tooGreat_any _ _ _ _ _ _ _ _ _).mono ?_; rintro e w3 ⟨rfl, r3⟩
       have hs3 : w2.heap.size ≤ w3.heap.size := r3.size
       have W3 : Hid (w3.heap[p]? = some (.cells #[.bool true, .slice A n c] 61 (0, 0))) := (r3.block p (by omega) (fun x => x)).trans W2.out
       have k1 : w3.cell? ⟨p, 1, none⟩ = some (.slice A n c) := by (rw [cell_of_row w3 p 1 _ _ _ W3.out]; rfl)
       have k2 : w3.frozen? ⟨p, 1, none⟩ = false := frozen_of_row w3 p 1 _ _ W3.out
       have H4 : Hid (∀ v, (w3.setCell ⟨p, 1, none⟩ v).heap[w.heap.size]? = some (.cells #[.int .u8 0, .int .u8 0, .int .u8 0, .int .u8 0, .int .u8 0, .int .u8 x1, .int .u8 x2, .int .u8 x3] 72 (0, 0))) := fun v => (heap_setCell_other w3 _ _ v hpg).trans ((r3.block _ (heap_lt hh2.out) (fun x => x)).trans hh2.out)
       have R3 := Lib.hid r3
       clear r3)
    | (go_at_call 47; refine (value_any 0 0 0 0 0 x1 x2 x3 _ (by decide) (by decide) (by decide) (by decide) (by decide) (by decide) (by decide) (by decide) (by decide) (by decide) b1.1 b1.2 b2.1 b2.2 b3.1 b3.2).mono ?_; rintro e w4 ⟨rfl, r4⟩
       have R4 := Lib.hid r4
       clear r4))
  go_ret2
  have F3 : Fr (fun _ => False) w w3 := hf2.out.trans R3.out
  have F4 : Fr (· = p) w w4 := (Fr.setCell (S := fun x => x = p) F3.any (p := ⟨p, 1, none⟩) (.slice A' (n - 3) (c - 3)) (.inl rfl)).trans R4.out.any
  refine ⟨?_, ⟨_, ?_, HDR.out.fr F4 (fun _ e => G3.out e.symm), G3.out⟩, F4⟩
  · simp [num]
  · have := heap_setCell_same w3 p 1 _ _ (.slice A' (n - 3) (c - 3)) W3.out
    exact (R4.out.block p (by rw [heap_size_setCell]; exact heap_lt W3.out) (fun x => x)).trans this

set_option maxHeartbeats 2000000 in
theorem get_4 (p g : Nat) (x1 x2 x3 x4 : Int) (l : List Int) (w : World) (h : Rd w p g (x1 :: x2 :: x3 :: x4 :: l)) :
    Calls Try.prog 28 #[.pointer (some ⟨p, 0, none⟩), .int .i64 4] w fun e w' => e = .returned (.tuple #[.int .i64 (num [x1, x2, x3, x4]), .int .i64 0]) ∧ Rd w' p g l ∧ Fr (· = p) w w' := by
  obtain ⟨v, g1, g2, g3⟩ := h
  have c0 : w.cell? ⟨p, 0, none⟩ = some (.bool true) := by rw [cell_of_row w p 0 _ _ _ g1]; rfl
  have c1 : w.cell? ⟨p, 1, none⟩ = some v := by rw [cell_of_row w p 1 _ _ _ g1]; rfl
  have hp := heap_lt g1
  obtain ⟨A, n, c, rfl⟩ : ∃ A n c, v = .slice A n c := by obtain ⟨_, A, c, e, _⟩ := g2; exact ⟨A, _, c, e⟩
  have hn := g2.len
  have hn2 : 4 ≤ n := by simp at hn; omega
  obtain ⟨o, hA, hcell⟩ := g2.at_ (by omega)
  have hcap : n ≤ c ∧ c ≤ maxLen := by obtain ⟨_, A', c', e, h1, h2, _⟩ := g2; injection e with _ e2 e3; omega
  have hgw : g < w.heap.size := by obtain ⟨_, A', c', e, _, _, hx⟩ := g2; exact (hx (by simp)).choose_spec.2.1
  have hb := g2.1
  have b1 := hb x1 (by simp)
  have b2 := hb x2 (by simp)
  have b3 := hb x3 (by simp)
  have b4 := hb x4 (by simp)
  have HG0 : Hid (((w.alloc (.cells [.int .u8 0, .int .u8 0, .int .u8 0, .int .u8 0, .int .u8 0, .int .u8 0, .int .u8 0, .int .u8 0].toArray 72)).drew).heap[w.heap.size]? = some (.cells [.int .u8 0, .int .u8 0, .int .u8 0, .int .u8 0, .int .u8 0, .int .u8 0, .int .u8 0, .int .u8 0].toArray 72 (0, 0))) := heap_alloc_new w _
  have HPOS : Hid (0 < (bs [x1, x2, x3, x4]).length → ∃ ad, A = some ad ∧ ∀ j v, (bs [x1, x2, x3, x4])[j]? = some v → ((w.alloc (.cells [.int .u8 0, .int .u8 0, .int .u8 0, .int .u8 0, .int .u8 0, .int .u8 0, .int .u8 0, .int .u8 0].toArray 72)).drew).cell? (ad.add j) = some v) := by
    intro _
    refine ⟨_, hA, fun j v hv => ?_⟩
    have hj : j < 4 := by
      rcases Nat.lt_or_ge j 4 with h | h
      · exact h
      · rw [List.getElem?_eq_none (by simpa [bs] using h)] at hv; cases hv
    have hcj := hcell j (by omega)
    have hold : ((w.alloc (.cells [.int .u8 0, .int .u8 0, .int .u8 0, .int .u8 0, .int .u8 0, .int .u8 0, .int .u8 0, .int .u8 0].toArray 72)).drew).cell? (Addr.add ⟨g, o, none⟩ j) = w.cell? ⟨g, o + j, none⟩ := by
      rw [Addr_add_none]
      exact World.cell?_alloc_lt w _ _ hgw
    rw [hold, hcj, ← hv]
    obtain rfl | rfl | rfl | rfl : j = 0 ∨ j = 1 ∨ j = 2 ∨ j = 3 := by omega
    all_goals rfl
  have HMIN : Hid ((bs [x1, x2, x3, x4]).length = Nat.min n 4) := by show 4 = Nat.min n 4; exact (Nat.min_eq_right hn2).symm
  have HBL : Hid (Below w.heap.size w ((w.alloc (.cells [.int .u8 0, .int .u8 0, .int .u8 0, .int .u8 0, .int .u8 0, .int .u8 0, .int .u8 0, .int .u8 0].toArray 72)).drew)) := ((Below.refl _ _).alloc (Nat.le_refl _) _).drew
  obtain ⟨A', hA'⟩ : ∃ A', A' = (if c = 4 then A else A.map (·.add 4)) := ⟨_, rfl⟩
  have HDR : Hid (Sl w g (.slice A' (n - 4) (c - 4)) l) := by
    have := g2.drop 4 (by simp)
    rw [hn] at this
    rw [hA']
    exact this
  have hsl : ∀ W : World, (Instr.sliceAt 27 (.slice A n c) (some (.int .i64 4)) none none).run Try.prog W = .ok (.slice A' (n - 4) (c - 4)) W := by
    intro W
    rw [run_sliceAt_slice W 27 _ _ _ _ (by kernel_rfl), run_slice_l W 27 A n c (by kernel_rfl) .i64 4 (by omega) (by omega)]
    rw [hA']
    rfl
  have G1 := Lib.hid g1
  have G3 := Lib.hid g3
  have hpg : ¬ w.heap.size = p := by omega
  clear g1 g2 g3 hn hb hcell hA hA' hgw
  have e0 : IntKind.i64.wrap 0 = 0 := by decide
  have e1 : IntKind.i64.wrap 1 = 1 := by decide
  have e2 : IntKind.i64.wrap 2 = 2 := by decide
  have e3 : IntKind.i64.wrap 3 = 3 := by decide
  have e4 : IntKind.i64.wrap 4 = 4 := by decide
  have e5 : IntKind.i64.wrap 5 = 5 := by decide
  have e6 : IntKind.i64.wrap 6 = 6 := by decide
  have e7 : IntKind.i64.wrap 7 = 7 := by decide
  go_enter Try.func28, Try.ntmps28
  go_wp2_with (go_at_call 40; refine (sizeMayBe_yes _ _ (by decide) (by decide)).mono ?_; rintro e w1 ⟨rfl, rfl⟩)
  go_region_law (refine step_copy_splice rfl (.tmp 30) (.tmp 35) 27 27 rfl 5 Try.underlying27 size5 (some ⟨w.heap.size, 4, none⟩) A 4 4 n c rfl rfl w.heap.size 4 [.int .u8 0, .int .u8 0, .int .u8 0, .int .u8 0, .int .u8 0, .int .u8 0, .int .u8 0, .int .u8 0] 72 HG0.out (bs [x1, x2, x3, x4]) HMIN.out (fun h => ⟨rfl, HPOS.out h⟩) (Nat.le_refl 8) (bs_one _) w.heap.size w HBL.out (Nat.le_refl _) ?_; intro w2 hg2 hb2)
  have hf2 := Lib.hid (Fr.of_below (S := fun _ => False) hb2)
  have hs2 : w.heap.size ≤ w2.heap.size := hb2.size
  have hh2 : Hid (w2.heap[w.heap.size]? = some (.cells #[.int .u8 0, .int .u8 0, .int .u8 0, .int .u8 0, .int .u8 x1, .int .u8 x2, .int .u8 x3, .int .u8 x4] 72 (0, 0))) := hg2.out
  have W2 : Hid (w2.heap[p]? = some (.cells #[.bool true, .slice A n c] 61 (0, 0))) := (hf2.out.block p hp (fun x => x)).trans G1.out
  clear hg2 hb2
  go_wp2_with (first
    | (refine wpList_load_row rfl 72 (.tmp 6) rfl w.heap.size rfl 72 #[.int .u8 0, .int .u8 0, .int .u8 0, .int .u8 0, .int .u8 x1, .int .u8 x2, .int .u8 x3, .int .u8 x4] (0, 0) _ ?_ Try.underlying72 rfl size72 ?_
       focus (first | exact hh2.out | exact H4.out _))
    | (go_at_call 46; refine (tooGreat_any _ _ _ _ _ _ _ _ _).mono ?_; rintro e w3 ⟨rfl, r3⟩
       have hs3 : w2.heap.size ≤ w3.heap.size := r3.size
       have W3 : Hid (w3.heap[p]? = some (.cells #[.bool true, .slice A n c] 61 (0, 0))) := (r3.block p (by omega) (fun x => x)).trans W2.out
       have k1 : w3.cell? ⟨p, 1, none⟩ = some (.slice A n c) := by (rw [cell_of_row w3 p 1 _ _ _ W3.out]; rfl)
       have k2 : w3.frozen? ⟨p, 1, none⟩ = false := frozen_of_row w3 p 1 _ _ W3.out
       have H4 : Hid (∀ v, (w3.setCell ⟨p, 1, none⟩ v).heap[w.heap.size]? = some (.cells #[.int .u8 0, .int .u8 0, .int .u8 0, .int .u8 0, .int .u8 x1, .int .u8 x2, .int .u8 x3, .int .u8 x4] 72 (0, 0))) := fun v => (heap_setCell_other w3 _ _ v hpg).trans ((r3.block _ (heap_lt hh2.out) (fun x => x)).trans hh2.out)
       have R3 := Lib.hid r3
       clear r3)
    | (go_at_call 47; refine (value_any 0 0 0 0 x1 x2 x3 x4 _ (by decide) (by decide) (by decide) (by decide) (by decide) (by decide) (by decide) (by decide) b1.1 b1.2 b2.1 b2.2 b3.1 b3.2 b4.1 b4.2).mono ?_; rintro e w4 ⟨rfl, r4⟩
       have R4 := Lib.hid r4
       clear r4))
  go_ret2
  have F3 : Fr (fun _ => False) w w3 := hf2.out.trans R3.out
  have F4 : Fr (· = p) w w4 := (Fr.setCell (S := fun x => x = p) F3.any (p := ⟨p, 1, none⟩) (.slice A' (n - 4) (c - 4)) (.inl rfl)).trans R4.out.any
  refine ⟨?_, ⟨_, ?_, HDR.out.fr F4 (fun _ e => G3.out e.symm), G3.out⟩, F4⟩
  · simp [num]
  · have := heap_setCell_same w3 p 1 _ _ (.slice A' (n - 4) (c - 4)) W3.out
    exact (R4.out.block p (by rw [heap_size_setCell]; exact heap_lt W3.out) (fun x => x)).trans this
end Go.Proofs.Ytkkicekhkidhjaa
