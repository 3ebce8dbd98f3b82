/- What the reader's Get answers where the bytes are there, size by size. Condition: a reader that lies in memory. -/
import Derived.Test.YtkkicekhkidhjaaReader
namespace Go.Proofs.Ytkkicekhkidhjaa
set_option linter.unusedSimpArgs false
set_option linter.unusedVariables false
open Go.RowKit

set_option maxHeartbeats 2000000 in
theorem get_5 (p g : Nat) (x1 x2 x3 x4 x5 : Int) (l : List Int) (w : World) (h : Rd w p g (x1 :: x2 :: x3 :: x4 :: x5 :: l)) :
    Calls Try.prog 28 #[.pointer (some ⟨p, 0, none⟩), .int .i64 5] w fun e w' => e = .returned (.tuple #[.int .i64 (num [x1, x2, x3, x4, x5]), .int .i64 0]) ∧ Rd w' p g l ∧ Fr (· = p) w w' := by
  obtain ⟨v, g1, g2, g3⟩ := h
  have c0 : w.cell? ⟨p, 0, none⟩ = some (.bool true) := by rw [cell_of_row w p 0 _ _ _ g1]; rfl
  have c1 : w.cell? ⟨p, 1, none⟩ = some v := by rw [cell_of_row w p 1 _ _ _ g1]; rfl
  have hp := heap_lt g1
  obtain ⟨A, n, c, rfl⟩ : ∃ A n c, v = .slice A n c := by obtain ⟨_, A, c, e, _⟩ := g2; exact ⟨A, _, c, e⟩
  have hn := g2.len
  have hn2 : 5 ≤ n := by simp at hn; omega
  obtain ⟨o, hA, hcell⟩ := g2.at_ (by omega)
  have hcap : n ≤ c ∧ c ≤ maxLen := by obtain ⟨_, A', c', e, h1, h2, _⟩ := g2; injection e with _ e2 e3; omega
  have hgw : g < w.heap.size := by obtain ⟨_, A', c', e, _, _, hx⟩ := g2; exact (hx (by simp)).choose_spec.2.1
  have hb := g2.1
  have b1 := hb x1 (by simp)
  have b2 := hb x2 (by simp)
  have b3 := hb x3 (by simp)
  have b4 := hb x4 (by simp)
  have b5 := hb x5 (by simp)
  have HG0 : Hid (((w.alloc (.cells [.int .u8 0, .int .u8 0, .int .u8 0, .int .u8 0, .int .u8 0, .int .u8 0, .int .u8 0, .int .u8 0].toArray 72)).drew).heap[w.heap.size]? = some (.cells [.int .u8 0, .int .u8 0, .int .u8 0, .int .u8 0, .int .u8 0, .int .u8 0, .int .u8 0, .int .u8 0].toArray 72 (0, 0))) := heap_alloc_new w _
  have HPOS : Hid (0 < (bs [x1, x2, x3, x4, x5]).length → ∃ ad, A = some ad ∧ ∀ j v, (bs [x1, x2, x3, x4, x5])[j]? = some v → ((w.alloc (.cells [.int .u8 0, .int .u8 0, .int .u8 0, .int .u8 0, .int .u8 0, .int .u8 0, .int .u8 0, .int .u8 0].toArray 72)).drew).cell? (ad.add j) = some v) := by
    intro _
    refine ⟨_, hA, fun j v hv => ?_⟩
    have hj : j < 5 := by
      rcases Nat.lt_or_ge j 5 with h | h
      · exact h
      · rw [List.getElem?_eq_none (by simpa [bs] using h)] at hv; cases hv
    have hcj := hcell j (by omega)
    have hold : ((w.alloc (.cells [.int .u8 0, .int .u8 0, .int .u8 0, .int .u8 0, .int .u8 0, .int .u8 0, .int .u8 0, .int .u8 0].toArray 72)).drew).cell? (Addr.add ⟨g, o, none⟩ j) = w.cell? ⟨g, o + j, none⟩ := by
      rw [Addr_add_none]
      exact World.cell?_alloc_lt w _ _ hgw
    rw [hold, hcj, ← hv]
    obtain rfl | rfl | rfl | rfl | rfl : j = 0 ∨ j = 1 ∨ j = 2 ∨ j = 3 ∨ j = 4 := by omega
    all_goals rfl
  have HMIN : Hid ((bs [x1, x2, x3, x4, x5]).length = Nat.min n 5) := by show 5 = Nat.min n 5; exact (Nat.min_eq_right hn2).symm
  have HBL : Hid (Below w.heap.size w ((w.alloc (.cells [.int .u8 0, .int .u8 0, .int .u8 0, .int .u8 0, .int .u8 0, .int .u8 0, .int .u8 0, .int .u8 0].toArray 72)).drew)) := ((Below.refl _ _).alloc (Nat.le_refl _) _).drew
  obtain ⟨A', hA'⟩ : ∃ A', A' = (if c = 5 then A else A.map (·.add 5)) := ⟨_, rfl⟩
  have HDR : Hid (Sl w g (.slice A' (n - 5) (c - 5)) l) := by
    have := g2.drop 5 (by simp)
    rw [hn] at this
    rw [hA']
    exact this
  have hsl : ∀ W : World, (Instr.sliceAt 27 (.slice A n c) (some (.int .i64 5)) none none).run Try.prog W = .ok (.slice A' (n - 5) (c - 5)) W := by
    intro W
    rw [run_sliceAt_slice W 27 _ _ _ _ (by kernel_rfl), run_slice_l W 27 A n c (by kernel_rfl) .i64 5 (by omega) (by omega)]
    rw [hA']
    rfl
  have G1 := Lib.hid g1
  have G3 := Lib.hid g3
  have hpg : ¬ w.heap.size = p := by omega
  clear g1 g2 g3 hn hb hcell hA hA' hgw
  have e0 : IntKind.i64.wrap 0 = 0 := by decide
  have e1 : IntKind.i64.wrap 1 = 1 := by decide
  have e2 : IntKind.i64.wrap 2 = 2 := by decide
  have e3 : IntKind.i64.wrap 3 = 3 := by decide
  have e4 : IntKind.i64.wrap 4 = 4 := by decide
  have e5 : IntKind.i64.wrap 5 = 5 := by decide
  have e6 : IntKind.i64.wrap 6 = 6 := by decide
  have e7 : IntKind.i64.wrap 7 = 7 := by decide
  go_enter Try.func28, Try.ntmps28
  go_wp2_with (go_at_call 40; refine (sizeMayBe_yes _ _ (by decide) (by decide)).mono ?_; rintro e w1 ⟨rfl, rfl⟩)
  go_region_law (refine step_copy_splice rfl (.tmp 30) (.tmp 35) 27 27 rfl 5 Try.underlying27 size5 (some ⟨w.heap.size, 3, none⟩) A 5 5 n c rfl rfl w.heap.size 3 [.int .u8 0, .int .u8 0, .int .u8 0, .int .u8 0, .int .u8 0, .int .u8 0, .int .u8 0, .int .u8 0] 72 HG0.out (bs [x1, x2, x3, x4, x5]) HMIN.out (fun h => ⟨rfl, HPOS.out h⟩) (Nat.le_refl 8) (bs_one _) w.heap.size w HBL.out (Nat.le_refl _) ?_; intro w2 hg2 hb2)
  have hf2 := Lib.hid (Fr.of_below (S := fun _ => False) hb2)
  have hs2 : w.heap.size ≤ w2.heap.size := hb2.size
  have hh2 : Hid (w2.heap[w.heap.size]? = some (.cells #[.int .u8 0, .int .u8 0, .int .u8 0, .int .u8 x1, .int .u8 x2, .int .u8 x3, .int .u8 x4, .int .u8 x5] 72 (0, 0))) := hg2.out
  have W2 : Hid (w2.heap[p]? = some (.cells #[.bool true, .slice A n c] 61 (0, 0))) := (hf2.out.block p hp (fun x => x)).trans G1.out
  clear hg2 hb2
  go_wp2_with (first
    | (refine wpList_load_row rfl 72 (.tmp 6) rfl w.heap.size rfl 72 #[.int .u8 0, .int .u8 0, .int .u8 0, .int .u8 x1, .int .u8 x2, .int .u8 x3, .int .u8 x4, .int .u8 x5] (0, 0) _ ?_ Try.underlying72 rfl size72 ?_
       focus (first | exact hh2.out | exact H4.out _))
    | (go_at_call 46; refine (tooGreat_any _ _ _ _ _ _ _ _ _).mono ?_; rintro e w3 ⟨rfl, r3⟩
       have hs3 : w2.heap.size ≤ w3.heap.size := r3.size
       have W3 : Hid (w3.heap[p]? = some (.cells #[.bool true, .slice A n c] 61 (0, 0))) := (r3.block p (by omega) (fun x => x)).trans W2.out
       have k1 : w3.cell? ⟨p, 1, none⟩ = some (.slice A n c) := by (rw [cell_of_row w3 p 1 _ _ _ W3.out]; rfl)
       have k2 : w3.frozen? ⟨p, 1, none⟩ = false := frozen_of_row w3 p 1 _ _ W3.out
       have H4 : Hid (∀ v, (w3.setCell ⟨p, 1, none⟩ v).heap[w.heap.size]? = some (.cells #[.int .u8 0, .int .u8 0, .int .u8 0, .int .u8 x1, .int .u8 x2, .int .u8 x3, .int .u8 x4, .int .u8 x5] 72 (0, 0))) := fun v => (heap_setCell_other w3 _ _ v hpg).trans ((r3.block _ (heap_lt hh2.out) (fun x => x)).trans hh2.out)
       have R3 := Lib.hid r3
       clear r3)
    | (go_at_call 47; refine (value_any 0 0 0 x1 x2 x3 x4 x5 _ (by decide) (by decide) (by decide) (by decide) (by decide) (by decide) b1.1 b1.2 b2.1 b2.2 b3.1 b3.2 b4.1 b4.2 b5.1 b5.2).mono ?_; rintro e w4 ⟨rfl, r4⟩
       have R4 := Lib.hid r4
       clear r4))
  go_ret2
  have F3 : Fr (fun _ => False) w w3 := hf2.out.trans R3.out
  have F4 : Fr (· = p) w w4 := (Fr.setCell (S := fun x => x = p) F3.any (p := ⟨p, 1, none⟩) (.slice A' (n - 5) (c - 5)) (.inl rfl)).trans R4.out.any
  refine ⟨?_, ⟨_, ?_, HDR.out.fr F4 (fun _ e => G3.out e.symm), G3.out⟩, F4⟩
  · simp [num]
  · have := heap_setCell_same w3 p 1 _ _ (.slice A' (n - 5) (c - 5)) W3.out
    exact (R4.out.block p (by rw [heap_size_setCell]; exact heap_lt W3.out) (fun x => x)).trans this

set_option maxHeartbeats 2000000 in
theorem get_6 (p g : Nat) (x1 x2 x3 x4 x5 x6 : Int) (l : List Int) (w : World) (h : Rd w p g (x1 :: x2 :: x3 :: x4 :: x5 :: x6 :: l)) :
    Calls Try.prog 28 #[.pointer (some ⟨p, 0, none⟩), .int .i64 6] w fun e w' => e = .returned (.tuple #[.int .i64 (num [x1, x2, x3, x4, x5, x6]), .int .i64 0]) ∧ Rd w' p g l ∧ Fr (· = p) w w' := by
  obtain ⟨v, g1, g2, g3⟩ := h
  have c0 : w.cell? ⟨p, 0, none⟩ = some (.bool true) := by rw [cell_of_row w p 0 _ _ _ g1]; rfl
  have c1 : w.cell? ⟨p, 1, none⟩ = some v := by rw [cell_of_row w p 1 _ _ _ g1]; rfl
  have hp := heap_lt g1
  obtain ⟨A, n, c, rfl⟩ : ∃ A n c, v = .slice A n c := by obtain ⟨_, A, c, e, _⟩ := g2; exact ⟨A, _, c, e⟩
  have hn := g2.len
  have hn2 : 6 ≤ n := by simp at hn; omega
  obtain ⟨o, hA, hcell⟩ := g2.at_ (by omega)
  have hcap : n ≤ c ∧ c ≤ maxLen := by obtain ⟨_, A', c', e, h1, h2, _⟩ := g2; injection e with _ e2 e3; omega
  have hgw : g < w.heap.size := by obtain ⟨_, A', c', e, _, _, hx⟩ := g2; exact (hx (by simp)).choose_spec.2.1
  have hb := g2.1
  have b1 := hb x1 (by simp)
  have b2 := hb x2 (by simp)
  have b3 := hb x3 (by simp)
  have b4 := hb x4 (by simp)
  have b5 := hb x5 (by simp)
  have b6 := hb x6 (by simp)
  have HG0 : Hid (((w.alloc (.cells [.int .u8 0, .int .u8 0, .int .u8 0, .int .u8 0, .int .u8 0, .int .u8 0, .int .u8 0, .int .u8 0].toArray 72)).drew).heap[w.heap.size]? = some (.cells [.int .u8 0, .int .u8 0, .int .u8 0, .int .u8 0, .int .u8 0, .int .u8 0, .int .u8 0, .int .u8 0].toArray 72 (0, 0))) := heap_alloc_new w _
  have HPOS : Hid (0 < (bs [x1, x2, x3, x4, x5, x6]).length → ∃ ad, A = some ad ∧ ∀ j v, (bs [x1, x2, x3, x4, x5, x6])[j]? = some v → ((w.alloc (.cells [.int .u8 0, .int .u8 0, .int .u8 0, .int .u8 0, .int .u8 0, .int .u8 0, .int .u8 0, .int .u8 0].toArray 72)).drew).cell? (ad.add j) = some v) := by
    intro _
    refine ⟨_, hA, fun j v hv => ?_⟩
    have hj : j < 6 := by
      rcases Nat.lt_or_ge j 6 with h | h
      · exact h
      · rw [List.getElem?_eq_none (by simpa [bs] using h)] at hv; cases hv
    have hcj := hcell j (by omega)
    have hold : ((w.alloc (.cells [.int .u8 0, .int .u8 0, .int .u8 0, .int .u8 0, .int .u8 0, .int .u8 0, .int .u8 0, .int .u8 0].toArray 72)).drew).cell? (Addr.add ⟨g, o, none⟩ j) = w.cell? ⟨g, o + j, none⟩ := by
      rw [Addr_add_none]
      exact World.cell?_alloc_lt w _ _ hgw
    rw [hold, hcj, ← hv]
    obtain rfl | rfl | rfl | rfl | rfl | rfl : j = 0 ∨ j = 1 ∨ j = 2 ∨ j = 3 ∨ j = 4 ∨ j = 5 := by omega
    all_goals rfl
  have HMIN : Hid ((bs [x1, x2, x3, x4, x5, x6]).length = Nat.min n 6) := by show 6 = Nat.min n 6; exact (Nat.min_eq_right hn2).symm
  have HBL : Hid (Below w.heap.size w ((w.alloc (.cells [.int .u8 0, .int .u8 0, .int .u8 0, .int .u8 0, .int .u8 0, .int .u8 0, .int .u8 0, .int .u8 0].toArray 72)).drew)) := ((Below.refl _ _).alloc (Nat.le_refl _) _).drew
  obtain ⟨A', hA'⟩ : ∃ A', A' = (if c = 6 then A else A.map (·.add 6)) := ⟨_, rfl⟩
  have HDR : Hid (Sl w g (.slice A' (n - 6) (c - 6)) l) := by
    have := g2.drop 6 (by simp)
    rw [hn] at this
    rw [hA']
    exact this
  have hsl : ∀ W : World, (Instr.sliceAt 27 (.slice A n c) (some (.int .i64 6)) none none).run Try.prog W = .ok (.slice A' (n - 6) (c - 6)) W := by
    intro W
    rw [run_sliceAt_slice W 27 _ _ _ _ (by kernel_rfl), run_slice_l W 27 A n c (by kernel_rfl) .i64 6 (by omega) (by omega)]
    rw [hA']
    rfl
  have G1 := Lib.hid g1
  have G3 := Lib.hid g3
  have hpg : ¬ w.heap.size = p := by omega
  clear g1 g2 g3 hn hb hcell hA hA' hgw
  have e0 : IntKind.i64.wrap 0 = 0 := by decide
  have e1 : IntKind.i64.wrap 1 = 1 := by decide
  have e2 : IntKind.i64.wrap 2 = 2 := by decide
  have e3 : IntKind.i64.wrap 3 = 3 := by decide
  have e4 : IntKind.i64.wrap 4 = 4 := by decide
  have e5 : IntKind.i64.wrap 5 = 5 := by decide
  have e6 : IntKind.i64.wrap 6 = 6 := by decide
  have e7 : IntKind.i64.wrap 7 = 7 := by decide
  go_enter Try.func28, Try.ntmps28
  go_wp2_with (go_at_call 40; refine (sizeMayBe_yes _ _ (by decide) (by decide)).mono ?_; rintro e w1 ⟨rfl, rfl⟩)
  go_region_law (refine step_copy_splice rfl (.tmp 30) (.tmp 35) 27 27 rfl 5 Try.underlying27 size5 (some ⟨w.heap.size, 2, none⟩) A 6 6 n c rfl rfl w.heap.size 2 [.int .u8 0, .int .u8 0, .int .u8 0, .int .u8 0, .int .u8 0, .int .u8 0, .int .u8 0, .int .u8 0] 72 HG0.out (bs [x1, x2, x3, x4, x5, x6]) HMIN.out (fun h => ⟨rfl, HPOS.out h⟩) (Nat.le_refl 8) (bs_one _) w.heap.size w HBL.out (Nat.le_refl _) ?_; intro w2 hg2 hb2)
  have hf2 := Lib.hid (Fr.of_below (S := fun _ => False) hb2)
  have hs2 : w.heap.size ≤ w2.heap.size := hb2.size
  have hh2 : Hid (w2.heap[w.heap.size]? = some (.cells #[.int .u8 0, .int .u8 0, .int .u8 x1, .int .u8 x2, .int .u8 x3, .int .u8 x4, .int .u8 x5, .int .u8 x6] 72 (0, 0))) := hg2.out
  have W2 : Hid (w2.heap[p]? = some (.cells #[.bool true, .slice A n c] 61 (0, 0))) := (hf2.out.block p hp (fun x => x)).trans G1.out
  clear hg2 hb2
  go_wp2_with (first
    | (refine wpList_load_row rfl 72 (.tmp 6) rfl w.heap.size rfl 72 #[.int .u8 0, .int .u8 0, .int .u8 x1, .int .u8 x2, .int .u8 x3, .int .u8 x4, .int .u8 x5, .int .u8 x6] (0, 0) _ ?_ Try.underlying72 rfl size72 ?_
       focus (first | exact hh2.out | exact H4.out _))
    | (go_at_call 46; refine (tooGreat_any _ _ _ _ _ _ _ _ _).mono ?_; rintro e w3 ⟨rfl, r3⟩
       have hs3 : w2.heap.size ≤ w3.heap.size := r3.size
       have W3 : Hid (w3.heap[p]? = some (.cells #[.bool true, .slice A n c] 61 (0, 0))) := (r3.block p (by omega) (fun x => x)).trans W2.out
       have k1 : w3.cell? ⟨p, 1, none⟩ = some (.slice A n c) := by (rw [cell_of_row w3 p 1 _ _ _ W3.out]; rfl)
       have k2 : w3.frozen? ⟨p, 1, none⟩ = false := frozen_of_row w3 p 1 _ _ W3.out
       have H4 : Hid (∀ v, (w3.setCell ⟨p, 1, none⟩ v).heap[w.heap.size]? = some (.cells #[.int .u8 0, .int .u8 0, .int .u8 x1, .int .u8 x2, .int .u8 x3, .int .u8 x4, .int .u8 x5, .int .u8 x6] 72 (0, 0))) := fun v => (heap_setCell_other w3 _ _ v hpg).trans ((r3.block _ (heap_lt hh2.out) (fun x => x)).trans hh2.out)
       have R3 := Lib.hid r3
       clear r3)
    | (go_at_call 47; refine (value_any 0 0 x1 x2 x3 x4 x5 x6 _ (by decide) (by decide) (by decide) (by decide) b1.1 b1.2 b2.1 b2.2 b3.1 b3.2 b4.1 b4.2 b5.1 b5.2 b6.1 b6.2).mono ?_; rintro e w4 ⟨rfl, r4⟩
       have R4 := Lib.hid r4
       clear r4))
  go_ret2
  have F3 : Fr (fun _ => False) w w3 := hf2.out.trans R3.out
  have F4 : Fr (· = p) w w4 := (Fr.setCell (S := fun x => x = p) F3.any (p := ⟨p, 1, none⟩) (.slice A' (n - 6) (c - 6)) (.inl rfl)).trans R4.out.any
  refine ⟨?_, ⟨_, ?_, HDR.out.fr F4 (fun _ e => G3.out e.symm), G3.out⟩, F4⟩
  · simp [num]
  · have := heap_setCell_same w3 p 1 _ _ (.slice A' (n - 6) (c - 6)) W3.out
    exact (R4.out.block p (by rw [heap_size_setCell]; exact heap_lt W3.out) (fun x => x)).trans this

set_option maxHeartbeats 2000000 in
theorem get_7 (p g : Nat) (x1 x2 x3 x4 x5 x6 x7 : Int) (l : List Int) (w : World) (h : Rd w p g (x1 :: x2 :: x3 :: x4 :: x5 :: x6 :: x7 :: l)) :
    Calls Try.prog 28 #[.pointer (some ⟨p, 0, none⟩), .int .i64 7] w fun e w' => e = .returned (.tuple #[.int .i64 (num [x1, x2, x3, x4, x5, x6, x7]), .int .i64 0]) ∧ Rd w' p g l ∧ Fr (· = p) w w' := by
  obtain ⟨v, g1, g2, g3⟩ := h
  have c0 : w.cell? ⟨p, 0, none⟩ = some (.bool true) := by rw [cell_of_row w p 0 _ _ _ g1]; rfl
  have c1 : w.cell? ⟨p, 1, none⟩ = some v := by rw [cell_of_row w p 1 _ _ _ g1]; rfl
  have hp := heap_lt g1
  obtain ⟨A, n, c, rfl⟩ : ∃ A n c, v = .slice A n c := by obtain ⟨_, A, c, e, _⟩ := g2; exact ⟨A, _, c, e⟩
  have hn := g2.len
  have hn2 : 7 ≤ n := by simp at hn; omega
  obtain ⟨o, hA, hcell⟩ := g2.at_ (by omega)
  have hcap : n ≤ c ∧ c ≤ maxLen := by obtain ⟨_, A', c', e, h1, h2, _⟩ := g2; injection e with _ e2 e3; omega
  have hgw : g < w.heap.size := by obtain ⟨_, A', c', e, _, _, hx⟩ := g2; exact (hx (by simp)).choose_spec.2.1
  have hb := g2.1
  have b1 := hb x1 (by simp)
  have b2 := hb x2 (by simp)
  have b3 := hb x3 (by simp)
  have b4 := hb x4 (by simp)
  have b5 := hb x5 (by simp)
  have b6 := hb x6 (by simp)
  have b7 := hb x7 (by simp)
  have HG0 : Hid (((w.alloc (.cells [.int .u8 0, .int .u8 0, .int .u8 0, .int .u8 0, .int .u8 0, .int .u8 0, .int .u8 0, .int .u8 0].toArray 72)).drew).heap[w.heap.size]? = some (.cells [.int .u8 0, .int .u8 0, .int .u8 0, .int .u8 0, .int .u8 0, .int .u8 0, .int .u8 0, .int .u8 0].toArray 72 (0, 0))) := heap_alloc_new w _
  have HPOS : Hid (0 < (bs [x1, x2, x3, x4, x5, x6, x7]).length → ∃ ad, A = some ad ∧ ∀ j v, (bs [x1, x2, x3, x4, x5, x6, x7])[j]? = some v → ((w.alloc (.cells [.int .u8 0, .int .u8 0, .int .u8 0, .int .u8 0, .int .u8 0, .int .u8 0, .int .u8 0, .int .u8 0].toArray 72)).drew).cell? (ad.add j) = some v) := by
    intro _
    refine ⟨_, hA, fun j v hv => ?_⟩
    have hj : j < 7 := by
      rcases Nat.lt_or_ge j 7 with h | h
      · exact h
      · rw [List.getElem?_eq_none (by simpa [bs] using h)] at hv; cases hv
    have hcj := hcell j (by omega)
    have hold : ((w.alloc (.cells [.int .u8 0, .int .u8 0, .int .u8 0, .int .u8 0, .int .u8 0, .int .u8 0, .int .u8 0, .int .u8 0].toArray 72)).drew).cell? (Addr.add ⟨g, o, none⟩ j) = w.cell? ⟨g, o + j, none⟩ := by
      rw [Addr_add_none]
      exact World.cell?_alloc_lt w _ _ hgw
    rw [hold, hcj, ← hv]
    obtain rfl | rfl | rfl | rfl | rfl | rfl | rfl : j = 0 ∨ j = 1 ∨ j = 2 ∨ j = 3 ∨ j = 4 ∨ j = 5 ∨ j = 6 := by omega
    all_goals rfl
  have HMIN : Hid ((bs [x1, x2, x3, x4, x5, x6, x7]).length = Nat.min n 7) := by show 7 = Nat.min n 7; exact (Nat.min_eq_right hn2).symm
  have HBL : Hid (Below w.heap.size w ((w.alloc (.cells [.int .u8 0, .int .u8 0, .int .u8 0, .int .u8 0, .int .u8 0, .int .u8 0, .int .u8 0, .int .u8 0].toArray 72)).drew)) := ((Below.refl _ _).alloc (Nat.le_refl _) _).drew
  obtain ⟨A', hA'⟩ : ∃ A', A' = (if c = 7 then A else A.map (·.add 7)) := ⟨_, rfl⟩
  have HDR : Hid (Sl w g (.slice A' (n - 7) (c - 7)) l) := by
    have := g2.drop 7 (by simp)
    rw [hn] at this
    rw [hA']
    exact this
  have hsl : ∀ W : World, (Instr.sliceAt 27 (.slice A n c) (some (.int .i64 7)) none none).run Try.prog W = .ok (.slice A' (n - 7) (c - 7)) W := by
    intro W
    rw [run_sliceAt_slice W 27 _ _ _ _ (by kernel_rfl), run_slice_l W 27 A n c (by kernel_rfl) .i64 7 (by omega) (by omega)]
    rw [hA']
    rfl
  have G1 := Lib.hid g1
  have G3 := Lib.hid g3
  have hpg : ¬ w.heap.size = p := by omega
  clear g1 g2 g3 hn hb hcell hA hA' hgw
  have e0 : IntKind.i64.wrap 0 = 0 := by decide
  have e1 : IntKind.i64.wrap 1 = 1 := by decide
  have e2 : IntKind.i64.wrap 2 = 2 := by decide
  have e3 : IntKind.i64.wrap 3 = 3 := by decide
  have e4 : IntKind.i64.wrap 4 = 4 := by decide
  have e5 : IntKind.i64.wrap 5 = 5 := by decide
  have e6 : IntKind.i64.wrap 6 = 6 := by decide
  have e7 : IntKind.i64.wrap 7 = 7 := by decide
  go_enter Try.func28, Try.ntmps28
  go_wp2_with (go_at_call 40; refine (sizeMayBe_yes _ _ (by decide) (by decide)).mono ?_; rintro e w1 ⟨rfl, rfl⟩)
  go_region_law (refine step_copy_splice rfl (.tmp 30) (.tmp 35) 27 27 rfl 5 Try.underlying27 size5 (some ⟨w.heap.size, 1, none⟩) A 7 7 n c rfl rfl w.heap.size 1 [.int .u8 0, .int .u8 0, .int .u8 0, .int .u8 0, .int .u8 0, .int .u8 0, .int .u8 0, .int .u8 0] 72 HG0.out (bs [x1, x2, x3, x4, x5, x6, x7]) HMIN.out (fun h => ⟨rfl, HPOS.out h⟩) (Nat.le_refl 8) (bs_one _) w.heap.size w HBL.out (Nat.le_refl _) ?_; intro w2 hg2 hb2)
  have hf2 := Lib.hid (Fr.of_below (S := fun _ => False) hb2)
  have hs2 : w.heap.size ≤ w2.heap.size := hb2.size
  have hh2 : Hid (w2.heap[w.heap.size]? = some (.cells #[.int .u8 0, .int .u8 x1, .int .u8 x2, .int .u8 x3, .int .u8 x4, .int .u8 x5, .int .u8 x6, .int .u8 x7] 72 (0, 0))) := hg2.out
  have W2 : Hid (w2.heap[p]? = some (.cells #[.bool true, .slice A n c] 61 (0, 0))) := (hf2.out.block p hp (fun x => x)).trans G1.out
  clear hg2 hb2
  go_wp2_with (first
    | (refine wpList_load_row rfl 72 (.tmp 6) rfl w.heap.size rfl 72 #[.int .u8 0, .int .u8 x1, .int .u8 x2, .int .u8 x3, .int .u8 x4, .int .u8 x5, .int .u8 x6, .int .u8 x7] (0, 0) _ ?_ Try.underlying72 rfl size72 ?_
       focus (first | exact hh2.out | exact H4.out _))
    | (go_at_call 46; refine (tooGreat_any _ _ _ _ _ _ _ _ _).mono ?_; rintro e w3 ⟨rfl, r3⟩
       have hs3 : w2.heap.size ≤ w3.heap.size := r3.size
       have W3 : Hid (w3.heap[p]? = some (.cells #[.bool true, .slice A n c] 61 (0, 0))) := (r3.block p (by omega) (fun x => x)).trans W2.out
       have k1 : w3.cell? ⟨p, 1, none⟩ = some (.slice A n c) := by (rw [cell_of_row w3 p 1 _ _ _ W3.out]; rfl)
       have k2 : w3.frozen? ⟨p, 1, none⟩ = false := frozen_of_row w3 p 1 _ _ W3.out
       have H4 : Hid (∀ v, (w3.setCell ⟨p, 1, none⟩ v).heap[w.heap.size]? = some (.cells #[.int .u8 0, .int .u8 x1, .int .u8 x2, .int .u8 x3, .int .u8 x4, .int .u8 x5, .int .u8 x6, .int .u8 x7] 72 (0, 0))) := fun v => (heap_setCell_other w3 _ _ v hpg).trans ((r3.block _ (heap_lt hh2.out) (fun x => x)).trans hh2.out)
       have R3 := Lib.hid r3
       clear r3)
    | (go_at_call 47; refine (value_any 0 x1 x2 x3 x4 x5 x6 x7 _ (by decide) (by decide) b1.1 b1.2 b2.1 b2.2 b3.1 b3.2 b4.1 b4.2 b5.1 b5.2 b6.1 b6.2 b7.1 b7.2).mono ?_; rintro e w4 ⟨rfl, r4⟩
       have R4 := Lib.hid r4
       clear r4))
  go_ret2
  have F3 : Fr (fun _ => False) w w3 := hf2.out.trans R3.out
  have F4 : Fr (· = p) w w4 := (Fr.setCell (S := fun x => x = p) F3.any (p := ⟨p, 1, none⟩) (.slice A' (n - 7) (c - 7)) (.inl rfl)).trans R4.out.any
  refine ⟨?_, ⟨_, ?_, HDR.out.fr F4 (fun _ e => G3.out e.symm), G3.out⟩, F4⟩
  · simp [num]
  · have := heap_setCell_same w3 p 1 _ _ (.slice A' (n - 7) (c - 7)) W3.out
    exact (R4.out.block p (by rw [heap_size_setCell]; exact heap_lt W3.out) (fun x => x)).trans this

set_option maxHeartbeats 2000000 in
theorem get_8 (p g : Nat) (x1 x2 x3 x4 x5 x6 x7 x8 : Int) (l : List Int) (w : World) (h : Rd w p g (x1 :: x2 :: x3 :: x4 :: x5 :: x6 :: x7 :: x8 :: l)) (hx : x1 ≤ 127) :
    Calls Try.prog 28 #[.pointer (some ⟨p, 0, none⟩), .int .i64 8] w fun e w' => e = .returned (.tuple #[.int .i64 (num [x1, x2, x3, x4, x5, x6, x7, x8]), .int .i64 0]) ∧ Rd w' p g l ∧ Fr (· = p) w w' := by
  obtain ⟨v, g1, g2, g3⟩ := h
  have c0 : w.cell? ⟨p, 0, none⟩ = some (.bool true) := by rw [cell_of_row w p 0 _ _ _ g1]; rfl
  have c1 : w.cell? ⟨p, 1, none⟩ = some v := by rw [cell_of_row w p 1 _ _ _ g1]; rfl
  have hp := heap_lt g1
  obtain ⟨A, n, c, rfl⟩ : ∃ A n c, v = .slice A n c := by obtain ⟨_, A, c, e, _⟩ := g2; exact ⟨A, _, c, e⟩
  have hn := g2.len
  have hn2 : 8 ≤ n := by simp at hn; omega
  obtain ⟨o, hA, hcell⟩ := g2.at_ (by omega)
  have hcap : n ≤ c ∧ c ≤ maxLen := by obtain ⟨_, A', c', e, h1, h2, _⟩ := g2; injection e with _ e2 e3; omega
  have hgw : g < w.heap.size := by obtain ⟨_, A', c', e, _, _, hx⟩ := g2; exact (hx (by simp)).choose_spec.2.1
  have hb := g2.1
  have b1 := hb x1 (by simp)
  have b2 := hb x2 (by simp)
  have b3 := hb x3 (by simp)
  have b4 := hb x4 (by simp)
  have b5 := hb x5 (by simp)
  have b6 := hb x6 (by simp)
  have b7 := hb x7 (by simp)
  have b8 := hb x8 (by simp)
  have hd : decide (127 < x1) = false := by simp; omega
  have HG0 : Hid (((w.alloc (.cells [.int .u8 0, .int .u8 0, .int .u8 0, .int .u8 0, .int .u8 0, .int .u8 0, .int .u8 0, .int .u8 0].toArray 72)).drew).heap[w.heap.size]? = some (.cells [.int .u8 0, .int .u8 0, .int .u8 0, .int .u8 0, .int .u8 0, .int .u8 0, .int .u8 0, .int .u8 0].toArray 72 (0, 0))) := heap_alloc_new w _
  have HPOS : Hid (0 < (bs [x1, x2, x3, x4, x5, x6, x7, x8]).length → ∃ ad, A = some ad ∧ ∀ j v, (bs [x1, x2, x3, x4, x5, x6, x7, x8])[j]? = some v → ((w.alloc (.cells [.int .u8 0, .int .u8 0, .int .u8 0, .int .u8 0, .int .u8 0, .int .u8 0, .int .u8 0, .int .u8 0].toArray 72)).drew).cell? (ad.add j) = some v) := by
    intro _
    refine ⟨_, hA, fun j v hv => ?_⟩
    have hj : j < 8 := by
      rcases Nat.lt_or_ge j 8 with h | h
      · exact h
      · rw [List.getElem?_eq_none (by simpa [bs] using h)] at hv; cases hv
    have hcj := hcell j (by omega)
    have hold : ((w.alloc (.cells [.int .u8 0, .int .u8 0, .int .u8 0, .int .u8 0, .int .u8 0, .int .u8 0, .int .u8 0, .int .u8 0].toArray 72)).drew).cell? (Addr.add ⟨g, o, none⟩ j) = w.cell? ⟨g, o + j, none⟩ := by
      rw [Addr_add_none]
      exact World.cell?_alloc_lt w _ _ hgw
    rw [hold, hcj, ← hv]
    obtain rfl | rfl | rfl | rfl | rfl | rfl | rfl | rfl : j = 0 ∨ j = 1 ∨ j = 2 ∨ j = 3 ∨ j = 4 ∨ j = 5 ∨ j = 6 ∨ j = 7 := by omega
    all_goals rfl
  have HMIN : Hid ((bs [x1, x2, x3, x4, x5, x6, x7, x8]).length = Nat.min n 8) := by show 8 = Nat.min n 8; exact (Nat.min_eq_right hn2).symm
  have HBL : Hid (Below w.heap.size w ((w.alloc (.cells [.int .u8 0, .int .u8 0, .int .u8 0, .int .u8 0, .int .u8 0, .int .u8 0, .int .u8 0, .int .u8 0].toArray 72)).drew)) := ((Below.refl _ _).alloc (Nat.le_refl _) _).drew
  obtain ⟨A', hA'⟩ : ∃ A', A' = (if c = 8 then A else A.map (·.add 8)) := ⟨_, rfl⟩
  have HDR : Hid (Sl w g (.slice A' (n - 8) (c - 8)) l) := by
    have := g2.drop 8 (by simp)
    rw [hn] at this
    rw [hA']
    exact this
  have hsl : ∀ W : World, (Instr.sliceAt 27 (.slice A n c) (some (.int .i64 8)) none none).run Try.prog W = .ok (.slice A' (n - 8) (c - 8)) W := by
    intro W
    rw [run_sliceAt_slice W 27 _ _ _ _ (by kernel_rfl), run_slice_l W 27 A n c (by kernel_rfl) .i64 8 (by omega) (by omega)]
    rw [hA']
    rfl
  have G1 := Lib.hid g1
  have G3 := Lib.hid g3
  have hpg : ¬ w.heap.size = p := by omega
  clear g1 g2 g3 hn hb hcell hA hA' hgw
  have e0 : IntKind.i64.wrap 0 = 0 := by decide
  have e1 : IntKind.i64.wrap 1 = 1 := by decide
  have e2 : IntKind.i64.wrap 2 = 2 := by decide
  have e3 : IntKind.i64.wrap 3 = 3 := by decide
  have e4 : IntKind.i64.wrap 4 = 4 := by decide
  have e5 : IntKind.i64.wrap 5 = 5 := by decide
  have e6 : IntKind.i64.wrap 6 = 6 := by decide
  have e7 : IntKind.i64.wrap 7 = 7 := by decide
  go_enter Try.func28, Try.ntmps28
  go_wp2_with (go_at_call 40; refine (sizeMayBe_yes _ _ (by decide) (by decide)).mono ?_; rintro e w1 ⟨rfl, rfl⟩)
  go_region_law (refine step_copy_splice rfl (.tmp 30) (.tmp 35) 27 27 rfl 5 Try.underlying27 size5 (some ⟨w.heap.size, 0, none⟩) A 8 8 n c rfl rfl w.heap.size 0 [.int .u8 0, .int .u8 0, .int .u8 0, .int .u8 0, .int .u8 0, .int .u8 0, .int .u8 0, .int .u8 0] 72 HG0.out (bs [x1, x2, x3, x4, x5, x6, x7, x8]) HMIN.out (fun h => ⟨rfl, HPOS.out h⟩) (Nat.le_refl 8) (bs_one _) w.heap.size w HBL.out (Nat.le_refl _) ?_; intro w2 hg2 hb2)
  have hf2 := Lib.hid (Fr.of_below (S := fun _ => False) hb2)
  have hs2 : w.heap.size ≤ w2.heap.size := hb2.size
  have hh2 : Hid (w2.heap[w.heap.size]? = some (.cells #[.int .u8 x1, .int .u8 x2, .int .u8 x3, .int .u8 x4, .int .u8 x5, .int .u8 x6, .int .u8 x7, .int .u8 x8] 72 (0, 0))) := hg2.out
  have W2 : Hid (w2.heap[p]? = some (.cells #[.bool true, .slice A n c] 61 (0, 0))) := (hf2.out.block p hp (fun x => x)).trans G1.out
  clear hg2 hb2
  go_wp2_with (first
    | (refine wpList_load_row rfl 72 (.tmp 6) rfl w.heap.size rfl 72 #[.int .u8 x1, .int .u8 x2, .int .u8 x3, .int .u8 x4, .int .u8 x5, .int .u8 x6, .int .u8 x7, .int .u8 x8] (0, 0) _ ?_ Try.underlying72 rfl size72 ?_
       focus (first | exact hh2.out | exact H4.out _))
    | (go_at_call 46; refine (tooGreat_any _ _ _ _ _ _ _ _ _).mono ?_; rintro e w3 ⟨rfl, r3⟩
       have hs3 : w2.heap.size ≤ w3.heap.size := r3.size
       have W3 : Hid (w3.heap[p]? = some (.cells #[.bool true, .slice A n c] 61 (0, 0))) := (r3.block p (by omega) (fun x => x)).trans W2.out
       have k1 : w3.cell? ⟨p, 1, none⟩ = some (.slice A n c) := by (rw [cell_of_row w3 p 1 _ _ _ W3.out]; rfl)
       have k2 : w3.frozen? ⟨p, 1, none⟩ = false := frozen_of_row w3 p 1 _ _ W3.out
       have H4 : Hid (∀ v, (w3.setCell ⟨p, 1, none⟩ v).heap[w.heap.size]? = some (.cells #[.int .u8 x1, .int .u8 x2, .int .u8 x3, .int .u8 x4, .int .u8 x5, .int .u8 x6, .int .u8 x7, .int .u8 x8] 72 (0, 0))) := fun v => (heap_setCell_other w3 _ _ v hpg).trans ((r3.block _ (heap_lt hh2.out) (fun x => x)).trans hh2.out)
       have R3 := Lib.hid r3
       clear r3)
    | (go_at_call 47; refine (value_any x1 x2 x3 x4 x5 x6 x7 x8 _ b1.1 hx b2.1 b2.2 b3.1 b3.2 b4.1 b4.2 b5.1 b5.2 b6.1 b6.2 b7.1 b7.2 b8.1 b8.2).mono ?_; rintro e w4 ⟨rfl, r4⟩
       have R4 := Lib.hid r4
       clear r4))
  go_ret2
  have F3 : Fr (fun _ => False) w w3 := hf2.out.trans R3.out
  have F4 : Fr (· = p) w w4 := (Fr.setCell (S := fun x => x = p) F3.any (p := ⟨p, 1, none⟩) (.slice A' (n - 8) (c - 8)) (.inl rfl)).trans R4.out.any
  refine ⟨?_, ⟨_, ?_, HDR.out.fr F4 (fun _ e => G3.out e.symm), G3.out⟩, F4⟩
  · simp [num]
  · have := heap_setCell_same w3 p 1 _ _ (.slice A' (n - 8) (c - 8)) W3.out
    exact (R4.out.block p (by rw [heap_size_setCell]; exact heap_lt W3.out) (fun x => x)).trans this

set_option maxHeartbeats 2000000 in
theorem get_high (p g : Nat) (x1 x2 x3 x4 x5 x6 x7 x8 : Int) (l : List Int) (w : World) (h : Rd w p g (x1 :: x2 :: x3 :: x4 :: x5 :: x6 :: x7 :: x8 :: l)) (hx : 127 < x1) :
    Calls Try.prog 28 #[.pointer (some ⟨p, 0, none⟩), .int .i64 8] w fun e w' => e = .returned (.tuple #[.int .i64 0, .int .i64 9]) ∧ Rd w' p g (x1 :: x2 :: x3 :: x4 :: x5 :: x6 :: x7 :: x8 :: l) ∧ Fr (fun _ => False) w w' := by
  have HRR := Lib.hid h
  obtain ⟨v, g1, g2, g3⟩ := h
  have c0 : w.cell? ⟨p, 0, none⟩ = some (.bool true) := by rw [cell_of_row w p 0 _ _ _ g1]; rfl
  have c1 : w.cell? ⟨p, 1, none⟩ = some v := by rw [cell_of_row w p 1 _ _ _ g1]; rfl
  have hp := heap_lt g1
  obtain ⟨A, n, c, rfl⟩ : ∃ A n c, v = .slice A n c := by obtain ⟨_, A, c, e, _⟩ := g2; exact ⟨A, _, c, e⟩
  have hn := g2.len
  have hn2 : 8 ≤ n := by simp at hn; omega
  obtain ⟨o, hA, hcell⟩ := g2.at_ (by omega)
  have hcap : n ≤ c ∧ c ≤ maxLen := by obtain ⟨_, A', c', e, h1, h2, _⟩ := g2; injection e with _ e2 e3; omega
  have hgw : g < w.heap.size := by obtain ⟨_, A', c', e, _, _, hx⟩ := g2; exact (hx (by simp)).choose_spec.2.1
  have hb := g2.1
  have b1 := hb x1 (by simp)
  have b2 := hb x2 (by simp)
  have b3 := hb x3 (by simp)
  have b4 := hb x4 (by simp)
  have b5 := hb x5 (by simp)
  have b6 := hb x6 (by simp)
  have b7 := hb x7 (by simp)
  have b8 := hb x8 (by simp)
  have hd : decide (127 < x1) = true := by simp; omega
  have HG0 : Hid (((w.alloc (.cells [.int .u8 0, .int .u8 0, .int .u8 0, .int .u8 0, .int .u8 0, .int .u8 0, .int .u8 0, .int .u8 0].toArray 72)).drew).heap[w.heap.size]? = some (.cells [.int .u8 0, .int .u8 0, .int .u8 0, .int .u8 0, .int .u8 0, .int .u8 0, .int .u8 0, .int .u8 0].toArray 72 (0, 0))) := heap_alloc_new w _
  have HPOS : Hid (0 < (bs [x1, x2, x3, x4, x5, x6, x7, x8]).length → ∃ ad, A = some ad ∧ ∀ j v, (bs [x1, x2, x3, x4, x5, x6, x7, x8])[j]? = some v → ((w.alloc (.cells [.int .u8 0, .int .u8 0, .int .u8 0, .int .u8 0, .int .u8 0, .int .u8 0, .int .u8 0, .int .u8 0].toArray 72)).drew).cell? (ad.add j) = some v) := by
    intro _
    refine ⟨_, hA, fun j v hv => ?_⟩
    have hj : j < 8 := by
      rcases Nat.lt_or_ge j 8 with h | h
      · exact h
      · rw [List.getElem?_eq_none (by simpa [bs] using h)] at hv; cases hv
    have hcj := hcell j (by omega)
    have hold : ((w.alloc (.cells [.int .u8 0, .int .u8 0, .int .u8 0, .int .u8 0, .int .u8 0, .int .u8 0, .int .u8 0, .int .u8 0].toArray 72)).drew).cell? (Addr.add ⟨g, o, none⟩ j) = w.cell? ⟨g, o + j, none⟩ := by
      rw [Addr_add_none]
      exact World.cell?_alloc_lt w _ _ hgw
    rw [hold, hcj, ← hv]
    obtain rfl | rfl | rfl | rfl | rfl | rfl | rfl | rfl : j = 0 ∨ j = 1 ∨ j = 2 ∨ j = 3 ∨ j = 4 ∨ j = 5 ∨ j = 6 ∨ j = 7 := by omega
    all_goals rfl
  have HMIN : Hid ((bs [x1, x2, x3, x4, x5, x6, x7, x8]).length = Nat.min n 8) := by show 8 = Nat.min n 8; exact (Nat.min_eq_right hn2).symm
  have HBL : Hid (Below w.heap.size w ((w.alloc (.cells [.int .u8 0, .int .u8 0, .int .u8 0, .int .u8 0, .int .u8 0, .int .u8 0, .int .u8 0, .int .u8 0].toArray 72)).drew)) := ((Below.refl _ _).alloc (Nat.le_refl _) _).drew
  obtain ⟨A', hA'⟩ : ∃ A', A' = (if c = 8 then A else A.map (·.add 8)) := ⟨_, rfl⟩
  have HDR : Hid (Sl w g (.slice A' (n - 8) (c - 8)) l) := by
    have := g2.drop 8 (by simp)
    rw [hn] at this
    rw [hA']
    exact this
  have hsl : ∀ W : World, (Instr.sliceAt 27 (.slice A n c) (some (.int .i64 8)) none none).run Try.prog W = .ok (.slice A' (n - 8) (c - 8)) W := by
    intro W
    rw [run_sliceAt_slice W 27 _ _ _ _ (by kernel_rfl), run_slice_l W 27 A n c (by kernel_rfl) .i64 8 (by omega) (by omega)]
    rw [hA']
    rfl
  have G1 := Lib.hid g1
  have G3 := Lib.hid g3
  have hpg : ¬ w.heap.size = p := by omega
  clear g1 g2 g3 hn hb hcell hA hA' hgw
  have e0 : IntKind.i64.wrap 0 = 0 := by decide
  have e1 : IntKind.i64.wrap 1 = 1 := by decide
  have e2 : IntKind.i64.wrap 2 = 2 := by decide
  have e3 : IntKind.i64.wrap 3 = 3 := by decide
  have e4 : IntKind.i64.wrap 4 = 4 := by decide
  have e5 : IntKind.i64.wrap 5 = 5 := by decide
  have e6 : IntKind.i64.wrap 6 = 6 := by decide
  have e7 : IntKind.i64.wrap 7 = 7 := by decide
  go_enter Try.func28, Try.ntmps28
  go_wp2_with (go_at_call 40; refine (sizeMayBe_yes _ _ (by decide) (by decide)).mono ?_; rintro e w1 ⟨rfl, rfl⟩)
  go_region_law (refine step_copy_splice rfl (.tmp 30) (.tmp 35) 27 27 rfl 5 Try.underlying27 size5 (some ⟨w.heap.size, 0, none⟩) A 8 8 n c rfl rfl w.heap.size 0 [.int .u8 0, .int .u8 0, .int .u8 0, .int .u8 0, .int .u8 0, .int .u8 0, .int .u8 0, .int .u8 0] 72 HG0.out (bs [x1, x2, x3, x4, x5, x6, x7, x8]) HMIN.out (fun h => ⟨rfl, HPOS.out h⟩) (Nat.le_refl 8) (bs_one _) w.heap.size w HBL.out (Nat.le_refl _) ?_; intro w2 hg2 hb2)
  have hf2 := Lib.hid (Fr.of_below (S := fun _ => False) hb2)
  have hs2 : w.heap.size ≤ w2.heap.size := hb2.size
  have hh2 : Hid (w2.heap[w.heap.size]? = some (.cells #[.int .u8 x1, .int .u8 x2, .int .u8 x3, .int .u8 x4, .int .u8 x5, .int .u8 x6, .int .u8 x7, .int .u8 x8] 72 (0, 0))) := hg2.out
  have W2 : Hid (w2.heap[p]? = some (.cells #[.bool true, .slice A n c] 61 (0, 0))) := (hf2.out.block p hp (fun x => x)).trans G1.out
  clear hg2 hb2
  go_wp2_with (first
    | (refine wpList_load_row rfl 72 (.tmp 6) rfl w.heap.size rfl 72 #[.int .u8 x1, .int .u8 x2, .int .u8 x3, .int .u8 x4, .int .u8 x5, .int .u8 x6, .int .u8 x7, .int .u8 x8] (0, 0) _ ?_ Try.underlying72 rfl size72 ?_
       focus (first | exact hh2.out | exact H4.out _))
    | (go_at_call 46; refine (tooGreat_any _ _ _ _ _ _ _ _ _).mono ?_; rintro e w3 ⟨rfl, r3⟩
       have hs3 : w2.heap.size ≤ w3.heap.size := r3.size
       have W3 : Hid (w3.heap[p]? = some (.cells #[.bool true, .slice A n c] 61 (0, 0))) := (r3.block p (by omega) (fun x => x)).trans W2.out
       have k1 : w3.cell? ⟨p, 1, none⟩ = some (.slice A n c) := by (rw [cell_of_row w3 p 1 _ _ _ W3.out]; rfl)
       have k2 : w3.frozen? ⟨p, 1, none⟩ = false := frozen_of_row w3 p 1 _ _ W3.out
       have H4 : Hid (∀ v, (w3.setCell ⟨p, 1, none⟩ v).heap[w.heap.size]? = some (.cells #[.int .u8 x1, .int .u8 x2, .int .u8 x3, .int .u8 x4, .int .u8 x5, .int .u8 x6, .int .u8 x7, .int .u8 x8] 72 (0, 0))) := fun v => (heap_setCell_other w3 _ _ v hpg).trans ((r3.block _ (heap_lt hh2.out) (fun x => x)).trans hh2.out)
       have R3 := Lib.hid r3
       clear r3))
  go_ret2
  have F3 : Fr (fun _ => False) w w3 := hf2.out.trans R3.out
  exact ⟨rfl, HRR.out.keep F3 (fun x => x) (fun _ x => x), F3⟩
end Go.Proofs.Ytkkicekhkidhjaa
