/- FieldSwap answers true for all two numbers of 32 bytes and all bits, and its arguments read behind the call as they did: the given statement FieldSwapSaid. No condition. -/
import Derived.Test.YtmhoblefpkjdlaaLift
import Derived.Test.YtmhoblefpkjdlaaInvR
import Derived.Test.YtmhoblefpkjdlaaSwap
import Derived.Test.YtmhoblefpkjdlaaRefE
import Derived.Deep.Cut
namespace Go.Proofs.Ytmhoblefpkjdlaa
open Go.ChangeShapes Go.WideShapes Go.ChangeAt Go.RowKit

theorem z28b : ∀ w : World, (zeroValue 28).run Try.prog w = .ok (.agg #[.int .u64 0, .int .u64 0, .int .u64 0, .int .u64 0]) w := fun _ => by kernel_rfl
theorem is_ws {y : List Int} {v a b c d : Int} (h : Ws v a b c d) (hy : NumOf y v) (w : World) : Calls Try.prog 17 #[.agg #[.int .u64 a, .int .u64 b, .int .u64 c, .int .u64 d], .agg (vs .i64 y)] w fun e w' => e = .returned (.bool true) ∧ Fr (fun _ => False) w w' := by
  rw [← h.eq]
  exact is_yes y v w h.el hy

set_option maxRecDepth 100000 in
set_option maxHeartbeats 8000000 in
theorem law_swap_yes (l m : List Int) (bit : Int) (w : World) (hl : l.length = 32) (bl : Bys l) (hm : m.length = 32) (bm : Bys m) (hb : bit % 2 = 1) :
    Calls Try.prog 8 #[.agg (vs .u8 l), .agg (vs .u8 m), .int .i64 bit] w fun e w' => e = .returned (.bool true) ∧ Fr (fun _ => False) w w' := by
  obtain ⟨a0, a1, a2, a3, hA⟩ := ws_of (v := fe l) (El.mod _)
  obtain ⟨b0, b1, b2, b3, hB⟩ := ws_of (v := fe m) (El.mod _)
  have ol := frm_ok l hl bl
  have om := frm_ok m hm bm
  have f0 : ∀ W, Calls Try.prog 14 #[.agg (vs .u8 l)] W fun e w' => e = .returned (.agg #[.int .u64 a0, .int .u64 a1, .int .u64 a2, .int .u64 a3]) ∧ Fr (fun _ => False) W w' := fun W => by
    rw [← hA.eq]
    exact from_el l W hl bl
  have f1 : ∀ W, Calls Try.prog 14 #[.agg (vs .u8 m)] W fun e w' => e = .returned (.agg #[.int .u64 b0, .int .u64 b1, .int .u64 b2, .int .u64 b3]) ∧ Fr (fun _ => False) W w' := fun W => by
    rw [← hB.eq]
    exact from_el m W hm bm
  have f2 : ∀ W, Calls Try.prog 29 #[.agg #[.int .u64 a0, .int .u64 a1, .int .u64 a2, .int .u64 a3], .agg #[.int .u64 b0, .int .u64 b1, .int .u64 b2, .int .u64 b3], .int .i64 bit] W fun e w' => e = .returned (.tuple #[.agg #[.int .u64 b0, .int .u64 b1, .int .u64 b2, .int .u64 b3], .agg #[.int .u64 a0, .int .u64 a1, .int .u64 a2, .int .u64 a3]]) ∧ Fr (fun _ => False) W w' := fun W => by
    rw [← hA.eq, ← hB.eq]
    have := swap_yes bit W hA hB hb
    rw [hA.eq, hB.eq] at this ⊢
    exact this
  have f3 : ∀ W, Calls Try.prog 15 #[.agg (vs .u8 l)] W fun e w' => e = .returned (.agg (vs .i64 (frm l))) ∧ Fr (fun _ => False) W w' := fun W => rfrom_is l W hl bl
  have f4 : ∀ W, Calls Try.prog 15 #[.agg (vs .u8 m)] W fun e w' => e = .returned (.agg (vs .i64 (frm m))) ∧ Fr (fun _ => False) W w' := fun W => rfrom_is m W hm bm
  have f5 := fun W => is_ws hA ol W
  have f6 := fun W => is_ws hB om W
  have H0 : Hid ((Try.prog.info? 22).map (·.size) = some (vs .u8 l).size) := by show _ = _; rw [size22, vs_size, hl]
  have H1 : Hid ((Try.prog.info? 22).map (·.size) = some (vs .u8 m).size) := by show _ = _; rw [size22, vs_size, hm]
  obtain ⟨Z, hZ⟩ : ∃ Z, Z = List.replicate 16 (0 : Int) := ⟨_, rfl⟩
  have hz : ∀ W : World, (zeroValue 31).run Try.prog W = .ok (.agg (vs .i64 Z)) W := fun W => by rw [hZ]; kernel_rfl
  have S0 : Hid ((Try.prog.info? 31).map (·.size) = some (vs .i64 (frm l)).size) := by show _ = _; rw [size31, vs_size, ol.len]
  have Z0 : Hid ((vs .i64 Z).size = (vs .i64 (frm l)).size) := by show _ = _; rw [vs_size, vs_size, ol.len, hZ]; rfl
  have S1 : Hid ((Try.prog.info? 31).map (·.size) = some (vs .i64 (frm m)).size) := by show _ = _; rw [size31, vs_size, om.len]
  have Z1 : Hid ((vs .i64 Z).size = (vs .i64 (frm m)).size) := by show _ = _; rw [vs_size, vs_size, om.len, hZ]; rfl
  have ha1 := i64_and1 bit
  rw [hb] at ha1
  clear hl bl hm bm ol om hA hB hZ hb
  go_enter Try.func8, Try.ntmps8
  go_upto_region 1 with (fail)
  generalize hW : (w.alloc (.cells (vs .u8 l) 22)).alloc (.cells (vs .u8 m) 22) = W0
  have HW := Lib.hid (calm2 hW)
  clear hW
  refine wp_region_inv (fun b a w' => ∃ g9 g10 : Nat, Fr (fun _ => False) W0 w' ∧ (b 9 = true → W0.heap.size ≤ g9 ∧ w'.heap[g9]? = some (.cells (if b 11 = true then #[.int .u64 b0, .int .u64 b1, .int .u64 b2, .int .u64 b3] else #[.int .u64 0, .int .u64 0, .int .u64 0, .int .u64 0]) 28 (0, 0))) ∧ (b 10 = true → W0.heap.size ≤ g10 ∧ w'.heap[g10]? = some (.cells (if b 12 = true then #[.int .u64 a0, .int .u64 a1, .int .u64 a2, .int .u64 a3] else #[.int .u64 0, .int .u64 0, .int .u64 0, .int .u64 0]) 28 (0, 0))) ∧ (b 9 = true → b 10 = true → g9 ≠ g10) ∧ (b 11 = true → b 9 = true) ∧ (b 12 = true → b 10 = true) ∧ a = ⟨#[.agg (vs .u8 l), .agg (vs .u8 m), .int .i64 bit, .pointer (some ⟨w.heap.size, 0, none⟩), .pointer (some ⟨w.heap.size + 1, 0, none⟩), undef, .bool false, if b 9 = true then .pointer (some ⟨g9, 0, none⟩) else undef, if b 10 = true then .pointer (some ⟨g10, 0, none⟩) else undef, undef, undef, if b 6 = true then .tuple #[.agg #[.int .u64 b0, .int .u64 b1, .int .u64 b2, .int .u64 b3], .agg #[.int .u64 a0, .int .u64 a1, .int .u64 a2, .int .u64 a3]] else undef, if b 0 = true then .agg (vs .u8 l) else undef, if b 1 = true then .agg #[.int .u64 a0, .int .u64 a1, .int .u64 a2, .int .u64 a3] else undef, if b 2 = true then .agg (vs .u8 m) else undef, if b 3 = true then .agg #[.int .u64 b0, .int .u64 b1, .int .u64 b2, .int .u64 b3] else undef, if b 4 = true then .int .i64 bit else undef, if b 5 = true then .tuple #[.agg #[.int .u64 b0, .int .u64 b1, .int .u64 b2, .int .u64 b3], .agg #[.int .u64 a0, .int .u64 a1, .int .u64 a2, .int .u64 a3]] else undef, if b 7 = true then .agg #[.int .u64 b0, .int .u64 b1, .int .u64 b2, .int .u64 b3] else undef, if b 8 = true then .agg #[.int .u64 a0, .int .u64 a1, .int .u64 a2, .int .u64 a3] else undef, undef, undef, undef, undef, undef, undef, undef, undef, undef, undef, undef, undef, undef, undef, undef, undef, undef, undef, undef, undef, undef, undef, undef], []⟩) (by kernel_rfl) (by kernel_rfl) ?start ?step ?done
  case start => exact ⟨0, 0, ⟨rfl, rfl, rfl, Nat.le_refl _, fun _ _ _ => rfl⟩, by simp, by simp, by simp, by simp, by simp, by simp⟩
  case step =>
    intro i o b a w1 ho hI hb hr
    obtain ⟨g9, g10, hF, h9, h10, p910, hq9, hq10, rfl⟩ := hI
    match i, ho with
    | 0, ho =>
      injection ho with ho
      subst ho
      refine wp_quiet_here _ (quiet_load 22 (.tmp 3) rfl (w.heap.size) rfl 22 _ (0, 0) _ (fun _ h => Calm.at (Calm.at HW.out.1 hF) h) Try.underlying22 rfl H0.out rfl) (fun w2 hw2 => ?_)
      refine ⟨g9, g10, hF.trans hw2, ?_, ?_, ?_, ?_, ?_, ?_⟩
      · intro hx
        obtain ⟨k1, k2⟩ := h9 (by simpa [upd] using hx)
        refine ⟨k1, (hw2.block _ (heap_lt k2) (fun x => x)).trans ?_⟩
        rw [k2]
        simp [upd]
      · intro hx
        obtain ⟨k1, k2⟩ := h10 (by simpa [upd] using hx)
        refine ⟨k1, (hw2.block _ (heap_lt k2) (fun x => x)).trans ?_⟩
        rw [k2]
        simp [upd]
      · intro hx hy
        exact p910 (by simpa [upd] using hx) (by simpa [upd] using hy)
      · simpa [upd] using hq9
      · simpa [upd] using hq10
      · simp [upd, Act.put]
    | 1, ho =>
      injection ho with ho
      subst ho
      simp [Region.binds] at hr
      simp only [hr, if_true]
      refine wp_quiet_here (.agg #[.int .u64 a0, .int .u64 a1, .int .u64 a2, .int .u64 a3]) ?_ (fun w2 hw2 => ?_)
      · go_big_quiet_op
        exact ⟨_, Calm.calls f0, by simp [Act.put]⟩
      refine ⟨g9, g10, hF.trans hw2, ?_, ?_, ?_, ?_, ?_, ?_⟩
      · intro hx
        obtain ⟨k1, k2⟩ := h9 (by simpa [upd] using hx)
        refine ⟨k1, (hw2.block _ (heap_lt k2) (fun x => x)).trans ?_⟩
        rw [k2]
        simp [upd]
      · intro hx
        obtain ⟨k1, k2⟩ := h10 (by simpa [upd] using hx)
        refine ⟨k1, (hw2.block _ (heap_lt k2) (fun x => x)).trans ?_⟩
        rw [k2]
        simp [upd]
      · intro hx hy
        exact p910 (by simpa [upd] using hx) (by simpa [upd] using hy)
      · simpa [upd] using hq9
      · simpa [upd] using hq10
      · simp [upd, Act.put, hr]
    | 2, ho =>
      injection ho with ho
      subst ho
      refine wp_quiet_here _ (quiet_load 22 (.tmp 4) rfl (w.heap.size + 1) rfl 22 _ (0, 0) _ (fun _ h => Calm.at (Calm.at HW.out.2.1 hF) h) Try.underlying22 rfl H1.out rfl) (fun w2 hw2 => ?_)
      refine ⟨g9, g10, hF.trans hw2, ?_, ?_, ?_, ?_, ?_, ?_⟩
      · intro hx
        obtain ⟨k1, k2⟩ := h9 (by simpa [upd] using hx)
        refine ⟨k1, (hw2.block _ (heap_lt k2) (fun x => x)).trans ?_⟩
        rw [k2]
        simp [upd]
      · intro hx
        obtain ⟨k1, k2⟩ := h10 (by simpa [upd] using hx)
        refine ⟨k1, (hw2.block _ (heap_lt k2) (fun x => x)).trans ?_⟩
        rw [k2]
        simp [upd]
      · intro hx hy
        exact p910 (by simpa [upd] using hx) (by simpa [upd] using hy)
      · simpa [upd] using hq9
      · simpa [upd] using hq10
      · simp [upd, Act.put]
    | 3, ho =>
      injection ho with ho
      subst ho
      simp [Region.binds] at hr
      simp only [hr, if_true]
      refine wp_quiet_here (.agg #[.int .u64 b0, .int .u64 b1, .int .u64 b2, .int .u64 b3]) ?_ (fun w2 hw2 => ?_)
      · go_big_quiet_op
        exact ⟨_, Calm.calls f1, by simp [Act.put]⟩
      refine ⟨g9, g10, hF.trans hw2, ?_, ?_, ?_, ?_, ?_, ?_⟩
      · intro hx
        obtain ⟨k1, k2⟩ := h9 (by simpa [upd] using hx)
        refine ⟨k1, (hw2.block _ (heap_lt k2) (fun x => x)).trans ?_⟩
        rw [k2]
        simp [upd]
      · intro hx
        obtain ⟨k1, k2⟩ := h10 (by simpa [upd] using hx)
        refine ⟨k1, (hw2.block _ (heap_lt k2) (fun x => x)).trans ?_⟩
        rw [k2]
        simp [upd]
      · intro hx hy
        exact p910 (by simpa [upd] using hx) (by simpa [upd] using hy)
      · simpa [upd] using hq9
      · simpa [upd] using hq10
      · simp [upd, Act.put, hr]
    | 4, ho =>
      injection ho with ho
      subst ho
      refine wp_quiet_here (.int .i64 bit) (BigFrame.quiet_move (.tmp 2) rfl rfl) (fun w2 hw2 => ?_)
      refine ⟨g9, g10, hF.trans hw2, ?_, ?_, ?_, ?_, ?_, ?_⟩
      · intro hx
        obtain ⟨k1, k2⟩ := h9 (by simpa [upd] using hx)
        refine ⟨k1, (hw2.block _ (heap_lt k2) (fun x => x)).trans ?_⟩
        rw [k2]
        simp [upd]
      · intro hx
        obtain ⟨k1, k2⟩ := h10 (by simpa [upd] using hx)
        refine ⟨k1, (hw2.block _ (heap_lt k2) (fun x => x)).trans ?_⟩
        rw [k2]
        simp [upd]
      · intro hx hy
        exact p910 (by simpa [upd] using hx) (by simpa [upd] using hy)
      · simpa [upd] using hq9
      · simpa [upd] using hq10
      · simp [upd, Act.put]
    | 5, ho =>
      injection ho with ho
      subst ho
      simp [Region.binds] at hr
      simp only [hr, if_true]
      refine wp_quiet_here (.tuple #[.agg #[.int .u64 b0, .int .u64 b1, .int .u64 b2, .int .u64 b3], .agg #[.int .u64 a0, .int .u64 a1, .int .u64 a2, .int .u64 a3]]) ?_ (fun w2 hw2 => ?_)
      · go_big_quiet_op
        exact ⟨_, Calm.calls f2, by simp [Act.put]⟩
      refine ⟨g9, g10, hF.trans hw2, ?_, ?_, ?_, ?_, ?_, ?_⟩
      · intro hx
        obtain ⟨k1, k2⟩ := h9 (by simpa [upd] using hx)
        refine ⟨k1, (hw2.block _ (heap_lt k2) (fun x => x)).trans ?_⟩
        rw [k2]
        simp [upd]
      · intro hx
        obtain ⟨k1, k2⟩ := h10 (by simpa [upd] using hx)
        refine ⟨k1, (hw2.block _ (heap_lt k2) (fun x => x)).trans ?_⟩
        rw [k2]
        simp [upd]
      · intro hx hy
        exact p910 (by simpa [upd] using hx) (by simpa [upd] using hy)
      · simpa [upd] using hq9
      · simpa [upd] using hq10
      · simp [upd, Act.put, hr]
    | 6, ho =>
      injection ho with ho
      subst ho
      simp [Region.binds] at hr
      simp only [hr, if_true]
      refine wp_quiet_here (.tuple #[.agg #[.int .u64 b0, .int .u64 b1, .int .u64 b2, .int .u64 b3], .agg #[.int .u64 a0, .int .u64 a1, .int .u64 a2, .int .u64 a3]]) ?_ (fun w2 hw2 => ?_)
      · go_big_quiet_op
        simp [Act.put]
      refine ⟨g9, g10, hF.trans hw2, ?_, ?_, ?_, ?_, ?_, ?_⟩
      · intro hx
        obtain ⟨k1, k2⟩ := h9 (by simpa [upd] using hx)
        refine ⟨k1, (hw2.block _ (heap_lt k2) (fun x => x)).trans ?_⟩
        rw [k2]
        simp [upd]
      · intro hx
        obtain ⟨k1, k2⟩ := h10 (by simpa [upd] using hx)
        refine ⟨k1, (hw2.block _ (heap_lt k2) (fun x => x)).trans ?_⟩
        rw [k2]
        simp [upd]
      · intro hx hy
        exact p910 (by simpa [upd] using hx) (by simpa [upd] using hy)
      · simpa [upd] using hq9
      · simpa [upd] using hq10
      · simp [upd, Act.put, hr]
    | 7, ho =>
      injection ho with ho
      subst ho
      simp [Region.binds] at hr
      simp only [hr, if_true]
      refine wp_quiet_here (.agg #[.int .u64 b0, .int .u64 b1, .int .u64 b2, .int .u64 b3]) ?_ (fun w2 hw2 => ?_)
      · go_big_quiet_op
        exact ⟨_, fun _ _ => rfl, by simp [Act.put]⟩
      refine ⟨g9, g10, hF.trans hw2, ?_, ?_, ?_, ?_, ?_, ?_⟩
      · intro hx
        obtain ⟨k1, k2⟩ := h9 (by simpa [upd] using hx)
        refine ⟨k1, (hw2.block _ (heap_lt k2) (fun x => x)).trans ?_⟩
        rw [k2]
        simp [upd]
      · intro hx
        obtain ⟨k1, k2⟩ := h10 (by simpa [upd] using hx)
        refine ⟨k1, (hw2.block _ (heap_lt k2) (fun x => x)).trans ?_⟩
        rw [k2]
        simp [upd]
      · intro hx hy
        exact p910 (by simpa [upd] using hx) (by simpa [upd] using hy)
      · simpa [upd] using hq9
      · simpa [upd] using hq10
      · simp [upd, Act.put, hr]
    | 8, ho =>
      injection ho with ho
      subst ho
      simp [Region.binds] at hr
      simp only [hr, if_true]
      refine wp_quiet_here (.agg #[.int .u64 a0, .int .u64 a1, .int .u64 a2, .int .u64 a3]) ?_ (fun w2 hw2 => ?_)
      · go_big_quiet_op
        exact ⟨_, fun _ _ => rfl, by simp [Act.put]⟩
      refine ⟨g9, g10, hF.trans hw2, ?_, ?_, ?_, ?_, ?_, ?_⟩
      · intro hx
        obtain ⟨k1, k2⟩ := h9 (by simpa [upd] using hx)
        refine ⟨k1, (hw2.block _ (heap_lt k2) (fun x => x)).trans ?_⟩
        rw [k2]
        simp [upd]
      · intro hx
        obtain ⟨k1, k2⟩ := h10 (by simpa [upd] using hx)
        refine ⟨k1, (hw2.block _ (heap_lt k2) (fun x => x)).trans ?_⟩
        rw [k2]
        simp [upd]
      · intro hx hy
        exact p910 (by simpa [upd] using hx) (by simpa [upd] using hy)
      · simpa [upd] using hq9
      · simpa [upd] using hq10
      · simp [upd, Act.put, hr]
    | 9, ho =>
      injection ho with ho
      subst ho
      refine wp_alloc_any 28 rfl (#[.int .u64 0, .int .u64 0, .int .u64 0, .int .u64 0]) z28b ?_
      refine ⟨w1.heap.size, g10, hF.alloc _, ?_, ?_, ?_, ?_, ?_, ?_⟩
      · intro _
        refine ⟨hF.size, (heap_alloc_new w1 _).trans ?_⟩
        have hs : b 11 = false := by
          rcases hbs : b 11 with _ | _
          · rfl
          · rw [hq9 hbs] at hb
            cases hb
        simp [upd, hs]
      · intro hx
        obtain ⟨k1, k2⟩ := h10 (by simpa [upd] using hx)
        refine ⟨k1, (Below.heap_alloc w1 _ _ (heap_lt k2)).trans ?_⟩
        rw [k2]
        simp [upd]
      · intro _ hy
        have := heap_lt (h10 (by simpa [upd] using hy)).2
        omega
      · simp [upd]
      · simpa [upd] using hq10
      · simp [upd, Act.put]
    | 10, ho =>
      injection ho with ho
      subst ho
      refine wp_alloc_any 28 rfl (#[.int .u64 0, .int .u64 0, .int .u64 0, .int .u64 0]) z28b ?_
      refine ⟨g9, w1.heap.size, hF.alloc _, ?_, ?_, ?_, ?_, ?_, ?_⟩
      · intro hx
        obtain ⟨k1, k2⟩ := h9 (by simpa [upd] using hx)
        refine ⟨k1, (Below.heap_alloc w1 _ _ (heap_lt k2)).trans ?_⟩
        rw [k2]
        simp [upd]
      · intro _
        refine ⟨hF.size, (heap_alloc_new w1 _).trans ?_⟩
        have hs : b 12 = false := by
          rcases hbs : b 12 with _ | _
          · rfl
          · rw [hq10 hbs] at hb
            cases hb
        simp [upd, hs]
      · intro hx _
        have := heap_lt (h9 (by simpa [upd] using hx)).2
        omega
      · simpa [upd] using hq9
      · simp [upd]
      · simp [upd, Act.put]
    | 11, ho =>
      injection ho with ho
      subst ho
      simp [Region.binds] at hr
      obtain ⟨k1, k2⟩ := h9 (by simp [hr])
      rw [hb] at k2
      simp only [Bool.false_eq_true, if_false] at k2
      simp only [hr, if_true]
      refine wp_store_row 28 (.tmp 7) (.tmp 18) rfl g9 (#[.int .u64 b0, .int .u64 b1, .int .u64 b2, .int .u64 b3]) rfl rfl 28 _ k2 size28 rfl (vs_all .u64 [b0, b1, b2, b3]) ?_
      refine ⟨g9, g10, hF.setRow _ (.inr k1), ?_, ?_, ?_, ?_, ?_, ?_⟩
      · intro _
        refine ⟨k1, (setRow_heap _ _ _ _ _ _ k2).trans ?_⟩
        simp [upd]
      · intro hx
        obtain ⟨j1, j2⟩ := h10 (by simpa [upd] using hx)
        refine ⟨j1, (setRow_other _ _ _ _ (fun e => (p910 (by simp [hr]) (by simp [hr])) e.symm)).trans ?_⟩
        rw [j2]
        simp [upd]
      · intro hx hy
        exact p910 (by simpa [upd] using hx) (by simpa [upd] using hy)
      · simp [upd, hr]
      · simpa [upd] using hq10
      · simp [upd, Act.put, hr]
    | 12, ho =>
      injection ho with ho
      subst ho
      simp [Region.binds] at hr
      obtain ⟨k1, k2⟩ := h10 (by simp [hr])
      rw [hb] at k2
      simp only [Bool.false_eq_true, if_false] at k2
      simp only [hr, if_true]
      refine wp_store_row 28 (.tmp 8) (.tmp 19) rfl g10 (#[.int .u64 a0, .int .u64 a1, .int .u64 a2, .int .u64 a3]) rfl rfl 28 _ k2 size28 rfl (vs_all .u64 [a0, a1, a2, a3]) ?_
      refine ⟨g9, g10, hF.setRow _ (.inr k1), ?_, ?_, ?_, ?_, ?_, ?_⟩
      · intro hx
        obtain ⟨j1, j2⟩ := h9 (by simpa [upd] using hx)
        refine ⟨j1, (setRow_other _ _ _ _ (fun e => (p910 (by simp [hr]) (by simp [hr])) e)).trans ?_⟩
        rw [j2]
        simp [upd]
      · intro _
        refine ⟨k1, (setRow_heap _ _ _ _ _ _ k2).trans ?_⟩
        simp [upd]
      · intro hx hy
        exact p910 (by simpa [upd] using hx) (by simpa [upd] using hy)
      · simpa [upd] using hq9
      · simp [upd, hr]
      · simp [upd, Act.put, hr]
    | j + 13, ho => exact absurd ho (by simp)
  case done =>
    intro b a w1 hall hI
    obtain ⟨g9, g10, hF, h9, h10, p910, hq9, hq10, rfl⟩ := hI
    have t0 : b 0 = true := hall 0 (by simp)
    have t1 : b 1 = true := hall 1 (by simp)
    have t2 : b 2 = true := hall 2 (by simp)
    have t3 : b 3 = true := hall 3 (by simp)
    have t4 : b 4 = true := hall 4 (by simp)
    have t5 : b 5 = true := hall 5 (by simp)
    have t6 : b 6 = true := hall 6 (by simp)
    have t7 : b 7 = true := hall 7 (by simp)
    have t8 : b 8 = true := hall 8 (by simp)
    have t9 : b 9 = true := hall 9 (by simp)
    have t10 : b 10 = true := hall 10 (by simp)
    have t11 : b 11 = true := hall 11 (by simp)
    have t12 : b 12 = true := hall 12 (by simp)
    simp only [t0, t1, t2, t3, t4, t5, t6, t7, t8, t9, t10, t11, t12, if_true, true_implies] at h9 h10 p910 hq9 hq10 ⊢
    have X7 := Lib.hid h9.2
    have X8 := Lib.hid h10.2
    have B3 := Lib.hid (Calm.at HW.out.1 hF)
    have B4x := Lib.hid (Calm.at HW.out.2.1 hF)
    have Fw1 : Hid (Fr (fun _ => False) w w1) := HW.out.2.2.trans hF
    clear h9 h10 p910 hq9 hq10 hall hF f0 f1 f2
    go_upto_region 2 with (fail)
    refine wp_region_inv (fun b a w' => ∃ g4 g5 : Nat, Fr (fun _ => False) w1 w' ∧ (b 4 = true → w1.heap.size ≤ g4 ∧ w'.heap[g4]? = some (.cells (if b 6 = true then vs .i64 (frm l) else vs .i64 Z) 31 (0, 0))) ∧ (b 5 = true → w1.heap.size ≤ g5 ∧ w'.heap[g5]? = some (.cells (if b 7 = true then vs .i64 (frm m) else vs .i64 Z) 31 (0, 0))) ∧ (b 4 = true → b 5 = true → g4 ≠ g5) ∧ (b 6 = true → b 4 = true) ∧ (b 7 = true → b 5 = true) ∧ a = ⟨#[.agg (vs .u8 l), .agg (vs .u8 m), .int .i64 bit, .pointer (some ⟨w.heap.size, 0, none⟩), .pointer (some ⟨w.heap.size + 1, 0, none⟩), undef, .bool false, .pointer (some ⟨g9, 0, none⟩), .pointer (some ⟨g10, 0, none⟩), if b 4 = true then .pointer (some ⟨g4, 0, none⟩) else undef, if b 5 = true then .pointer (some ⟨g5, 0, none⟩) else undef, .tuple #[.agg #[.int .u64 b0, .int .u64 b1, .int .u64 b2, .int .u64 b3], .agg #[.int .u64 a0, .int .u64 a1, .int .u64 a2, .int .u64 a3]], .agg (vs .u8 l), .agg #[.int .u64 a0, .int .u64 a1, .int .u64 a2, .int .u64 a3], .agg (vs .u8 m), .agg #[.int .u64 b0, .int .u64 b1, .int .u64 b2, .int .u64 b3], .int .i64 bit, .tuple #[.agg #[.int .u64 b0, .int .u64 b1, .int .u64 b2, .int .u64 b3], .agg #[.int .u64 a0, .int .u64 a1, .int .u64 a2, .int .u64 a3]], .agg #[.int .u64 b0, .int .u64 b1, .int .u64 b2, .int .u64 b3], .agg #[.int .u64 a0, .int .u64 a1, .int .u64 a2, .int .u64 a3], if b 0 = true then .agg (vs .u8 l) else undef, if b 1 = true then .agg (vs .i64 (frm l)) else undef, if b 2 = true then .agg (vs .u8 m) else undef, if b 3 = true then .agg (vs .i64 (frm m)) else undef, undef, undef, undef, undef, undef, undef, undef, undef, undef, undef, undef, undef, undef, undef, undef, undef, undef, undef, undef], []⟩) (by kernel_rfl) (by kernel_rfl) ?start ?step ?done
    case start => exact ⟨0, 0, ⟨rfl, rfl, rfl, Nat.le_refl _, fun _ _ _ => rfl⟩, by simp, by simp, by simp, by simp, by simp, by simp⟩
    case step =>
      intro i o b a w3 ho hI hb hr
      obtain ⟨g4, g5, hF, h4, h5, p45, hq4, hq5, rfl⟩ := hI
      match i, ho with
      | 0, ho =>
        injection ho with ho
        subst ho
        refine wp_quiet_here _ (quiet_load 22 (.tmp 3) rfl (w.heap.size) rfl 22 _ (0, 0) _ (fun _ h => Calm.at (Calm.at B3.out hF) h) Try.underlying22 rfl H0.out rfl) (fun w2 hw2 => ?_)
        refine ⟨g4, g5, hF.trans hw2, ?_, ?_, ?_, ?_, ?_, ?_⟩
        · intro hx
          obtain ⟨k1, k2⟩ := h4 (by simpa [upd] using hx)
          refine ⟨k1, (hw2.block _ (heap_lt k2) (fun x => x)).trans ?_⟩
          rw [k2]
          simp [upd]
        · intro hx
          obtain ⟨k1, k2⟩ := h5 (by simpa [upd] using hx)
          refine ⟨k1, (hw2.block _ (heap_lt k2) (fun x => x)).trans ?_⟩
          rw [k2]
          simp [upd]
        · intro hx hy
          exact p45 (by simpa [upd] using hx) (by simpa [upd] using hy)
        · simpa [upd] using hq4
        · simpa [upd] using hq5
        · simp [upd, Act.put]
      | 1, ho =>
        injection ho with ho
        subst ho
        simp [Region.binds] at hr
        simp only [hr, if_true]
        refine wp_quiet_here (.agg (vs .i64 (frm l))) ?_ (fun w2 hw2 => ?_)
        · go_big_quiet_op
          exact ⟨_, Calm.calls f3, by simp [Act.put]⟩
        refine ⟨g4, g5, hF.trans hw2, ?_, ?_, ?_, ?_, ?_, ?_⟩
        · intro hx
          obtain ⟨k1, k2⟩ := h4 (by simpa [upd] using hx)
          refine ⟨k1, (hw2.block _ (heap_lt k2) (fun x => x)).trans ?_⟩
          rw [k2]
          simp [upd]
        · intro hx
          obtain ⟨k1, k2⟩ := h5 (by simpa [upd] using hx)
          refine ⟨k1, (hw2.block _ (heap_lt k2) (fun x => x)).trans ?_⟩
          rw [k2]
          simp [upd]
        · intro hx hy
          exact p45 (by simpa [upd] using hx) (by simpa [upd] using hy)
        · simpa [upd] using hq4
        · simpa [upd] using hq5
        · simp [upd, Act.put, hr]
      | 2, ho =>
        injection ho with ho
        subst ho
        refine wp_quiet_here _ (quiet_load 22 (.tmp 4) rfl (w.heap.size + 1) rfl 22 _ (0, 0) _ (fun _ h => Calm.at (Calm.at B4x.out hF) h) Try.underlying22 rfl H1.out rfl) (fun w2 hw2 => ?_)
        refine ⟨g4, g5, hF.trans hw2, ?_, ?_, ?_, ?_, ?_, ?_⟩
        · intro hx
          obtain ⟨k1, k2⟩ := h4 (by simpa [upd] using hx)
          refine ⟨k1, (hw2.block _ (heap_lt k2) (fun x => x)).trans ?_⟩
          rw [k2]
          simp [upd]
        · intro hx
          obtain ⟨k1, k2⟩ := h5 (by simpa [upd] using hx)
          refine ⟨k1, (hw2.block _ (heap_lt k2) (fun x => x)).trans ?_⟩
          rw [k2]
          simp [upd]
        · intro hx hy
          exact p45 (by simpa [upd] using hx) (by simpa [upd] using hy)
        · simpa [upd] using hq4
        · simpa [upd] using hq5
        · simp [upd, Act.put]
      | 3, ho =>
        injection ho with ho
        subst ho
        simp [Region.binds] at hr
        simp only [hr, if_true]
        refine wp_quiet_here (.agg (vs .i64 (frm m))) ?_ (fun w2 hw2 => ?_)
        · go_big_quiet_op
          exact ⟨_, Calm.calls f4, by simp [Act.put]⟩
        refine ⟨g4, g5, hF.trans hw2, ?_, ?_, ?_, ?_, ?_, ?_⟩
        · intro hx
          obtain ⟨k1, k2⟩ := h4 (by simpa [upd] using hx)
          refine ⟨k1, (hw2.block _ (heap_lt k2) (fun x => x)).trans ?_⟩
          rw [k2]
          simp [upd]
        · intro hx
          obtain ⟨k1, k2⟩ := h5 (by simpa [upd] using hx)
          refine ⟨k1, (hw2.block _ (heap_lt k2) (fun x => x)).trans ?_⟩
          rw [k2]
          simp [upd]
        · intro hx hy
          exact p45 (by simpa [upd] using hx) (by simpa [upd] using hy)
        · simpa [upd] using hq4
        · simpa [upd] using hq5
        · simp [upd, Act.put, hr]
      | 4, ho =>
        injection ho with ho
        subst ho
        refine wp_alloc_any 31 rfl (vs .i64 Z) hz ?_
        refine ⟨w3.heap.size, g5, hF.alloc _, ?_, ?_, ?_, ?_, ?_, ?_⟩
        · intro _
          refine ⟨hF.size, (heap_alloc_new w3 _).trans ?_⟩
          have hs : b 6 = false := by
            rcases hbs : b 6 with _ | _
            · rfl
            · rw [hq4 hbs] at hb
              cases hb
          simp [upd, hs]
        · intro hx
          obtain ⟨k1, k2⟩ := h5 (by simpa [upd] using hx)
          refine ⟨k1, (Below.heap_alloc w3 _ _ (heap_lt k2)).trans ?_⟩
          rw [k2]
          simp [upd]
        · intro _ hy
          have := heap_lt (h5 (by simpa [upd] using hy)).2
          omega
        · simp [upd]
        · simpa [upd] using hq5
        · simp [upd, Act.put]
      | 5, ho =>
        injection ho with ho
        subst ho
        refine wp_alloc_any 31 rfl (vs .i64 Z) hz ?_
        refine ⟨g4, w3.heap.size, hF.alloc _, ?_, ?_, ?_, ?_, ?_, ?_⟩
        · intro hx
          obtain ⟨k1, k2⟩ := h4 (by simpa [upd] using hx)
          refine ⟨k1, (Below.heap_alloc w3 _ _ (heap_lt k2)).trans ?_⟩
          rw [k2]
          simp [upd]
        · intro _
          refine ⟨hF.size, (heap_alloc_new w3 _).trans ?_⟩
          have hs : b 7 = false := by
            rcases hbs : b 7 with _ | _
            · rfl
            · rw [hq5 hbs] at hb
              cases hb
          simp [upd, hs]
        · intro hx _
          have := heap_lt (h4 (by simpa [upd] using hx)).2
          omega
        · simpa [upd] using hq4
        · simp [upd]
        · simp [upd, Act.put]
      | 6, ho =>
        injection ho with ho
        subst ho
        simp [Region.binds] at hr
        obtain ⟨k1, k2⟩ := h4 (by simp [hr])
        rw [hb] at k2
        simp only [Bool.false_eq_true, if_false] at k2
        simp only [hr, if_true]
        refine wp_store_row 31 (.tmp 9) (.tmp 21) rfl g4 (vs .i64 (frm l)) rfl rfl 31 _ k2 S0.out Z0.out (vs_all _ _) ?_
        refine ⟨g4, g5, hF.setRow _ (.inr k1), ?_, ?_, ?_, ?_, ?_, ?_⟩
        · intro _
          refine ⟨k1, (setRow_heap _ _ _ _ _ _ k2).trans ?_⟩
          simp [upd]
        · intro hx
          obtain ⟨j1, j2⟩ := h5 (by simpa [upd] using hx)
          refine ⟨j1, (setRow_other _ _ _ _ (fun e => (p45 (by simp [hr]) (by simp [hr])) e.symm)).trans ?_⟩
          rw [j2]
          simp [upd]
        · intro hx hy
          exact p45 (by simpa [upd] using hx) (by simpa [upd] using hy)
        · simp [upd, hr]
        · simpa [upd] using hq5
        · simp [upd, Act.put, hr]
      | 7, ho =>
        injection ho with ho
        subst ho
        simp [Region.binds] at hr
        obtain ⟨k1, k2⟩ := h5 (by simp [hr])
        rw [hb] at k2
        simp only [Bool.false_eq_true, if_false] at k2
        simp only [hr, if_true]
        refine wp_store_row 31 (.tmp 10) (.tmp 23) rfl g5 (vs .i64 (frm m)) rfl rfl 31 _ k2 S1.out Z1.out (vs_all _ _) ?_
        refine ⟨g4, g5, hF.setRow _ (.inr k1), ?_, ?_, ?_, ?_, ?_, ?_⟩
        · intro hx
          obtain ⟨j1, j2⟩ := h4 (by simpa [upd] using hx)
          refine ⟨j1, (setRow_other _ _ _ _ (fun e => (p45 (by simp [hr]) (by simp [hr])) e)).trans ?_⟩
          rw [j2]
          simp [upd]
        · intro _
          refine ⟨k1, (setRow_heap _ _ _ _ _ _ k2).trans ?_⟩
          simp [upd]
        · intro hx hy
          exact p45 (by simpa [upd] using hx) (by simpa [upd] using hy)
        · simpa [upd] using hq4
        · simp [upd, hr]
        · simp [upd, Act.put, hr]
      | j + 8, ho => exact absurd ho (by simp)
    case done =>
      intro b a w3 hall hI
      obtain ⟨g4, g5, hF, h4, h5, p45, hq4, hq5, rfl⟩ := hI
      have t0 : b 0 = true := hall 0 (by simp)
      have t1 : b 1 = true := hall 1 (by simp)
      have t2 : b 2 = true := hall 2 (by simp)
      have t3 : b 3 = true := hall 3 (by simp)
      have t4 : b 4 = true := hall 4 (by simp)
      have t5 : b 5 = true := hall 5 (by simp)
      have t6 : b 6 = true := hall 6 (by simp)
      have t7 : b 7 = true := hall 7 (by simp)
      simp only [t0, t1, t2, t3, t4, t5, t6, t7, if_true, true_implies] at h4 h5 p45 hq4 hq5 ⊢
      have Y7 := Lib.hid (Calm.at X7.out hF)
      have Y8 := Lib.hid (Calm.at X8.out hF)
      have Y9 := Lib.hid h4.2
      have Y10 := Lib.hid h5.2
      have Fw3 : Hid (Fr (fun _ => False) w w3) := Fw1.out.trans hF
      clear h4 h5 p45 hq4 hq5 hall hF f3 f4 X7 X8 B3 B4x Fw1
      go_upto_region 4 with (fail)
      refine wp_region_head (C := Calm w3) 9 (Fr.refl _ _) ?_
      simp only [List.take_succ_cons, List.take_zero, List.drop_succ_cons, List.drop_zero]
      refine BigFrame.wpQuiet_want rfl fun K hK => quiet_load 28 (.tmp 7) rfl (g9) rfl 28 _ (0, 0) _ (fun _ h => Calm.at Y7.out h) Try.underlying28 rfl size28 (hK _ ?_)
      refine BigFrame.wpQuiet_want rfl fun K hK => quiet_load 31 (.tmp 10) rfl (g5) rfl 31 _ (0, 0) _ (fun _ h => Calm.at Y10.out h) Try.underlying31 rfl S1.out (hK _ ?_)
      refine BigFrame.wpQuiet_want rfl fun K hK => ?_
      try simp only [Act.put, List.setIfInBounds_toArray, List.set_cons_succ, List.set_cons_zero]
      go_big_quiet_op
      refine ⟨_, Calm.calls f6, hK _ ?_⟩
      refine BigFrame.wpQuiet_want rfl fun K hK => ?_
      try simp only [Act.put, List.setIfInBounds_toArray, List.set_cons_succ, List.set_cons_zero]
      go_big_quiet_op
      refine hK _ ?_
      refine BigFrame.wpQuiet_want rfl fun K hK => quiet_load 28 (.tmp 8) rfl (g10) rfl 28 _ (0, 0) _ (fun _ h => Calm.at Y8.out h) Try.underlying28 rfl size28 (hK _ ?_)
      refine BigFrame.wpQuiet_want rfl fun K hK => quiet_load 31 (.tmp 9) rfl (g4) rfl 31 _ (0, 0) _ (fun _ h => Calm.at Y9.out h) Try.underlying31 rfl S0.out (hK _ ?_)
      refine BigFrame.wpQuiet_want rfl fun K hK => ?_
      try simp only [Act.put, List.setIfInBounds_toArray, List.set_cons_succ, List.set_cons_zero]
      go_big_quiet_op
      refine ⟨_, Calm.calls f5, hK _ ?_⟩
      refine BigFrame.wpQuiet_want rfl fun K hK => ?_
      try simp only [Act.put, List.setIfInBounds_toArray, List.set_cons_succ, List.set_cons_zero]
      go_big_quiet_op
      refine ⟨_, fun _ _ => rfl, hK _ ?_⟩
      refine BigFrame.wpQuiet_want rfl fun K hK => ?_
      try simp only [Act.put, List.setIfInBounds_toArray, List.set_cons_succ, List.set_cons_zero]
      go_big_quiet_op
      refine hK _ ?_
      refine wpQuiet_nil ?_
      intro w4 hw4
      have F4 : Hid (Fr (fun _ => False) w w4) := Fw3.out.trans hw4
      clear hw4
      try simp only [Act.put, List.setIfInBounds_toArray, List.set_cons_succ, List.set_cons_zero]
      go_wp2
      go_ret
      exact ⟨rfl, F4.out⟩

set_option maxRecDepth 100000 in
set_option maxHeartbeats 8000000 in
theorem law_swap_no (l m : List Int) (bit : Int) (w : World) (hl : l.length = 32) (bl : Bys l) (hm : m.length = 32) (bm : Bys m) (hb : bit % 2 = 0) :
    Calls Try.prog 8 #[.agg (vs .u8 l), .agg (vs .u8 m), .int .i64 bit] w fun e w' => e = .returned (.bool true) ∧ Fr (fun _ => False) w w' := by
  obtain ⟨a0, a1, a2, a3, hA⟩ := ws_of (v := fe l) (El.mod _)
  obtain ⟨b0, b1, b2, b3, hB⟩ := ws_of (v := fe m) (El.mod _)
  have ol := frm_ok l hl bl
  have om := frm_ok m hm bm
  have f0 : ∀ W, Calls Try.prog 14 #[.agg (vs .u8 l)] W fun e w' => e = .returned (.agg #[.int .u64 a0, .int .u64 a1, .int .u64 a2, .int .u64 a3]) ∧ Fr (fun _ => False) W w' := fun W => by
    rw [← hA.eq]
    exact from_el l W hl bl
  have f1 : ∀ W, Calls Try.prog 14 #[.agg (vs .u8 m)] W fun e w' => e = .returned (.agg #[.int .u64 b0, .int .u64 b1, .int .u64 b2, .int .u64 b3]) ∧ Fr (fun _ => False) W w' := fun W => by
    rw [← hB.eq]
    exact from_el m W hm bm
  have f2 : ∀ W, Calls Try.prog 29 #[.agg #[.int .u64 a0, .int .u64 a1, .int .u64 a2, .int .u64 a3], .agg #[.int .u64 b0, .int .u64 b1, .int .u64 b2, .int .u64 b3], .int .i64 bit] W fun e w' => e = .returned (.tuple #[.agg #[.int .u64 a0, .int .u64 a1, .int .u64 a2, .int .u64 a3], .agg #[.int .u64 b0, .int .u64 b1, .int .u64 b2, .int .u64 b3]]) ∧ Fr (fun _ => False) W w' := fun W => by
    rw [← hA.eq, ← hB.eq]
    have := swap_no bit W hA hB hb
    rw [hA.eq, hB.eq] at this ⊢
    exact this
  have f3 : ∀ W, Calls Try.prog 15 #[.agg (vs .u8 l)] W fun e w' => e = .returned (.agg (vs .i64 (frm l))) ∧ Fr (fun _ => False) W w' := fun W => rfrom_is l W hl bl
  have f4 : ∀ W, Calls Try.prog 15 #[.agg (vs .u8 m)] W fun e w' => e = .returned (.agg (vs .i64 (frm m))) ∧ Fr (fun _ => False) W w' := fun W => rfrom_is m W hm bm
  have f5 := fun W => is_ws hA ol W
  have f6 := fun W => is_ws hB om W
  have H0 : Hid ((Try.prog.info? 22).map (·.size) = some (vs .u8 l).size) := by show _ = _; rw [size22, vs_size, hl]
  have H1 : Hid ((Try.prog.info? 22).map (·.size) = some (vs .u8 m).size) := by show _ = _; rw [size22, vs_size, hm]
  obtain ⟨Z, hZ⟩ : ∃ Z, Z = List.replicate 16 (0 : Int) := ⟨_, rfl⟩
  have hz : ∀ W : World, (zeroValue 31).run Try.prog W = .ok (.agg (vs .i64 Z)) W := fun W => by rw [hZ]; kernel_rfl
  have S0 : Hid ((Try.prog.info? 31).map (·.size) = some (vs .i64 (frm l)).size) := by show _ = _; rw [size31, vs_size, ol.len]
  have Z0 : Hid ((vs .i64 Z).size = (vs .i64 (frm l)).size) := by show _ = _; rw [vs_size, vs_size, ol.len, hZ]; rfl
  have S1 : Hid ((Try.prog.info? 31).map (·.size) = some (vs .i64 (frm m)).size) := by show _ = _; rw [size31, vs_size, om.len]
  have Z1 : Hid ((vs .i64 Z).size = (vs .i64 (frm m)).size) := by show _ = _; rw [vs_size, vs_size, om.len, hZ]; rfl
  have ha1 := i64_and1 bit
  rw [hb] at ha1
  clear hl bl hm bm ol om hA hB hZ hb
  go_enter Try.func8, Try.ntmps8
  go_upto_region 1 with (fail)
  generalize hW : (w.alloc (.cells (vs .u8 l) 22)).alloc (.cells (vs .u8 m) 22) = W0
  have HW := Lib.hid (calm2 hW)
  clear hW
  refine wp_region_inv (fun b a w' => ∃ g9 g10 : Nat, Fr (fun _ => False) W0 w' ∧ (b 9 = true → W0.heap.size ≤ g9 ∧ w'.heap[g9]? = some (.cells (if b 11 = true then #[.int .u64 a0, .int .u64 a1, .int .u64 a2, .int .u64 a3] else #[.int .u64 0, .int .u64 0, .int .u64 0, .int .u64 0]) 28 (0, 0))) ∧ (b 10 = true → W0.heap.size ≤ g10 ∧ w'.heap[g10]? = some (.cells (if b 12 = true then #[.int .u64 b0, .int .u64 b1, .int .u64 b2, .int .u64 b3] else #[.int .u64 0, .int .u64 0, .int .u64 0, .int .u64 0]) 28 (0, 0))) ∧ (b 9 = true → b 10 = true → g9 ≠ g10) ∧ (b 11 = true → b 9 = true) ∧ (b 12 = true → b 10 = true) ∧ a = ⟨#[.agg (vs .u8 l), .agg (vs .u8 m), .int .i64 bit, .pointer (some ⟨w.heap.size, 0, none⟩), .pointer (some ⟨w.heap.size + 1, 0, none⟩), undef, .bool false, if b 9 = true then .pointer (some ⟨g9, 0, none⟩) else undef, if b 10 = true then .pointer (some ⟨g10, 0, none⟩) else undef, undef, undef, if b 6 = true then .tuple #[.agg #[.int .u64 a0, .int .u64 a1, .int .u64 a2, .int .u64 a3], .agg #[.int .u64 b0, .int .u64 b1, .int .u64 b2, .int .u64 b3]] else undef, if b 0 = true then .agg (vs .u8 l) else undef, if b 1 = true then .agg #[.int .u64 a0, .int .u64 a1, .int .u64 a2, .int .u64 a3] else undef, if b 2 = true then .agg (vs .u8 m) else undef, if b 3 = true then .agg #[.int .u64 b0, .int .u64 b1, .int .u64 b2, .int .u64 b3] else undef, if b 4 = true then .int .i64 bit else undef, if b 5 = true then .tuple #[.agg #[.int .u64 a0, .int .u64 a1, .int .u64 a2, .int .u64 a3], .agg #[.int .u64 b0, .int .u64 b1, .int .u64 b2, .int .u64 b3]] else undef, if b 7 = true then .agg #[.int .u64 a0, .int .u64 a1, .int .u64 a2, .int .u64 a3] else undef, if b 8 = true then .agg #[.int .u64 b0, .int .u64 b1, .int .u64 b2, .int .u64 b3] else undef, undef, undef, undef, undef, undef, undef, undef, undef, undef, undef, undef, undef, undef, undef, undef, undef, undef, undef, undef, undef, undef, undef, undef], []⟩) (by kernel_rfl) (by kernel_rfl) ?start ?step ?done
  case start => exact ⟨0, 0, ⟨rfl, rfl, rfl, Nat.le_refl _, fun _ _ _ => rfl⟩, by simp, by simp, by simp, by simp, by simp, by simp⟩
  case step =>
    intro i o b a w1 ho hI hb hr
    obtain ⟨g9, g10, hF, h9, h10, p910, hq9, hq10, rfl⟩ := hI
    match i, ho with
    | 0, ho =>
      injection ho with ho
      subst ho
      refine wp_quiet_here _ (quiet_load 22 (.tmp 3) rfl (w.heap.size) rfl 22 _ (0, 0) _ (fun _ h => Calm.at (Calm.at HW.out.1 hF) h) Try.underlying22 rfl H0.out rfl) (fun w2 hw2 => ?_)
      refine ⟨g9, g10, hF.trans hw2, ?_, ?_, ?_, ?_, ?_, ?_⟩
      · intro hx
        obtain ⟨k1, k2⟩ := h9 (by simpa [upd] using hx)
        refine ⟨k1, (hw2.block _ (heap_lt k2) (fun x => x)).trans ?_⟩
        rw [k2]
        simp [upd]
      · intro hx
        obtain ⟨k1, k2⟩ := h10 (by simpa [upd] using hx)
        refine ⟨k1, (hw2.block _ (heap_lt k2) (fun x => x)).trans ?_⟩
        rw [k2]
        simp [upd]
      · intro hx hy
        exact p910 (by simpa [upd] using hx) (by simpa [upd] using hy)
      · simpa [upd] using hq9
      · simpa [upd] using hq10
      · simp [upd, Act.put]
    | 1, ho =>
      injection ho with ho
      subst ho
      simp [Region.binds] at hr
      simp only [hr, if_true]
      refine wp_quiet_here (.agg #[.int .u64 a0, .int .u64 a1, .int .u64 a2, .int .u64 a3]) ?_ (fun w2 hw2 => ?_)
      · go_big_quiet_op
        exact ⟨_, Calm.calls f0, by simp [Act.put]⟩
      refine ⟨g9, g10, hF.trans hw2, ?_, ?_, ?_, ?_, ?_, ?_⟩
      · intro hx
        obtain ⟨k1, k2⟩ := h9 (by simpa [upd] using hx)
        refine ⟨k1, (hw2.block _ (heap_lt k2) (fun x => x)).trans ?_⟩
        rw [k2]
        simp [upd]
      · intro hx
        obtain ⟨k1, k2⟩ := h10 (by simpa [upd] using hx)
        refine ⟨k1, (hw2.block _ (heap_lt k2) (fun x => x)).trans ?_⟩
        rw [k2]
        simp [upd]
      · intro hx hy
        exact p910 (by simpa [upd] using hx) (by simpa [upd] using hy)
      · simpa [upd] using hq9
      · simpa [upd] using hq10
      · simp [upd, Act.put, hr]
    | 2, ho =>
      injection ho with ho
      subst ho
      refine wp_quiet_here _ (quiet_load 22 (.tmp 4) rfl (w.heap.size + 1) rfl 22 _ (0, 0) _ (fun _ h => Calm.at (Calm.at HW.out.2.1 hF) h) Try.underlying22 rfl H1.out rfl) (fun w2 hw2 => ?_)
      refine ⟨g9, g10, hF.trans hw2, ?_, ?_, ?_, ?_, ?_, ?_⟩
      · intro hx
        obtain ⟨k1, k2⟩ := h9 (by simpa [upd] using hx)
        refine ⟨k1, (hw2.block _ (heap_lt k2) (fun x => x)).trans ?_⟩
        rw [k2]
        simp [upd]
      · intro hx
        obtain ⟨k1, k2⟩ := h10 (by simpa [upd] using hx)
        refine ⟨k1, (hw2.block _ (heap_lt k2) (fun x => x)).trans ?_⟩
        rw [k2]
        simp [upd]
      · intro hx hy
        exact p910 (by simpa [upd] using hx) (by simpa [upd] using hy)
      · simpa [upd] using hq9
      · simpa [upd] using hq10
      · simp [upd, Act.put]
    | 3, ho =>
      injection ho with ho
      subst ho
      simp [Region.binds] at hr
      simp only [hr, if_true]
      refine wp_quiet_here (.agg #[.int .u64 b0, .int .u64 b1, .int .u64 b2, .int .u64 b3]) ?_ (fun w2 hw2 => ?_)
      · go_big_quiet_op
        exact ⟨_, Calm.calls f1, by simp [Act.put]⟩
      refine ⟨g9, g10, hF.trans hw2, ?_, ?_, ?_, ?_, ?_, ?_⟩
      · intro hx
        obtain ⟨k1, k2⟩ := h9 (by simpa [upd] using hx)
        refine ⟨k1, (hw2.block _ (heap_lt k2) (fun x => x)).trans ?_⟩
        rw [k2]
        simp [upd]
      · intro hx
        obtain ⟨k1, k2⟩ := h10 (by simpa [upd] using hx)
        refine ⟨k1, (hw2.block _ (heap_lt k2) (fun x => x)).trans ?_⟩
        rw [k2]
        simp [upd]
      · intro hx hy
        exact p910 (by simpa [upd] using hx) (by simpa [upd] using hy)
      · simpa [upd] using hq9
      · simpa [upd] using hq10
      · simp [upd, Act.put, hr]
    | 4, ho =>
      injection ho with ho
      subst ho
      refine wp_quiet_here (.int .i64 bit) (BigFrame.quiet_move (.tmp 2) rfl rfl) (fun w2 hw2 => ?_)
      refine ⟨g9, g10, hF.trans hw2, ?_, ?_, ?_, ?_, ?_, ?_⟩
      · intro hx
        obtain ⟨k1, k2⟩ := h9 (by simpa [upd] using hx)
        refine ⟨k1, (hw2.block _ (heap_lt k2) (fun x => x)).trans ?_⟩
        rw [k2]
        simp [upd]
      · intro hx
        obtain ⟨k1, k2⟩ := h10 (by simpa [upd] using hx)
        refine ⟨k1, (hw2.block _ (heap_lt k2) (fun x => x)).trans ?_⟩
        rw [k2]
        simp [upd]
      · intro hx hy
        exact p910 (by simpa [upd] using hx) (by simpa [upd] using hy)
      · simpa [upd] using hq9
      · simpa [upd] using hq10
      · simp [upd, Act.put]
    | 5, ho =>
      injection ho with ho
      subst ho
      simp [Region.binds] at hr
      simp only [hr, if_true]
      refine wp_quiet_here (.tuple #[.agg #[.int .u64 a0, .int .u64 a1, .int .u64 a2, .int .u64 a3], .agg #[.int .u64 b0, .int .u64 b1, .int .u64 b2, .int .u64 b3]]) ?_ (fun w2 hw2 => ?_)
      · go_big_quiet_op
        exact ⟨_, Calm.calls f2, by simp [Act.put]⟩
      refine ⟨g9, g10, hF.trans hw2, ?_, ?_, ?_, ?_, ?_, ?_⟩
      · intro hx
        obtain ⟨k1, k2⟩ := h9 (by simpa [upd] using hx)
        refine ⟨k1, (hw2.block _ (heap_lt k2) (fun x => x)).trans ?_⟩
        rw [k2]
        simp [upd]
      · intro hx
        obtain ⟨k1, k2⟩ := h10 (by simpa [upd] using hx)
        refine ⟨k1, (hw2.block _ (heap_lt k2) (fun x => x)).trans ?_⟩
        rw [k2]
        simp [upd]
      · intro hx hy
        exact p910 (by simpa [upd] using hx) (by simpa [upd] using hy)
      · simpa [upd] using hq9
      · simpa [upd] using hq10
      · simp [upd, Act.put, hr]
    | 6, ho =>
      injection ho with ho
      subst ho
      simp [Region.binds] at hr
      simp only [hr, if_true]
      refine wp_quiet_here (.tuple #[.agg #[.int .u64 a0, .int .u64 a1, .int .u64 a2, .int .u64 a3], .agg #[.int .u64 b0, .int .u64 b1, .int .u64 b2, .int .u64 b3]]) ?_ (fun w2 hw2 => ?_)
      · go_big_quiet_op
        simp [Act.put]
      refine ⟨g9, g10, hF.trans hw2, ?_, ?_, ?_, ?_, ?_, ?_⟩
      · intro hx
        obtain ⟨k1, k2⟩ := h9 (by simpa [upd] using hx)
        refine ⟨k1, (hw2.block _ (heap_lt k2) (fun x => x)).trans ?_⟩
        rw [k2]
        simp [upd]
      · intro hx
        obtain ⟨k1, k2⟩ := h10 (by simpa [upd] using hx)
        refine ⟨k1, (hw2.block _ (heap_lt k2) (fun x => x)).trans ?_⟩
        rw [k2]
        simp [upd]
      · intro hx hy
        exact p910 (by simpa [upd] using hx) (by simpa [upd] using hy)
      · simpa [upd] using hq9
      · simpa [upd] using hq10
      · simp [upd, Act.put, hr]
    | 7, ho =>
      injection ho with ho
      subst ho
      simp [Region.binds] at hr
      simp only [hr, if_true]
      refine wp_quiet_here (.agg #[.int .u64 a0, .int .u64 a1, .int .u64 a2, .int .u64 a3]) ?_ (fun w2 hw2 => ?_)
      · go_big_quiet_op
        exact ⟨_, fun _ _ => rfl, by simp [Act.put]⟩
      refine ⟨g9, g10, hF.trans hw2, ?_, ?_, ?_, ?_, ?_, ?_⟩
      · intro hx
        obtain ⟨k1, k2⟩ := h9 (by simpa [upd] using hx)
        refine ⟨k1, (hw2.block _ (heap_lt k2) (fun x => x)).trans ?_⟩
        rw [k2]
        simp [upd]
      · intro hx
        obtain ⟨k1, k2⟩ := h10 (by simpa [upd] using hx)
        refine ⟨k1, (hw2.block _ (heap_lt k2) (fun x => x)).trans ?_⟩
        rw [k2]
        simp [upd]
      · intro hx hy
        exact p910 (by simpa [upd] using hx) (by simpa [upd] using hy)
      · simpa [upd] using hq9
      · simpa [upd] using hq10
      · simp [upd, Act.put, hr]
    | 8, ho =>
      injection ho with ho
      subst ho
      simp [Region.binds] at hr
      simp only [hr, if_true]
      refine wp_quiet_here (.agg #[.int .u64 b0, .int .u64 b1, .int .u64 b2, .int .u64 b3]) ?_ (fun w2 hw2 => ?_)
      · go_big_quiet_op
        exact ⟨_, fun _ _ => rfl, by simp [Act.put]⟩
      refine ⟨g9, g10, hF.trans hw2, ?_, ?_, ?_, ?_, ?_, ?_⟩
      · intro hx
        obtain ⟨k1, k2⟩ := h9 (by simpa [upd] using hx)
        refine ⟨k1, (hw2.block _ (heap_lt k2) (fun x => x)).trans ?_⟩
        rw [k2]
        simp [upd]
      · intro hx
        obtain ⟨k1, k2⟩ := h10 (by simpa [upd] using hx)
        refine ⟨k1, (hw2.block _ (heap_lt k2) (fun x => x)).trans ?_⟩
        rw [k2]
        simp [upd]
      · intro hx hy
        exact p910 (by simpa [upd] using hx) (by simpa [upd] using hy)
      · simpa [upd] using hq9
      · simpa [upd] using hq10
      · simp [upd, Act.put, hr]
    | 9, ho =>
      injection ho with ho
      subst ho
      refine wp_alloc_any 28 rfl (#[.int .u64 0, .int .u64 0, .int .u64 0, .int .u64 0]) z28b ?_
      refine ⟨w1.heap.size, g10, hF.alloc _, ?_, ?_, ?_, ?_, ?_, ?_⟩
      · intro _
        refine ⟨hF.size, (heap_alloc_new w1 _).trans ?_⟩
        have hs : b 11 = false := by
          rcases hbs : b 11 with _ | _
          · rfl
          · rw [hq9 hbs] at hb
            cases hb
        simp [upd, hs]
      · intro hx
        obtain ⟨k1, k2⟩ := h10 (by simpa [upd] using hx)
        refine ⟨k1, (Below.heap_alloc w1 _ _ (heap_lt k2)).trans ?_⟩
        rw [k2]
        simp [upd]
      · intro _ hy
        have := heap_lt (h10 (by simpa [upd] using hy)).2
        omega
      · simp [upd]
      · simpa [upd] using hq10
      · simp [upd, Act.put]
    | 10, ho =>
      injection ho with ho
      subst ho
      refine wp_alloc_any 28 rfl (#[.int .u64 0, .int .u64 0, .int .u64 0, .int .u64 0]) z28b ?_
      refine ⟨g9, w1.heap.size, hF.alloc _, ?_, ?_, ?_, ?_, ?_, ?_⟩
      · intro hx
        obtain ⟨k1, k2⟩ := h9 (by simpa [upd] using hx)
        refine ⟨k1, (Below.heap_alloc w1 _ _ (heap_lt k2)).trans ?_⟩
        rw [k2]
        simp [upd]
      · intro _
        refine ⟨hF.size, (heap_alloc_new w1 _).trans ?_⟩
        have hs : b 12 = false := by
          rcases hbs : b 12 with _ | _
          · rfl
          · rw [hq10 hbs] at hb
            cases hb
        simp [upd, hs]
      · intro hx _
        have := heap_lt (h9 (by simpa [upd] using hx)).2
        omega
      · simpa [upd] using hq9
      · simp [upd]
      · simp [upd, Act.put]
    | 11, ho =>
      injection ho with ho
      subst ho
      simp [Region.binds] at hr
      obtain ⟨k1, k2⟩ := h9 (by simp [hr])
      rw [hb] at k2
      simp only [Bool.false_eq_true, if_false] at k2
      simp only [hr, if_true]
      refine wp_store_row 28 (.tmp 7) (.tmp 18) rfl g9 (#[.int .u64 a0, .int .u64 a1, .int .u64 a2, .int .u64 a3]) rfl rfl 28 _ k2 size28 rfl (vs_all .u64 [a0, a1, a2, a3]) ?_
      refine ⟨g9, g10, hF.setRow _ (.inr k1), ?_, ?_, ?_, ?_, ?_, ?_⟩
      · intro _
        refine ⟨k1, (setRow_heap _ _ _ _ _ _ k2).trans ?_⟩
        simp [upd]
      · intro hx
        obtain ⟨j1, j2⟩ := h10 (by simpa [upd] using hx)
        refine ⟨j1, (setRow_other _ _ _ _ (fun e => (p910 (by simp [hr]) (by simp [hr])) e.symm)).trans ?_⟩
        rw [j2]
        simp [upd]
      · intro hx hy
        exact p910 (by simpa [upd] using hx) (by simpa [upd] using hy)
      · simp [upd, hr]
      · simpa [upd] using hq10
      · simp [upd, Act.put, hr]
    | 12, ho =>
      injection ho with ho
      subst ho
      simp [Region.binds] at hr
      obtain ⟨k1, k2⟩ := h10 (by simp [hr])
      rw [hb] at k2
      simp only [Bool.false_eq_true, if_false] at k2
      simp only [hr, if_true]
      refine wp_store_row 28 (.tmp 8) (.tmp 19) rfl g10 (#[.int .u64 b0, .int .u64 b1, .int .u64 b2, .int .u64 b3]) rfl rfl 28 _ k2 size28 rfl (vs_all .u64 [b0, b1, b2, b3]) ?_
      refine ⟨g9, g10, hF.setRow _ (.inr k1), ?_, ?_, ?_, ?_, ?_, ?_⟩
      · intro hx
        obtain ⟨j1, j2⟩ := h9 (by simpa [upd] using hx)
        refine ⟨j1, (setRow_other _ _ _ _ (fun e => (p910 (by simp [hr]) (by simp [hr])) e)).trans ?_⟩
        rw [j2]
        simp [upd]
      · intro _
        refine ⟨k1, (setRow_heap _ _ _ _ _ _ k2).trans ?_⟩
        simp [upd]
      · intro hx hy
        exact p910 (by simpa [upd] using hx) (by simpa [upd] using hy)
      · simpa [upd] using hq9
      · simp [upd, hr]
      · simp [upd, Act.put, hr]
    | j + 13, ho => exact absurd ho (by simp)
  case done =>
    intro b a w1 hall hI
    obtain ⟨g9, g10, hF, h9, h10, p910, hq9, hq10, rfl⟩ := hI
    have t0 : b 0 = true := hall 0 (by simp)
    have t1 : b 1 = true := hall 1 (by simp)
    have t2 : b 2 = true := hall 2 (by simp)
    have t3 : b 3 = true := hall 3 (by simp)
    have t4 : b 4 = true := hall 4 (by simp)
    have t5 : b 5 = true := hall 5 (by simp)
    have t6 : b 6 = true := hall 6 (by simp)
    have t7 : b 7 = true := hall 7 (by simp)
    have t8 : b 8 = true := hall 8 (by simp)
    have t9 : b 9 = true := hall 9 (by simp)
    have t10 : b 10 = true := hall 10 (by simp)
    have t11 : b 11 = true := hall 11 (by simp)
    have t12 : b 12 = true := hall 12 (by simp)
    simp only [t0, t1, t2, t3, t4, t5, t6, t7, t8, t9, t10, t11, t12, if_true, true_implies] at h9 h10 p910 hq9 hq10 ⊢
    have X7 := Lib.hid h9.2
    have X8 := Lib.hid h10.2
    have B3 := Lib.hid (Calm.at HW.out.1 hF)
    have B4x := Lib.hid (Calm.at HW.out.2.1 hF)
    have Fw1 : Hid (Fr (fun _ => False) w w1) := HW.out.2.2.trans hF
    clear h9 h10 p910 hq9 hq10 hall hF f0 f1 f2
    go_upto_region 2 with (fail)
    refine wp_region_inv (fun b a w' => ∃ g4 g5 : Nat, Fr (fun _ => False) w1 w' ∧ (b 4 = true → w1.heap.size ≤ g4 ∧ w'.heap[g4]? = some (.cells (if b 6 = true then vs .i64 (frm l) else vs .i64 Z) 31 (0, 0))) ∧ (b 5 = true → w1.heap.size ≤ g5 ∧ w'.heap[g5]? = some (.cells (if b 7 = true then vs .i64 (frm m) else vs .i64 Z) 31 (0, 0))) ∧ (b 4 = true → b 5 = true → g4 ≠ g5) ∧ (b 6 = true → b 4 = true) ∧ (b 7 = true → b 5 = true) ∧ a = ⟨#[.agg (vs .u8 l), .agg (vs .u8 m), .int .i64 bit, .pointer (some ⟨w.heap.size, 0, none⟩), .pointer (some ⟨w.heap.size + 1, 0, none⟩), undef, .bool false, .pointer (some ⟨g9, 0, none⟩), .pointer (some ⟨g10, 0, none⟩), if b 4 = true then .pointer (some ⟨g4, 0, none⟩) else undef, if b 5 = true then .pointer (some ⟨g5, 0, none⟩) else undef, .tuple #[.agg #[.int .u64 a0, .int .u64 a1, .int .u64 a2, .int .u64 a3], .agg #[.int .u64 b0, .int .u64 b1, .int .u64 b2, .int .u64 b3]], .agg (vs .u8 l), .agg #[.int .u64 a0, .int .u64 a1, .int .u64 a2, .int .u64 a3], .agg (vs .u8 m), .agg #[.int .u64 b0, .int .u64 b1, .int .u64 b2, .int .u64 b3], .int .i64 bit, .tuple #[.agg #[.int .u64 a0, .int .u64 a1, .int .u64 a2, .int .u64 a3], .agg #[.int .u64 b0, .int .u64 b1, .int .u64 b2, .int .u64 b3]], .agg #[.int .u64 a0, .int .u64 a1, .int .u64 a2, .int .u64 a3], .agg #[.int .u64 b0, .int .u64 b1, .int .u64 b2, .int .u64 b3], if b 0 = true then .agg (vs .u8 l) else undef, if b 1 = true then .agg (vs .i64 (frm l)) else undef, if b 2 = true then .agg (vs .u8 m) else undef, if b 3 = true then .agg (vs .i64 (frm m)) else undef, undef, undef, undef, undef, undef, undef, undef, undef, undef, undef, undef, undef, undef, undef, undef, undef, undef, undef, undef], []⟩) (by kernel_rfl) (by kernel_rfl) ?start ?step ?done
    case start => exact ⟨0, 0, ⟨rfl, rfl, rfl, Nat.le_refl _, fun _ _ _ => rfl⟩, by simp, by simp, by simp, by simp, by simp, by simp⟩
    case step =>
      intro i o b a w3 ho hI hb hr
      obtain ⟨g4, g5, hF, h4, h5, p45, hq4, hq5, rfl⟩ := hI
      match i, ho with
      | 0, ho =>
        injection ho with ho
        subst ho
        refine wp_quiet_here _ (quiet_load 22 (.tmp 3) rfl (w.heap.size) rfl 22 _ (0, 0) _ (fun _ h => Calm.at (Calm.at B3.out hF) h) Try.underlying22 rfl H0.out rfl) (fun w2 hw2 => ?_)
        refine ⟨g4, g5, hF.trans hw2, ?_, ?_, ?_, ?_, ?_, ?_⟩
        · intro hx
          obtain ⟨k1, k2⟩ := h4 (by simpa [upd] using hx)
          refine ⟨k1, (hw2.block _ (heap_lt k2) (fun x => x)).trans ?_⟩
          rw [k2]
          simp [upd]
        · intro hx
          obtain ⟨k1, k2⟩ := h5 (by simpa [upd] using hx)
          refine ⟨k1, (hw2.block _ (heap_lt k2) (fun x => x)).trans ?_⟩
          rw [k2]
          simp [upd]
        · intro hx hy
          exact p45 (by simpa [upd] using hx) (by simpa [upd] using hy)
        · simpa [upd] using hq4
        · simpa [upd] using hq5
        · simp [upd, Act.put]
      | 1, ho =>
        injection ho with ho
        subst ho
        simp [Region.binds] at hr
        simp only [hr, if_true]
        refine wp_quiet_here (.agg (vs .i64 (frm l))) ?_ (fun w2 hw2 => ?_)
        · go_big_quiet_op
          exact ⟨_, Calm.calls f3, by simp [Act.put]⟩
        refine ⟨g4, g5, hF.trans hw2, ?_, ?_, ?_, ?_, ?_, ?_⟩
        · intro hx
          obtain ⟨k1, k2⟩ := h4 (by simpa [upd] using hx)
          refine ⟨k1, (hw2.block _ (heap_lt k2) (fun x => x)).trans ?_⟩
          rw [k2]
          simp [upd]
        · intro hx
          obtain ⟨k1, k2⟩ := h5 (by simpa [upd] using hx)
          refine ⟨k1, (hw2.block _ (heap_lt k2) (fun x => x)).trans ?_⟩
          rw [k2]
          simp [upd]
        · intro hx hy
          exact p45 (by simpa [upd] using hx) (by simpa [upd] using hy)
        · simpa [upd] using hq4
        · simpa [upd] using hq5
        · simp [upd, Act.put, hr]
      | 2, ho =>
        injection ho with ho
        subst ho
        refine wp_quiet_here _ (quiet_load 22 (.tmp 4) rfl (w.heap.size + 1) rfl 22 _ (0, 0) _ (fun _ h => Calm.at (Calm.at B4x.out hF) h) Try.underlying22 rfl H1.out rfl) (fun w2 hw2 => ?_)
        refine ⟨g4, g5, hF.trans hw2, ?_, ?_, ?_, ?_, ?_, ?_⟩
        · intro hx
          obtain ⟨k1, k2⟩ := h4 (by simpa [upd] using hx)
          refine ⟨k1, (hw2.block _ (heap_lt k2) (fun x => x)).trans ?_⟩
          rw [k2]
          simp [upd]
        · intro hx
          obtain ⟨k1, k2⟩ := h5 (by simpa [upd] using hx)
          refine ⟨k1, (hw2.block _ (heap_lt k2) (fun x => x)).trans ?_⟩
          rw [k2]
          simp [upd]
        · intro hx hy
          exact p45 (by simpa [upd] using hx) (by simpa [upd] using hy)
        · simpa [upd] using hq4
        · simpa [upd] using hq5
        · simp [upd, Act.put]
      | 3, ho =>
        injection ho with ho
        subst ho
        simp [Region.binds] at hr
        simp only [hr, if_true]
        refine wp_quiet_here (.agg (vs .i64 (frm m))) ?_ (fun w2 hw2 => ?_)
        · go_big_quiet_op
          exact ⟨_, Calm.calls f4, by simp [Act.put]⟩
        refine ⟨g4, g5, hF.trans hw2, ?_, ?_, ?_, ?_, ?_, ?_⟩
        · intro hx
          obtain ⟨k1, k2⟩ := h4 (by simpa [upd] using hx)
          refine ⟨k1, (hw2.block _ (heap_lt k2) (fun x => x)).trans ?_⟩
          rw [k2]
          simp [upd]
        · intro hx
          obtain ⟨k1, k2⟩ := h5 (by simpa [upd] using hx)
          refine ⟨k1, (hw2.block _ (heap_lt k2) (fun x => x)).trans ?_⟩
          rw [k2]
          simp [upd]
        · intro hx hy
          exact p45 (by simpa [upd] using hx) (by simpa [upd] using hy)
        · simpa [upd] using hq4
        · simpa [upd] using hq5
        · simp [upd, Act.put, hr]
      | 4, ho =>
        injection ho with ho
        subst ho
        refine wp_alloc_any 31 rfl (vs .i64 Z) hz ?_
        refine ⟨w3.heap.size, g5, hF.alloc _, ?_, ?_, ?_, ?_, ?_, ?_⟩
        · intro _
          refine ⟨hF.size, (heap_alloc_new w3 _).trans ?_⟩
          have hs : b 6 = false := by
            rcases hbs : b 6 with _ | _
            · rfl
            · rw [hq4 hbs] at hb
              cases hb
          simp [upd, hs]
        · intro hx
          obtain ⟨k1, k2⟩ := h5 (by simpa [upd] using hx)
          refine ⟨k1, (Below.heap_alloc w3 _ _ (heap_lt k2)).trans ?_⟩
          rw [k2]
          simp [upd]
        · intro _ hy
          have := heap_lt (h5 (by simpa [upd] using hy)).2
          omega
        · simp [upd]
        · simpa [upd] using hq5
        · simp [upd, Act.put]
      | 5, ho =>
        injection ho with ho
        subst ho
        refine wp_alloc_any 31 rfl (vs .i64 Z) hz ?_
        refine ⟨g4, w3.heap.size, hF.alloc _, ?_, ?_, ?_, ?_, ?_, ?_⟩
        · intro hx
          obtain ⟨k1, k2⟩ := h4 (by simpa [upd] using hx)
          refine ⟨k1, (Below.heap_alloc w3 _ _ (heap_lt k2)).trans ?_⟩
          rw [k2]
          simp [upd]
        · intro _
          refine ⟨hF.size, (heap_alloc_new w3 _).trans ?_⟩
          have hs : b 7 = false := by
            rcases hbs : b 7 with _ | _
            · rfl
            · rw [hq5 hbs] at hb
              cases hb
          simp [upd, hs]
        · intro hx _
          have := heap_lt (h4 (by simpa [upd] using hx)).2
          omega
        · simpa [upd] using hq4
        · simp [upd]
        · simp [upd, Act.put]
      | 6, ho =>
        injection ho with ho
        subst ho
        simp [Region.binds] at hr
        obtain ⟨k1, k2⟩ := h4 (by simp [hr])
        rw [hb] at k2
        simp only [Bool.false_eq_true, if_false] at k2
        simp only [hr, if_true]
        refine wp_store_row 31 (.tmp 9) (.tmp 21) rfl g4 (vs .i64 (frm l)) rfl rfl 31 _ k2 S0.out Z0.out (vs_all _ _) ?_
        refine ⟨g4, g5, hF.setRow _ (.inr k1), ?_, ?_, ?_, ?_, ?_, ?_⟩
        · intro _
          refine ⟨k1, (setRow_heap _ _ _ _ _ _ k2).trans ?_⟩
          simp [upd]
        · intro hx
          obtain ⟨j1, j2⟩ := h5 (by simpa [upd] using hx)
          refine ⟨j1, (setRow_other _ _ _ _ (fun e => (p45 (by simp [hr]) (by simp [hr])) e.symm)).trans ?_⟩
          rw [j2]
          simp [upd]
        · intro hx hy
          exact p45 (by simpa [upd] using hx) (by simpa [upd] using hy)
        · simp [upd, hr]
        · simpa [upd] using hq5
        · simp [upd, Act.put, hr]
      | 7, ho =>
        injection ho with ho
        subst ho
        simp [Region.binds] at hr
        obtain ⟨k1, k2⟩ := h5 (by simp [hr])
        rw [hb] at k2
        simp only [Bool.false_eq_true, if_false] at k2
        simp only [hr, if_true]
        refine wp_store_row 31 (.tmp 10) (.tmp 23) rfl g5 (vs .i64 (frm m)) rfl rfl 31 _ k2 S1.out Z1.out (vs_all _ _) ?_
        refine ⟨g4, g5, hF.setRow _ (.inr k1), ?_, ?_, ?_, ?_, ?_, ?_⟩
        · intro hx
          obtain ⟨j1, j2⟩ := h4 (by simpa [upd] using hx)
          refine ⟨j1, (setRow_other _ _ _ _ (fun e => (p45 (by simp [hr]) (by simp [hr])) e)).trans ?_⟩
          rw [j2]
          simp [upd]
        · intro _
          refine ⟨k1, (setRow_heap _ _ _ _ _ _ k2).trans ?_⟩
          simp [upd]
        · intro hx hy
          exact p45 (by simpa [upd] using hx) (by simpa [upd] using hy)
        · simpa [upd] using hq4
        · simp [upd, hr]
        · simp [upd, Act.put, hr]
      | j + 8, ho => exact absurd ho (by simp)
    case done =>
      intro b a w3 hall hI
      obtain ⟨g4, g5, hF, h4, h5, p45, hq4, hq5, rfl⟩ := hI
      have t0 : b 0 = true := hall 0 (by simp)
      have t1 : b 1 = true := hall 1 (by simp)
      have t2 : b 2 = true := hall 2 (by simp)
      have t3 : b 3 = true := hall 3 (by simp)
      have t4 : b 4 = true := hall 4 (by simp)
      have t5 : b 5 = true := hall 5 (by simp)
      have t6 : b 6 = true := hall 6 (by simp)
      have t7 : b 7 = true := hall 7 (by simp)
      simp only [t0, t1, t2, t3, t4, t5, t6, t7, if_true, true_implies] at h4 h5 p45 hq4 hq5 ⊢
      have Y7 := Lib.hid (Calm.at X7.out hF)
      have Y8 := Lib.hid (Calm.at X8.out hF)
      have Y9 := Lib.hid h4.2
      have Y10 := Lib.hid h5.2
      have Fw3 : Hid (Fr (fun _ => False) w w3) := Fw1.out.trans hF
      clear h4 h5 p45 hq4 hq5 hall hF f3 f4 X7 X8 B3 B4x Fw1
      go_upto_region 5 with (fail)
      refine wp_region_head (C := Calm w3) 9 (Fr.refl _ _) ?_
      simp only [List.take_succ_cons, List.take_zero, List.drop_succ_cons, List.drop_zero]
      refine BigFrame.wpQuiet_want rfl fun K hK => quiet_load 28 (.tmp 7) rfl (g9) rfl 28 _ (0, 0) _ (fun _ h => Calm.at Y7.out h) Try.underlying28 rfl size28 (hK _ ?_)
      refine BigFrame.wpQuiet_want rfl fun K hK => quiet_load 31 (.tmp 9) rfl (g4) rfl 31 _ (0, 0) _ (fun _ h => Calm.at Y9.out h) Try.underlying31 rfl S0.out (hK _ ?_)
      refine BigFrame.wpQuiet_want rfl fun K hK => ?_
      try simp only [Act.put, List.setIfInBounds_toArray, List.set_cons_succ, List.set_cons_zero]
      go_big_quiet_op
      refine ⟨_, Calm.calls f5, hK _ ?_⟩
      refine BigFrame.wpQuiet_want rfl fun K hK => ?_
      try simp only [Act.put, List.setIfInBounds_toArray, List.set_cons_succ, List.set_cons_zero]
      go_big_quiet_op
      refine hK _ ?_
      refine BigFrame.wpQuiet_want rfl fun K hK => quiet_load 28 (.tmp 8) rfl (g10) rfl 28 _ (0, 0) _ (fun _ h => Calm.at Y8.out h) Try.underlying28 rfl size28 (hK _ ?_)
      refine BigFrame.wpQuiet_want rfl fun K hK => quiet_load 31 (.tmp 10) rfl (g5) rfl 31 _ (0, 0) _ (fun _ h => Calm.at Y10.out h) Try.underlying31 rfl S1.out (hK _ ?_)
      refine BigFrame.wpQuiet_want rfl fun K hK => ?_
      try simp only [Act.put, List.setIfInBounds_toArray, List.set_cons_succ, List.set_cons_zero]
      go_big_quiet_op
      refine ⟨_, Calm.calls f6, hK _ ?_⟩
      refine BigFrame.wpQuiet_want rfl fun K hK => ?_
      try simp only [Act.put, List.setIfInBounds_toArray, List.set_cons_succ, List.set_cons_zero]
      go_big_quiet_op
      refine ⟨_, fun _ _ => rfl, hK _ ?_⟩
      refine BigFrame.wpQuiet_want rfl fun K hK => ?_
      try simp only [Act.put, List.setIfInBounds_toArray, List.set_cons_succ, List.set_cons_zero]
      go_big_quiet_op
      refine hK _ ?_
      refine wpQuiet_nil ?_
      intro w4 hw4
      have F4 : Hid (Fr (fun _ => False) w w4) := Fw3.out.trans hw4
      clear hw4
      try simp only [Act.put, List.setIfInBounds_toArray, List.set_cons_succ, List.set_cons_zero]
      go_wp2
      go_ret
      exact ⟨rfl, F4.out⟩

theorem law_swap_any (l m : List Int) (a2 : Int) (w : World) (hl : l.length = 32) (bl : Bys l) (hm : m.length = 32) (bm : Bys m) (_h : -9223372036854775808 ≤ a2 ∧ a2 ≤ 9223372036854775807) :
    Calls Try.prog 8 #[.agg (vs .u8 l), .agg (vs .u8 m), .int .i64 a2] w fun e w' => e = .returned (.bool true) ∧ Fr (fun _ => False) w w' := by
  by_cases h : a2 % 2 = 1
  · exact law_swap_yes l m a2 w hl bl hm bm h
  · exact law_swap_no l m a2 w hl bl hm bm (by omega)

set_option maxRecDepth 100000 in
theorem law_swap_lifted (os : Os) (started : os.Started) (H : Type) (enc : TypeId × Value → H) :
    ReturnsInHanded {} Try.checked os 8 .any (Rows.fieldSwapSpec.pre6 enc Try.prog Try.f8 Rows.fieldSwapRow.domain false) (Rows.fieldSwapSpec.post enc Try.prog Try.f8 false true false false) := by
  refine returnsInHanded_of_change (C := Try.checked) own started (by kernel_rfl) Try.func8
    (ChangeSpec.witness6 (enc := enc) (C := Try.checked) false ⟨#[], #[.agg (vs .u8 (List.replicate 32 0)), .agg (vs .u8 (List.replicate 32 0)), .int .i64 0], []⟩ 8 (by kernel_rfl) (by kernel_rfl) (by kernel_rfl) (by kernel_rfl)) ?_
  intro W base args ds gs before hval0 hW hcnd _
  have hval : ∀ (j : Nat) t v, Try.f8.params[j]? = some t → args[j]? = some v → Value.okWide Try.prog W .any base t v := hval0
  have hW' := hW
  obtain ⟨p, q, hA0, hV, rfl, hfz, hnd⟩ := hW
  have hA : DataW.TrodAll enc Try.prog W 0 (fun _ => true) true Try.f8.params.toList args.toList ds p := hA0
  rw [Try.params8] at hA hval
  obtain ⟨v0, vs0, d0, ds0, p0, q0, hargs, rfl, rfl, h0, r0⟩ := trodAll_cons hA
  obtain ⟨v1, vs1, d1, ds1, p1, q1, rfl, rfl, rfl, h1, r1⟩ := trodAll_cons r0
  obtain ⟨v2, vs2, d2, ds2, p2, q2, rfl, rfl, rfl, h2, r2⟩ := trodAll_cons r1
  obtain ⟨rfl, rfl, rfl⟩ := trodAll_nil r2
  obtain rfl : args = #[v0, v1, v2] := by cases args; simp_all
  obtain ⟨rfl, rfl⟩ := trodVars_none hV
  obtain ⟨l0, rfl, e0, b0⟩ := open_bytes (hval 0 22 v0 rfl rfl) h0
  obtain ⟨l1, rfl, e1, b1⟩ := open_bytes (hval 1 22 v1 rfl rfl) h1
  obtain ⟨a2, rfl, rfl, rfl, w2⟩ := open_int Try.underlying3 (hval 2 3 v2 rfl rfl) h2
  clear hA0 hval0
  refine (law_swap_any l0 l1 a2 W e0 b0 e1 b1 (bounds_i64 w2)).mono fun e W' ⟨he, hg⟩ => ?_
  subst he
  exact ⟨_, rfl, post_true rfl hW' (by kernel_rfl) rfl rfl hg⟩

theorem fieldSwap_holds : Rows.FieldSwapSaid :=
  OpenClaim.holds_of_wide 8 Try.f8 rfl rfl rfl rfl rfl rfl rfl ⟨rfl, rfl, rfl, rfl, rfl⟩ rfl rfl rfl rfl rfl (by kernel_rfl) Try.func8 (by kernel_rfl)
    (of_decide_eq_true (by kernel_rfl)) (by unfold Func.isWrapper; first | (rw [if_pos (by decide +kernel)]; kernel_rfl) | (rw [if_neg (by decide +kernel)]; exact ⟨rfl, rfl⟩))
    (fun os started H enc _ => law_swap_lifted os started H enc)
#print axioms fieldSwap_holds
end Go.Proofs.Ytmhoblefpkjdlaa
