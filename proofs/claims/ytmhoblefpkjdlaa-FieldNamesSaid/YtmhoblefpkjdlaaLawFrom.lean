/- FieldFrom answers true for all 32 bytes and all numbers, and its arguments read behind the call as they did: the given statement FieldFromSaid. No condition. -/
import Derived.Test.YtmhoblefpkjdlaaLift
import Derived.Test.YtmhoblefpkjdlaaInvR
import Derived.Test.YtmhoblefpkjdlaaRefI
import Derived.Deep.Cut
namespace Go.Proofs.Ytmhoblefpkjdlaa
open Go.ChangeShapes Go.WideShapes Go.ChangeAt Go.RowKit

theorem z28 : ∀ w : World, (zeroValue 28).run Try.prog w = .ok (.agg #[.int .u64 0, .int .u64 0, .int .u64 0, .int .u64 0]) w := fun _ => by kernel_rfl

set_option maxRecDepth 100000 in
set_option maxHeartbeats 4000000 in
theorem law_from_walk (l : List Int) (n : Int) (w : World) (hl : l.length = 32) (bl : Bys l) (hn : 0 ≤ n) (hn' : n ≤ 4294967295) :
    Calls Try.prog 3 #[.agg (vs .u8 l), .int .u32 n] w fun e w' => e = .returned (.bool true) ∧ Fr (fun _ => False) w w' := by
  obtain ⟨a0, a1, a2, a3, hA⟩ := ws_of (v := fe l) (El.mod _)
  have ol := frm_ok l hl bl
  have c1 : ∀ W, Calls Try.prog 14 #[.agg (vs .u8 l)] W fun e w' => e = .returned (.agg #[.int .u64 a0, .int .u64 a1, .int .u64 a2, .int .u64 a3]) ∧ Fr (fun _ => False) W w' := fun W => by
    rw [← hA.eq]
    exact from_el l W hl bl
  have c2 : ∀ W, Calls Try.prog 15 #[.agg (vs .u8 l)] W fun e w' => e = .returned (.agg (vs .i64 (frm l))) ∧ Fr (fun _ => False) W w' := fun W => rfrom_is l W hl bl
  have c3 : ∀ W, Calls Try.prog 16 #[.agg (vs .i64 (frm l))] W fun e w' => e = .returned (.agg (vs .u8 (lb 32 (fe l)))) ∧ Fr (fun _ => False) W w' := fun W => rbytes_is _ _ W ol
  have c4 : ∀ W, Calls Try.prog 17 #[.agg #[.int .u64 a0, .int .u64 a1, .int .u64 a2, .int .u64 a3], .agg (vs .i64 (frm l))] W fun e w' => e = .returned (.bool true) ∧ Fr (fun _ => False) W w' := fun W => by
    rw [← hA.eq]
    exact is_yes _ _ W (El.mod _) ol
  obtain ⟨zb, hzb⟩ : ∃ zb : Bool, zb = decide (fe l = 0) := ⟨_, rfl⟩
  have c5 : ∀ W, Calls Try.prog 18 #[.agg #[.int .u64 a0, .int .u64 a1, .int .u64 a2, .int .u64 a3]] W fun e w' => e = .returned (.bool zb) ∧ Fr (fun _ => False) W w' := fun W => by
    by_cases h : fe l = 0
    · rw [hzb, decide_eq_true h]
      exact zero_w1 hA h W
    · rw [hzb, decide_eq_false h]
      exact zero_w0 hA h W
  have q1 : ∀ W, (Op.equalIn 10000 22 (.agg (vs .u8 (lb 32 (fe l)))) (.agg (vs .u8 (List.replicate 32 0)))).run Try.prog W = .ok zb W := fun W => by
    rw [eq22 _ _ (lb_length _ _) rfl, hzb]
    congr 1
    apply decide_eq_decide.2
    constructor
    · intro h
      have h1 := vl_lb 32 (fe l)
      rw [h, p256_4] at h1
      have h2 : vl (List.replicate 32 0) = 0 := by decide
      rw [h2] at h1
      have h3 := El.mod (vl l % p255)
      obtain ⟨h4, h5⟩ := h3
      unfold fe at *
      unfold pp at h5
      unfold pp at h1 h4
      unfold pp
      omega
    · intro h
      rw [h]
      decide +kernel
  have c6 := fun W => small_is n W hn hn'
  have c7 := fun W => rsmall_is n W hn hn'
  have c8 := fun W => is_yes (sml n) n W (ws_small n hn hn').el (sml_ok n hn hn')
  obtain ⟨nb, hnb⟩ : ∃ nb : Bool, (n == 0) = nb := ⟨_, rfl⟩
  have c9 : ∀ W, Calls Try.prog 18 #[el n] W fun e w' => e = .returned (.bool nb) ∧ Fr (fun _ => False) W w' := fun W => by
    by_cases h : n = 0
    · subst h
      rw [← hnb]
      exact zero_yes W
    · rw [← hnb, show (n == 0) = false by simpa using h]
      exact zero_no n W (ws_small n hn hn').el h
  obtain ⟨N, hN⟩ : ∃ N, N = sml n := ⟨_, rfl⟩
  obtain ⟨e, he⟩ : ∃ e, e = el n := ⟨_, rfl⟩
  obtain ⟨B, hB⟩ : ∃ B, B = lb 32 (fe l) := ⟨_, rfl⟩
  rw [← hB] at c3 q1
  unfold nm at c7 c8
  rw [← hN] at c7 c8
  rw [← he] at c6 c8 c9
  have q2 : ∀ W, (Op.equalIn 10000 22 (.agg (vs .u8 B)) (.agg #[.int .u8 0, .int .u8 0, .int .u8 0, .int .u8 0, .int .u8 0, .int .u8 0, .int .u8 0, .int .u8 0, .int .u8 0, .int .u8 0, .int .u8 0, .int .u8 0, .int .u8 0, .int .u8 0, .int .u8 0, .int .u8 0, .int .u8 0, .int .u8 0, .int .u8 0, .int .u8 0, .int .u8 0, .int .u8 0, .int .u8 0, .int .u8 0, .int .u8 0, .int .u8 0, .int .u8 0, .int .u8 0, .int .u8 0, .int .u8 0, .int .u8 0, .int .u8 0])).run Try.prog W = .ok zb W := fun W => q1 W
  clear q1
  have H1 : Hid ((Try.prog.info? 22).map (·.size) = some (vs .u8 l).size) := by show _ = _; rw [size22, vs_size, hl]
  obtain ⟨Z, hZ⟩ : ∃ Z, Z = List.replicate 16 (0 : Int) := ⟨_, rfl⟩
  have hz : ∀ W : World, (zeroValue 31).run Try.prog W = .ok (.agg (vs .i64 Z)) W := fun W => by rw [hZ]; kernel_rfl
  have S31 : Hid ((Try.prog.info? 31).map (·.size) = some (vs .i64 (frm l)).size) := by show _ = _; rw [size31, vs_size, ol.len]
  have SZ : Hid ((vs .i64 Z).size = (vs .i64 (frm l)).size) := by show _ = _; rw [vs_size, vs_size, ol.len, hZ]; rfl
  clear hZ hzb hN he hB hl bl hA ol
  go_enter Try.func3, Try.ntmps3
  go_upto_region 1 with (fail)
  generalize hW : w.alloc (.cells (vs .u8 l) 22) = W0
  have HW := Lib.hid (calm1a hW)
  clear hW
  refine wp_region_inv (fun b a w' => ∃ g4 g5 : Nat, Fr (fun _ => False) W0 w' ∧ (b 4 = true → W0.heap.size ≤ g4 ∧ w'.heap[g4]? = some (.cells (if b 6 = true then #[.int .u64 a0, .int .u64 a1, .int .u64 a2, .int .u64 a3] else #[.int .u64 0, .int .u64 0, .int .u64 0, .int .u64 0]) 28 (0, 0))) ∧ (b 5 = true → W0.heap.size ≤ g5 ∧ w'.heap[g5]? = some (.cells (if b 7 = true then vs .i64 (frm l) else vs .i64 Z) 31 (0, 0))) ∧ (b 4 = true → b 5 = true → g4 ≠ g5) ∧ (b 6 = true → b 4 = true) ∧ (b 7 = true → b 5 = true) ∧ a = ⟨#[.agg (vs .u8 l), .int .u32 n, .pointer (some ⟨w.heap.size, 0, none⟩), undef, .bool false, if b 4 = true then .pointer (some ⟨g4, 0, none⟩) else undef, if b 5 = true then .pointer (some ⟨g5, 0, none⟩) else undef, undef, if b 0 = true then .agg (vs .u8 l) else undef, if b 1 = true then .agg #[.int .u64 a0, .int .u64 a1, .int .u64 a2, .int .u64 a3] else undef, if b 2 = true then .agg (vs .u8 l) else undef, if b 3 = true then .agg (vs .i64 (frm l)) else undef, undef, undef, undef, undef, undef, undef, undef, undef, undef, undef, undef, undef, undef, undef, undef, undef, undef, undef, undef, undef, undef, undef, undef, undef, undef, undef, undef, undef], []⟩) (by kernel_rfl) (by kernel_rfl) ?start ?step ?done
  case start => exact ⟨0, 0, ⟨rfl, rfl, rfl, Nat.le_refl _, fun _ _ _ => rfl⟩, by simp, by simp, by simp, by simp, by simp, by simp⟩
  case step =>
    intro i o b a w1 ho hI hb hr
    obtain ⟨g4, g5, hF, h4, h5, p45, hq4, hq5, rfl⟩ := hI
    match i, ho with
    | 0, ho =>
      injection ho with ho
      subst ho
      refine wp_quiet_here _ (quiet_load 22 (.tmp 2) rfl (w.heap.size) rfl 22 _ (0, 0) _ (fun _ h => Calm.at (Calm.at HW.out.1 hF) h) Try.underlying22 rfl H1.out rfl) (fun w2 hw2 => ?_)
      refine ⟨g4, g5, hF.trans hw2, ?_, ?_, ?_, ?_, ?_, ?_⟩
      · intro hx
        obtain ⟨k1, k2⟩ := h4 (by simpa [upd] using hx)
        refine ⟨k1, (hw2.block _ (heap_lt k2) (fun x => x)).trans ?_⟩
        rw [k2]
        simp [upd]
      · intro hx
        obtain ⟨k1, k2⟩ := h5 (by simpa [upd] using hx)
        refine ⟨k1, (hw2.block _ (heap_lt k2) (fun x => x)).trans ?_⟩
        rw [k2]
        simp [upd]
      · intro hx hy
        exact p45 (by simpa [upd] using hx) (by simpa [upd] using hy)
      · simpa [upd] using hq4
      · simpa [upd] using hq5
      · simp [upd, Act.put]
    | 1, ho =>
      injection ho with ho
      subst ho
      simp [Region.binds] at hr
      simp only [hr, if_true]
      refine wp_quiet_here (.agg #[.int .u64 a0, .int .u64 a1, .int .u64 a2, .int .u64 a3]) ?_ (fun w2 hw2 => ?_)
      · go_big_quiet_op
        exact ⟨_, Calm.calls c1, by simp [Act.put]⟩
      refine ⟨g4, g5, hF.trans hw2, ?_, ?_, ?_, ?_, ?_, ?_⟩
      · intro hx
        obtain ⟨k1, k2⟩ := h4 (by simpa [upd] using hx)
        refine ⟨k1, (hw2.block _ (heap_lt k2) (fun x => x)).trans ?_⟩
        rw [k2]
        simp [upd]
      · intro hx
        obtain ⟨k1, k2⟩ := h5 (by simpa [upd] using hx)
        refine ⟨k1, (hw2.block _ (heap_lt k2) (fun x => x)).trans ?_⟩
        rw [k2]
        simp [upd]
      · intro hx hy
        exact p45 (by simpa [upd] using hx) (by simpa [upd] using hy)
      · simpa [upd] using hq4
      · simpa [upd] using hq5
      · simp [upd, Act.put, hr]
    | 2, ho =>
      injection ho with ho
      subst ho
      refine wp_quiet_here _ (quiet_load 22 (.tmp 2) rfl (w.heap.size) rfl 22 _ (0, 0) _ (fun _ h => Calm.at (Calm.at HW.out.1 hF) h) Try.underlying22 rfl H1.out rfl) (fun w2 hw2 => ?_)
      refine ⟨g4, g5, hF.trans hw2, ?_, ?_, ?_, ?_, ?_, ?_⟩
      · intro hx
        obtain ⟨k1, k2⟩ := h4 (by simpa [upd] using hx)
        refine ⟨k1, (hw2.block _ (heap_lt k2) (fun x => x)).trans ?_⟩
        rw [k2]
        simp [upd]
      · intro hx
        obtain ⟨k1, k2⟩ := h5 (by simpa [upd] using hx)
        refine ⟨k1, (hw2.block _ (heap_lt k2) (fun x => x)).trans ?_⟩
        rw [k2]
        simp [upd]
      · intro hx hy
        exact p45 (by simpa [upd] using hx) (by simpa [upd] using hy)
      · simpa [upd] using hq4
      · simpa [upd] using hq5
      · simp [upd, Act.put]
    | 3, ho =>
      injection ho with ho
      subst ho
      simp [Region.binds] at hr
      simp only [hr, if_true]
      refine wp_quiet_here (.agg (vs .i64 (frm l))) ?_ (fun w2 hw2 => ?_)
      · go_big_quiet_op
        exact ⟨_, Calm.calls c2, by simp [Act.put]⟩
      refine ⟨g4, g5, hF.trans hw2, ?_, ?_, ?_, ?_, ?_, ?_⟩
      · intro hx
        obtain ⟨k1, k2⟩ := h4 (by simpa [upd] using hx)
        refine ⟨k1, (hw2.block _ (heap_lt k2) (fun x => x)).trans ?_⟩
        rw [k2]
        simp [upd]
      · intro hx
        obtain ⟨k1, k2⟩ := h5 (by simpa [upd] using hx)
        refine ⟨k1, (hw2.block _ (heap_lt k2) (fun x => x)).trans ?_⟩
        rw [k2]
        simp [upd]
      · intro hx hy
        exact p45 (by simpa [upd] using hx) (by simpa [upd] using hy)
      · simpa [upd] using hq4
      · simpa [upd] using hq5
      · simp [upd, Act.put, hr]
    | 4, ho =>
      injection ho with ho
      subst ho
      refine wp_alloc_any 28 rfl (#[.int .u64 0, .int .u64 0, .int .u64 0, .int .u64 0]) z28 ?_
      refine ⟨w1.heap.size, g5, hF.alloc _, ?_, ?_, ?_, ?_, ?_, ?_⟩
      · intro _
        refine ⟨hF.size, (heap_alloc_new w1 _).trans ?_⟩
        have hs : b 6 = false := by
          rcases hbs : b 6 with _ | _
          · rfl
          · rw [hq4 hbs] at hb
            cases hb
        simp [upd, hs]
      · intro hx
        obtain ⟨k1, k2⟩ := h5 (by simpa [upd] using hx)
        refine ⟨k1, (Below.heap_alloc w1 _ _ (heap_lt k2)).trans ?_⟩
        rw [k2]
        simp [upd]
      · intro _ hy
        have := heap_lt (h5 (by simpa [upd] using hy)).2
        omega
      · simp [upd]
      · simpa [upd] using hq5
      · simp [upd, Act.put]
    | 5, ho =>
      injection ho with ho
      subst ho
      refine wp_alloc_any 31 rfl (vs .i64 Z) hz ?_
      refine ⟨g4, w1.heap.size, hF.alloc _, ?_, ?_, ?_, ?_, ?_, ?_⟩
      · intro hx
        obtain ⟨k1, k2⟩ := h4 (by simpa [upd] using hx)
        refine ⟨k1, (Below.heap_alloc w1 _ _ (heap_lt k2)).trans ?_⟩
        rw [k2]
        simp [upd]
      · intro _
        refine ⟨hF.size, (heap_alloc_new w1 _).trans ?_⟩
        have hs : b 7 = false := by
          rcases hbs : b 7 with _ | _
          · rfl
          · rw [hq5 hbs] at hb
            cases hb
        simp [upd, hs]
      · intro hx _
        have := heap_lt (h4 (by simpa [upd] using hx)).2
        omega
      · simpa [upd] using hq4
      · simp [upd]
      · simp [upd, Act.put]
    | 6, ho =>
      injection ho with ho
      subst ho
      simp [Region.binds] at hr
      obtain ⟨k1, k2⟩ := h4 (by simp [hr])
      rw [hb] at k2
      simp only [Bool.false_eq_true, if_false] at k2
      simp only [hr, if_true]
      refine wp_store_row 28 (.tmp 5) (.tmp 9) rfl g4 (#[.int .u64 a0, .int .u64 a1, .int .u64 a2, .int .u64 a3]) rfl rfl 28 _ k2 size28 rfl (vs_all .u64 [a0, a1, a2, a3]) ?_
      refine ⟨g4, g5, hF.setRow _ (.inr k1), ?_, ?_, ?_, ?_, ?_, ?_⟩
      · intro _
        refine ⟨k1, (setRow_heap _ _ _ _ _ _ k2).trans ?_⟩
        simp [upd]
      · intro hx
        obtain ⟨j1, j2⟩ := h5 (by simpa [upd] using hx)
        refine ⟨j1, (setRow_other _ _ _ _ (fun e => (p45 (by simp [hr]) (by simp [hr])) e.symm)).trans ?_⟩
        rw [j2]
        simp [upd]
      · intro hx hy
        exact p45 (by simpa [upd] using hx) (by simpa [upd] using hy)
      · simp [upd, hr]
      · simpa [upd] using hq5
      · simp [upd, Act.put, hr]
    | 7, ho =>
      injection ho with ho
      subst ho
      simp [Region.binds] at hr
      obtain ⟨k1, k2⟩ := h5 (by simp [hr])
      rw [hb] at k2
      simp only [Bool.false_eq_true, if_false] at k2
      simp only [hr, if_true]
      refine wp_store_row 31 (.tmp 6) (.tmp 11) rfl g5 (vs .i64 (frm l)) rfl rfl 31 _ k2 S31.out SZ.out (vs_all _ _) ?_
      refine ⟨g4, g5, hF.setRow _ (.inr k1), ?_, ?_, ?_, ?_, ?_, ?_⟩
      · intro hx
        obtain ⟨j1, j2⟩ := h4 (by simpa [upd] using hx)
        refine ⟨j1, (setRow_other _ _ _ _ (fun e => (p45 (by simp [hr]) (by simp [hr])) e)).trans ?_⟩
        rw [j2]
        simp [upd]
      · intro _
        refine ⟨k1, (setRow_heap _ _ _ _ _ _ k2).trans ?_⟩
        simp [upd]
      · intro hx hy
        exact p45 (by simpa [upd] using hx) (by simpa [upd] using hy)
      · simpa [upd] using hq4
      · simp [upd, hr]
      · simp [upd, Act.put, hr]
    | j + 8, ho => exact absurd ho (by simp)
  case done =>
    intro b a w1 hall hI
    obtain ⟨g4, g5, hF, h4, h5, p45, hq4, hq5, rfl⟩ := hI
    have t0 : b 0 = true := hall 0 (by simp)
    have t1 : b 1 = true := hall 1 (by simp)
    have t2 : b 2 = true := hall 2 (by simp)
    have t3 : b 3 = true := hall 3 (by simp)
    have t4 : b 4 = true := hall 4 (by simp)
    have t5 : b 5 = true := hall 5 (by simp)
    have t6 : b 6 = true := hall 6 (by simp)
    have t7 : b 7 = true := hall 7 (by simp)
    simp only [t0, t1, t2, t3, t4, t5, t6, t7, if_true, true_implies] at h4 h5 p45 hq4 hq5 ⊢
    have X5 := Lib.hid h4.2
    have X6 := Lib.hid h5.2
    have F1 : Hid (Fr (fun _ => False) w w1) := HW.out.2.trans hF
    clear h4 h5 p45 hq4 hq5 hall hF
    go_upto_region 2 with (fail)
    refine wp_region_head (C := Calm w1) 5 (Fr.refl _ _) ?_
    simp only [List.take_succ_cons, List.take_zero, List.drop_succ_cons, List.drop_zero]
    refine BigFrame.wpQuiet_want rfl fun K hK => quiet_load 31 (.tmp 6) rfl (g5) rfl 31 _ (0, 0) _ (fun _ h => Calm.at X6.out h) Try.underlying31 rfl S31.out (hK _ ?_)
    refine BigFrame.wpQuiet_want rfl fun K hK => ?_
    try simp only [Act.put, List.setIfInBounds_toArray, List.set_cons_succ, List.set_cons_zero]
    go_big_quiet_op
    refine ⟨_, Calm.calls c3, hK _ ?_⟩
    refine BigFrame.wpQuiet_want rfl fun K hK => ?_
    try simp only [Act.put, List.setIfInBounds_toArray, List.set_cons_succ, List.set_cons_zero]
    go_big_quiet_op
    refine ⟨_, fun _ _ => rfl, hK _ ?_⟩
    refine BigFrame.wpQuiet_want rfl fun K hK => ?_
    try simp only [Act.put, List.setIfInBounds_toArray, List.set_cons_succ, List.set_cons_zero]
    go_big_quiet_op
    refine ⟨_, fun _ _ => rfl, hK _ ?_⟩
    refine BigFrame.wpQuiet_want rfl fun K hK => ?_
    try simp only [Act.put, List.setIfInBounds_toArray, List.set_cons_succ, List.set_cons_zero]
    go_big_quiet_op
    refine hK _ ?_
    refine wpQuiet_nil ?_
    intro w2 hw2
    have F2 : Hid (Fr (fun _ => False) w w2) := F1.out.trans hw2
    have Y5 := Lib.hid (Calm.at X5.out hw2)
    have Y6 := Lib.hid (Calm.at X6.out hw2)
    clear hw2 F1 X5 X6
    try simp only [Act.put, List.setIfInBounds_toArray, List.set_cons_succ, List.set_cons_zero]
    go_upto_region 3 with (fail)
    refine wp_region_head (C := Calm w2) 25 (Fr.refl _ _) ?_
    simp only [List.take_succ_cons, List.take_zero, List.drop_succ_cons, List.drop_zero]
    refine BigFrame.wpQuiet_want rfl fun K hK => quiet_load 28 (.tmp 5) rfl (g4) rfl 28 _ (0, 0) _ (fun _ h => Calm.at Y5.out h) Try.underlying28 rfl size28 (hK _ ?_)
    refine BigFrame.wpQuiet_want rfl fun K hK => quiet_load 31 (.tmp 6) rfl (g5) rfl 31 _ (0, 0) _ (fun _ h => Calm.at Y6.out h) Try.underlying31 rfl S31.out (hK _ ?_)
    refine BigFrame.wpQuiet_want rfl fun K hK => ?_
    try simp only [Act.put, List.setIfInBounds_toArray, List.set_cons_succ, List.set_cons_zero]
    go_big_quiet_op
    refine ⟨_, Calm.calls c4, hK _ ?_⟩
    refine BigFrame.wpQuiet_want rfl fun K hK => ?_
    try simp only [Act.put, List.setIfInBounds_toArray, List.set_cons_succ, List.set_cons_zero]
    go_big_quiet_op
    refine hK _ ?_
    refine BigFrame.wpQuiet_want rfl fun K hK => quiet_load 28 (.tmp 5) rfl (g4) rfl 28 _ (0, 0) _ (fun _ h => Calm.at Y5.out h) Try.underlying28 rfl size28 (hK _ ?_)
    refine BigFrame.wpQuiet_want rfl fun K hK => ?_
    try simp only [Act.put, List.setIfInBounds_toArray, List.set_cons_succ, List.set_cons_zero]
    go_big_quiet_op
    refine ⟨_, Calm.calls c5, hK _ ?_⟩
    refine BigFrame.wpQuiet_want rfl fun K hK => ?_
    try simp only [Act.put, List.setIfInBounds_toArray, List.set_cons_succ, List.set_cons_zero]
    go_big_quiet_op
    refine hK _ ?_
    refine BigFrame.wpQuiet_want rfl fun K hK => ?_
    try simp only [Act.put, List.setIfInBounds_toArray, List.set_cons_succ, List.set_cons_zero]
    go_big_quiet_op
    refine ⟨_, fun _ _ => rfl, hK _ ?_⟩
    refine BigFrame.wpQuiet_want rfl fun K hK => ?_
    try simp only [Act.put, List.setIfInBounds_toArray, List.set_cons_succ, List.set_cons_zero]
    go_big_quiet_op
    refine ⟨_, fun _ _ => rfl, hK _ ?_⟩
    refine BigFrame.wpQuiet_want rfl fun K hK => ?_
    try simp only [Act.put, List.setIfInBounds_toArray, List.set_cons_succ, List.set_cons_zero]
    go_big_quiet_op
    refine hK _ ?_
    refine BigFrame.wpQuiet_want rfl fun K hK => ?_
    try simp only [Act.put, List.setIfInBounds_toArray, List.set_cons_succ, List.set_cons_zero]
    go_big_quiet_op
    refine hK _ ?_
    refine BigFrame.wpQuiet_want rfl fun K hK => ?_
    try simp only [Act.put, List.setIfInBounds_toArray, List.set_cons_succ, List.set_cons_zero]
    go_big_quiet_op
    refine ⟨_, Calm.calls c6, hK _ ?_⟩
    refine BigFrame.wpQuiet_want rfl fun K hK => ?_
    try simp only [Act.put, List.setIfInBounds_toArray, List.set_cons_succ, List.set_cons_zero]
    go_big_quiet_op
    refine hK _ ?_
    refine BigFrame.wpQuiet_want rfl fun K hK => ?_
    try simp only [Act.put, List.setIfInBounds_toArray, List.set_cons_succ, List.set_cons_zero]
    go_big_quiet_op
    refine ⟨_, Calm.calls c7, hK _ ?_⟩
    refine BigFrame.wpQuiet_want rfl fun K hK => ?_
    try simp only [Act.put, List.setIfInBounds_toArray, List.set_cons_succ, List.set_cons_zero]
    go_big_quiet_op
    refine ⟨_, Calm.calls c8, hK _ ?_⟩
    refine BigFrame.wpQuiet_want rfl fun K hK => ?_
    try simp only [Act.put, List.setIfInBounds_toArray, List.set_cons_succ, List.set_cons_zero]
    go_big_quiet_op
    refine ⟨_, fun _ _ => rfl, hK _ ?_⟩
    refine BigFrame.wpQuiet_want rfl fun K hK => ?_
    try simp only [Act.put, List.setIfInBounds_toArray, List.set_cons_succ, List.set_cons_zero]
    go_big_quiet_op
    refine hK _ ?_
    refine BigFrame.wpQuiet_want rfl fun K hK => ?_
    try simp only [Act.put, List.setIfInBounds_toArray, List.set_cons_succ, List.set_cons_zero]
    go_big_quiet_op
    refine hK _ ?_
    refine BigFrame.wpQuiet_want rfl fun K hK => ?_
    try simp only [Act.put, List.setIfInBounds_toArray, List.set_cons_succ, List.set_cons_zero]
    go_big_quiet_op
    refine ⟨_, Calm.calls c6, hK _ ?_⟩
    refine BigFrame.wpQuiet_want rfl fun K hK => ?_
    try simp only [Act.put, List.setIfInBounds_toArray, List.set_cons_succ, List.set_cons_zero]
    go_big_quiet_op
    refine ⟨_, Calm.calls c9, hK _ ?_⟩
    refine BigFrame.wpQuiet_want rfl fun K hK => ?_
    try simp only [Act.put, List.setIfInBounds_toArray, List.set_cons_succ, List.set_cons_zero]
    go_big_quiet_op
    refine hK _ ?_
    refine BigFrame.wpQuiet_want rfl fun K hK => ?_
    try simp only [Act.put, List.setIfInBounds_toArray, List.set_cons_succ, List.set_cons_zero]
    go_big_quiet_op
    refine ⟨_, fun _ _ => rfl, hK _ ?_⟩
    refine BigFrame.wpQuiet_want rfl fun K hK => ?_
    try simp only [Act.put, List.setIfInBounds_toArray, List.set_cons_succ, List.set_cons_zero]
    go_big_quiet_op
    refine ⟨_, fun _ _ => rfl, hK _ ?_⟩
    refine BigFrame.wpQuiet_want rfl fun K hK => ?_
    try simp only [Act.put, List.setIfInBounds_toArray, List.set_cons_succ, List.set_cons_zero]
    go_big_quiet_op
    refine ⟨_, fun _ _ => rfl, hK _ ?_⟩
    refine BigFrame.wpQuiet_want rfl fun K hK => ?_
    try simp only [Act.put, List.setIfInBounds_toArray, List.set_cons_succ, List.set_cons_zero]
    go_big_quiet_op
    refine hK _ ?_
    refine wpQuiet_nil ?_
    intro w3 hw3
    have F3 : Hid (Fr (fun _ => False) w w3) := F2.out.trans hw3
    clear hw3
    try simp only [Act.put, List.setIfInBounds_toArray, List.set_cons_succ, List.set_cons_zero]
    go_wp2
    go_ret
    exact ⟨rfl, F3.out⟩

theorem law_from_any (l : List Int) (a1 : Int) (w : World) (hl : l.length = 32) (bl : Bys l) (h1 : 0 ≤ a1 ∧ a1 ≤ 4294967295) :
    Calls Try.prog 3 #[.agg (vs .u8 l), .int .u32 a1] w fun e w' => e = .returned (.bool true) ∧ Fr (fun _ => False) w w' := law_from_walk l a1 w hl bl h1.1 h1.2

set_option maxRecDepth 100000 in
theorem law_from_lifted (os : Os) (started : os.Started) (H : Type) (enc : TypeId × Value → H) :
    ReturnsInHanded {} Try.checked os 3 .any (Rows.fieldFromSpec.pre6 enc Try.prog Try.f3 Rows.fieldFromRow.domain false) (Rows.fieldFromSpec.post enc Try.prog Try.f3 false true false false) := by
  refine returnsInHanded_of_change (C := Try.checked) own started (by kernel_rfl) Try.func3
    (ChangeSpec.witness6 (enc := enc) (C := Try.checked) false ⟨#[], #[.agg (vs .u8 (List.replicate 32 0)), .int .u32 0], []⟩ 8 (by kernel_rfl) (by kernel_rfl) (by kernel_rfl) (by kernel_rfl)) ?_
  intro W base args ds gs before hval0 hW hcnd _
  have hval : ∀ (j : Nat) t v, Try.f3.params[j]? = some t → args[j]? = some v → Value.okWide Try.prog W .any base t v := hval0
  have hW' := hW
  obtain ⟨p, q, hA0, hV, rfl, hfz, hnd⟩ := hW
  have hA : DataW.TrodAll enc Try.prog W 0 (fun _ => true) true Try.f3.params.toList args.toList ds p := hA0
  rw [Try.params3] at hA hval
  obtain ⟨v0, vs0, d0, ds0, p0, q0, hargs, rfl, rfl, h0, r0⟩ := trodAll_cons hA
  obtain ⟨v1, vs1, d1, ds1, p1, q1, rfl, rfl, rfl, h1, r1⟩ := trodAll_cons r0
  obtain ⟨rfl, rfl, rfl⟩ := trodAll_nil r1
  obtain rfl : args = #[v0, v1] := by cases args; simp_all
  obtain ⟨rfl, rfl⟩ := trodVars_none hV
  obtain ⟨l0, rfl, e0, b0⟩ := open_bytes (hval 0 22 v0 rfl rfl) h0
  obtain ⟨a1, rfl, rfl, rfl, w1⟩ := open_int Try.underlying23 (hval 1 23 v1 rfl rfl) h1
  clear hA0 hval0
  refine (law_from_any l0 a1 W e0 b0 (bounds_u32 w1)).mono fun e W' ⟨he, hg⟩ => ?_
  subst he
  exact ⟨_, rfl, post_true rfl hW' (by kernel_rfl) rfl rfl hg⟩

theorem fieldFrom_holds : Rows.FieldFromSaid :=
  OpenClaim.holds_of_wide 3 Try.f3 rfl rfl rfl rfl rfl rfl rfl ⟨rfl, rfl, rfl, rfl, rfl⟩ rfl rfl rfl rfl rfl (by kernel_rfl) Try.func3 (by kernel_rfl)
    (of_decide_eq_true (by kernel_rfl)) (by unfold Func.isWrapper; first | (rw [if_pos (by decide +kernel)]; kernel_rfl) | (rw [if_neg (by decide +kernel)]; exact ⟨rfl, rfl⟩))
    (fun os started H enc _ => law_from_lifted os started H enc)
#print axioms fieldFrom_holds
end Go.Proofs.Ytmhoblefpkjdlaa
