/- CurveBoth answers true for all two keys, and its arguments read behind the call as they did: the given statement CurveBothSaid. No condition. -/
import Derived.Test.YtbkbodcncjhcmaaKLift
import Derived.Test.YtbkbodcncjhcmaaOrd
import Derived.Test.YtbkbodcncjhcmaaAwake
namespace Go.Proofs.Ytbkbodcncjhcmaa
set_option linter.unusedSimpArgs false
set_option linter.unusedVariables false
open Go.ChangeShapes Go.WideShapes Go.ChangeAt Go.RowKit

set_option maxRecDepth 100000 in
set_option maxHeartbeats 8000000 in
theorem law_both_any (va vb : List Int) (w : World) (hva : va.length = 32) (bva : Bys va) (hvb : vb.length = 32) (bvb : Bys vb) :
    Calls Try.prog 7 #[.agg (vs .u8 va), .agg (vs .u8 vb)] w fun e w' => e = .returned (.bool true) ∧ Fr (fun _ => False) w w' := by
  obtain ⟨A, hA⟩ : ∃ A, A = pub va := ⟨_, rfl⟩
  obtain ⟨B, hB⟩ : ∃ B, B = pub vb := ⟨_, rfl⟩
  obtain ⟨S, hS⟩ : ∃ S, S = xv va B := ⟨_, rfl⟩
  have hS2 : S = xv vb A := by rw [hS, hA, hB]; exact both_same hva hvb
  have n1 : xv va B ≠ List.replicate 32 0 := by rw [hB]; exact both_ne hva hvb
  have n2 : xv vb A ≠ List.replicate 32 0 := by rw [hA]; exact both_ne hvb hva
  have lA : A.length = 32 := by rw [hA]; exact pub_length va
  have lB : B.length = 32 := by rw [hB]; exact pub_length vb
  have yA : Bys A := by rw [hA]; exact pub_bys va
  have yB : Bys B := by rw [hB]; exact pub_bys vb
  have CP : ∀ W, Calls Try.prog 17 #[.agg (vs .u8 va)] W fun e w' => e = .returned (.agg (vs .u8 A)) ∧ Fr (fun _ => False) W w' := fun W => by rw [hA]; exact public_is va W hva bva
  have CQ : ∀ W, Calls Try.prog 17 #[.agg (vs .u8 vb)] W fun e w' => e = .returned (.agg (vs .u8 B)) ∧ Fr (fun _ => False) W w' := fun W => by rw [hB]; exact public_is vb W hvb bvb
  have C0 : ∀ W, Calls Try.prog 19 #[.agg (vs .u8 va), .agg (vs .u8 B)] W fun e w' => e = .returned (.tuple #[.agg (vs .u8 S), .int .i64 0]) ∧ Fr (fun _ => False) W w' := fun W => by rw [hS]; exact share_yes va B W hva bva lB yB n1
  have C1 : ∀ W, Calls Try.prog 19 #[.agg (vs .u8 vb), .agg (vs .u8 A)] W fun e w' => e = .returned (.tuple #[.agg (vs .u8 S), .int .i64 0]) ∧ Fr (fun _ => False) W w' := fun W => by rw [hS2]; exact share_yes vb A W hvb bvb lA yA n2
  have C2 : ∀ W, Calls Try.prog 15 #[.agg (vs .u8 va), .agg (vs .u8 B)] W fun e w' => e = .returned (.agg (vs .u8 S)) ∧ Fr (fun _ => False) W w' := fun W => by rw [hS]; exact x_is va B W hva bva lB yB
  have k_S : Hid (S.length = 32) := by show _ = _; rw [hS]; exact xv_length _ _
  have CA := awake_is
  have k_va : Hid (va.length = 32) := hva
  have k_vb : Hid (vb.length = 32) := hvb
  have hq0 : ∀ W, (Op.equalIn 10000 23 (.agg (vs .u8 S)) (.agg (vs .u8 S))).run Try.prog W = .ok true W := fun W => by rw [eq23 _ _ k_S.out k_S.out W, decide_eq_true rfl]
  obtain ⟨ZK, hZK⟩ : ∃ Z, Z = List.replicate 32 (0 : Int) := ⟨_, rfl⟩
  have zkk : ∀ W : World, (zeroValue 23).run Try.prog W = .ok (.agg (vs .u8 ZK)) W := fun W => by rw [hZK]; exact key_zero W
  have k_ZK : Hid (ZK.length = 32) := by show _ = _; rw [hZK]; rfl
  clear hZK
  clear hva bva hvb bvb hA hB hS hS2 n1 n2 lA lB yA yB
  go_enter Try.func7, Try.ntmps7
  go_upto_region 1 with (fail)
  generalize hW : ((w.alloc (.cells (vs .u8 va) 23)).alloc (.cells (vs .u8 vb) 23)) = W0
  have HW := Lib.hid (calm2 hW)
  have X0 := Lib.hid HW.out.1
  have X1 := Lib.hid HW.out.2.1
  have F0 : Hid (Fr (fun _ => False) w W0) := HW.out.2.2
  clear hW HW
  refine wp_region_inv2 (fun b a w' => ∃ g5 : Nat, Fr (fun _ => False) W0 w' ∧ (b 7 = true → W0.heap.size ≤ g5 ∧ w'.heap[g5]? = some (.cells (if b 8 = true then vs .u8 S else vs .u8 ZK) 23 (0, 0))) ∧ (b 8 = true → b 7 = true) ∧ a = ⟨#[.agg (vs .u8 va), .agg (vs .u8 vb), .pointer (some ⟨w.heap.size, 0, none⟩), .pointer (some ⟨w.heap.size + 1, 0, none⟩), .bool false, if b 7 = true then .pointer (some ⟨g5, 0, none⟩) else undef, if b 9 = true then .int .i64 0 else undef, undef, undef, if b 4 = true then .tuple #[.agg (vs .u8 S), .int .i64 0] else undef, if b 0 = true then .agg (vs .u8 va) else undef, if b 1 = true then .agg (vs .u8 vb) else undef, if b 2 = true then .agg (vs .u8 B) else undef, if b 3 = true then .tuple #[.agg (vs .u8 S), .int .i64 0] else undef, if b 5 = true then .agg (vs .u8 S) else undef, if b 6 = true then .int .i64 0 else undef, undef, undef, undef, undef, undef, undef, undef, undef, undef, undef, undef, undef, undef, undef, undef, undef, undef, undef, undef, undef, undef, undef, undef, undef, undef, undef, undef, undef, undef], []⟩) (by kernel_rfl) (by kernel_rfl) ?start1 ?step1 ?done1
  case start1 => exact ⟨0, ⟨rfl, rfl, rfl, Nat.le_refl _, fun _ _ _ => rfl⟩, by simp, by simp, by simp⟩
  case step1 =>
    intro i o b a w1 ho hI hb hr hc
    obtain ⟨g5, hF, h7, hq7, rfl⟩ := hI
    match i, ho with
    | 0, ho =>
      injection ho with ho
      subst ho
      refine wp_quiet_here _ (quiet_load 23 (.tmp 2) rfl (w.heap.size) rfl 23 _ (0, 0) _ (fun _ h => (Fr.block h _ (Nat.lt_of_lt_of_le (heap_lt X0.out) hF.size) (fun x => x)).trans ((hF.block _ (heap_lt X0.out) (fun x => x)).trans X0.out)) Try.underlying23 rfl (key_info k_va.out) rfl) (fun w2 hw2 => ?_)
      refine ⟨g5, hF.trans hw2, ?_, ?_, ?_⟩
      · intro hx
        replace hx : b 7 = true := by simpa [upd] using hx
        obtain ⟨k1', k2⟩ := h7 hx
        refine ⟨k1', (hw2.block _ (heap_lt k2) (fun x => x)).trans ?_⟩
        rw [k2]
        simp [upd]
      · simpa [upd] using hq7
      · simp [upd, Act.put]
    | 1, ho =>
      injection ho with ho
      subst ho
      refine wp_quiet_here _ (quiet_load 23 (.tmp 3) rfl (w.heap.size + 1) rfl 23 _ (0, 0) _ (fun _ h => (Fr.block h _ (Nat.lt_of_lt_of_le (heap_lt X1.out) hF.size) (fun x => x)).trans ((hF.block _ (heap_lt X1.out) (fun x => x)).trans X1.out)) Try.underlying23 rfl (key_info k_vb.out) rfl) (fun w2 hw2 => ?_)
      refine ⟨g5, hF.trans hw2, ?_, ?_, ?_⟩
      · intro hx
        replace hx : b 7 = true := by simpa [upd] using hx
        obtain ⟨k1', k2⟩ := h7 hx
        refine ⟨k1', (hw2.block _ (heap_lt k2) (fun x => x)).trans ?_⟩
        rw [k2]
        simp [upd]
      · simpa [upd] using hq7
      · simp [upd, Act.put]
    | 2, ho =>
      injection ho with ho
      subst ho
      simp [Region.binds] at hr
      have d1 : b 1 = true := by simp only [hr]
      simp only [hr, if_true]
      refine wp_quiet_here (.agg (vs .u8 B)) ?_ (fun w2 hw2 => ?_)
      · go_big_quiet_op
        exact ⟨_, Calm.calls CQ, by simp [Act.put]⟩
      refine ⟨g5, hF.trans hw2, ?_, ?_, ?_⟩
      · intro hx
        replace hx : b 7 = true := by simpa [upd] using hx
        obtain ⟨k1', k2⟩ := h7 hx
        refine ⟨k1', (hw2.block _ (heap_lt k2) (fun x => x)).trans ?_⟩
        rw [k2]
        simp [upd]
      · simpa [upd] using hq7
      · simp [upd, Act.put, hr]
    | 3, ho =>
      injection ho with ho
      subst ho
      simp [Region.binds] at hr
      have d0 : b 0 = true := by simp only [hr]
      have d2 : b 2 = true := by simp only [hr]
      simp only [hr, if_true]
      refine wp_quiet_here (.tuple #[.agg (vs .u8 S), .int .i64 0]) ?_ (fun w2 hw2 => ?_)
      · go_big_quiet_op
        exact ⟨_, Calm.calls C0, by simp [Act.put]⟩
      refine ⟨g5, hF.trans hw2, ?_, ?_, ?_⟩
      · intro hx
        replace hx : b 7 = true := by simpa [upd] using hx
        obtain ⟨k1', k2⟩ := h7 hx
        refine ⟨k1', (hw2.block _ (heap_lt k2) (fun x => x)).trans ?_⟩
        rw [k2]
        simp [upd]
      · simpa [upd] using hq7
      · simp [upd, Act.put, hr]
    | 4, ho =>
      injection ho with ho
      subst ho
      simp [Region.binds] at hr
      have d3 : b 3 = true := by simp only [hr]
      simp only [hr, if_true]
      refine wp_quiet_here (.tuple #[.agg (vs .u8 S), .int .i64 0]) ?_ (fun w2 hw2 => ?_)
      · go_big_quiet_op
        first
          | (simp [Act.put]; done)
          | exact ⟨_, fun _ _ => rfl, by simp [Act.put]⟩
      refine ⟨g5, hF.trans hw2, ?_, ?_, ?_⟩
      · intro hx
        replace hx : b 7 = true := by simpa [upd] using hx
        obtain ⟨k1', k2⟩ := h7 hx
        refine ⟨k1', (hw2.block _ (heap_lt k2) (fun x => x)).trans ?_⟩
        rw [k2]
        simp [upd]
      · simpa [upd] using hq7
      · simp [upd, Act.put, hr]
    | 5, ho =>
      injection ho with ho
      subst ho
      simp [Region.binds] at hr
      have d4 : b 4 = true := by simp only [hr]
      simp only [hr, if_true]
      refine wp_quiet_here (.agg (vs .u8 S)) ?_ (fun w2 hw2 => ?_)
      · go_big_quiet_op
        first
          | (simp [Act.put]; done)
          | exact ⟨_, fun _ _ => rfl, by simp [Act.put]⟩
      refine ⟨g5, hF.trans hw2, ?_, ?_, ?_⟩
      · intro hx
        replace hx : b 7 = true := by simpa [upd] using hx
        obtain ⟨k1', k2⟩ := h7 hx
        refine ⟨k1', (hw2.block _ (heap_lt k2) (fun x => x)).trans ?_⟩
        rw [k2]
        simp [upd]
      · simpa [upd] using hq7
      · simp [upd, Act.put, hr]
    | 6, ho =>
      injection ho with ho
      subst ho
      simp [Region.binds] at hr
      have d4 : b 4 = true := by simp only [hr]
      simp only [hr, if_true]
      refine wp_quiet_here (.int .i64 0) ?_ (fun w2 hw2 => ?_)
      · go_big_quiet_op
        first
          | (simp [Act.put]; done)
          | exact ⟨_, fun _ _ => rfl, by simp [Act.put]⟩
      refine ⟨g5, hF.trans hw2, ?_, ?_, ?_⟩
      · intro hx
        replace hx : b 7 = true := by simpa [upd] using hx
        obtain ⟨k1', k2⟩ := h7 hx
        refine ⟨k1', (hw2.block _ (heap_lt k2) (fun x => x)).trans ?_⟩
        rw [k2]
        simp [upd]
      · simpa [upd] using hq7
      · simp [upd, Act.put, hr]
    | 7, ho =>
      injection ho with ho
      subst ho
      refine wp_alloc_any 23 rfl (vs .u8 ZK) zkk ?_
      refine ⟨w1.heap.size, hF.alloc _, ?_, ?_, ?_⟩
      · intro _
        refine ⟨hF.size, (heap_alloc_new w1 _).trans ?_⟩
        have hs : b 8 = false := by
          rcases hbs : b 8 with _ | _
          · rfl
          · rw [hq7 hbs] at hb
            cases hb
        simp [upd, hs]
      · simp [upd]
      · simp [upd, Act.put]
    | 8, ho =>
      injection ho with ho
      subst ho
      simp [Region.binds] at hr
      have d5 : b 5 = true := by simp only [hr]
      have d7 : b 7 = true := by simp only [hr]
      simp only [hr, if_true]
      obtain ⟨k1, k2⟩ := h7 d7
      rw [hb] at k2
      simp only [Bool.false_eq_true, if_false] at k2
      refine wp_store_row 23 (.tmp 5) (.tmp 14) rfl g5 (vs .u8 S) rfl rfl 23 _ k2 (key_info k_S.out) (by rw [vs_size, vs_size, k_ZK.out, k_S.out]) (vs_all _ _) ?_
      refine ⟨g5, hF.setRow _ (.inr k1), ?_, ?_, ?_⟩
      · intro _
        refine ⟨k1, (setRow_heap _ _ _ _ _ _ k2).trans ?_⟩
        simp [upd]
      · simp [upd, d7]
      · simp [upd, Act.put, hr]
    | 9, ho =>
      injection ho with ho
      subst ho
      simp [Region.binds] at hr
      have d6 : b 6 = true := by simp only [hr]
      simp only [hr, if_true]
      refine wp_quiet_here (.int .i64 0) ?_ (fun w2 hw2 => ?_)
      · go_big_quiet_op
        first
          | (simp [Act.put]; done)
          | exact ⟨_, fun _ _ => rfl, by simp [Act.put]⟩
      refine ⟨g5, hF.trans hw2, ?_, ?_, ?_⟩
      · intro hx
        replace hx : b 7 = true := by simpa [upd] using hx
        obtain ⟨k1', k2⟩ := h7 hx
        refine ⟨k1', (hw2.block _ (heap_lt k2) (fun x => x)).trans ?_⟩
        rw [k2]
        simp [upd]
      · simpa [upd] using hq7
      · simp [upd, Act.put, hr]
    | j + 10, ho => exact absurd ho (by simp)
  intro b a W2 hall hI
  obtain ⟨g5, hF, h7, hq7, rfl⟩ := hI
  have t0 : b 0 = true := hall 0 (by simp)
  have t1 : b 1 = true := hall 1 (by simp)
  have t2 : b 2 = true := hall 2 (by simp)
  have t3 : b 3 = true := hall 3 (by simp)
  have t4 : b 4 = true := hall 4 (by simp)
  have t5 : b 5 = true := hall 5 (by simp)
  have t6 : b 6 = true := hall 6 (by simp)
  have t7 : b 7 = true := hall 7 (by simp)
  have t8 : b 8 = true := hall 8 (by simp)
  have t9 : b 9 = true := hall 9 (by simp)
  simp only [t0, t1, t2, t3, t4, t5, t6, t7, t8, t9, if_true, true_implies] at h7 hq7 ⊢
  have F2 : Hid (Fr (fun _ => False) w W2) := F0.out.trans hF
  have X2_0 := Lib.hid ((hF.block _ (heap_lt X0.out) (fun x => x)).trans X0.out)
  have X2_1 := Lib.hid ((hF.block _ (heap_lt X1.out) (fun x => x)).trans X1.out)
  have X2_2 := Lib.hid h7.2
  have Yg5 : w.heap.size ≤ g5 := Nat.le_trans F0.out.size h7.1
  clear hall hF h7 hq7 t0 t1 t2 t3 t4 t5 t6 t7 t8 t9 F0
  go_upto_region 2 with (fail)
  refine wp_region_inv2 (fun b a w' => ∃ g7 : Nat, Fr (fun _ => False) W2 w' ∧ (b 7 = true → W2.heap.size ≤ g7 ∧ w'.heap[g7]? = some (.cells (if b 8 = true then vs .u8 S else vs .u8 ZK) 23 (0, 0))) ∧ (b 8 = true → b 7 = true) ∧ a = ⟨#[.agg (vs .u8 va), .agg (vs .u8 vb), .pointer (some ⟨w.heap.size, 0, none⟩), .pointer (some ⟨w.heap.size + 1, 0, none⟩), .bool false, .pointer (some ⟨g5, 0, none⟩), .int .i64 0, if b 7 = true then .pointer (some ⟨g7, 0, none⟩) else undef, if b 9 = true then .int .i64 0 else undef, .tuple #[.agg (vs .u8 S), .int .i64 0], .agg (vs .u8 va), .agg (vs .u8 vb), .agg (vs .u8 B), .tuple #[.agg (vs .u8 S), .int .i64 0], .agg (vs .u8 S), .int .i64 0, if b 4 = true then .tuple #[.agg (vs .u8 S), .int .i64 0] else undef, if b 0 = true then .agg (vs .u8 vb) else undef, if b 1 = true then .agg (vs .u8 va) else undef, if b 2 = true then .agg (vs .u8 A) else undef, if b 3 = true then .tuple #[.agg (vs .u8 S), .int .i64 0] else undef, if b 5 = true then .agg (vs .u8 S) else undef, if b 6 = true then .int .i64 0 else undef, undef, undef, undef, undef, undef, undef, undef, undef, undef, undef, undef, undef, undef, undef, undef, undef, undef, undef, undef, undef, undef, undef], []⟩) (by kernel_rfl) (by kernel_rfl) ?start2 ?step2 ?done2
  case start2 => exact ⟨0, ⟨rfl, rfl, rfl, Nat.le_refl _, fun _ _ _ => rfl⟩, by simp, by simp, by simp⟩
  case step2 =>
    intro i o b a w1 ho hI hb hr hc
    obtain ⟨g7, hF, h7, hq7, rfl⟩ := hI
    match i, ho with
    | 0, ho =>
      injection ho with ho
      subst ho
      refine wp_quiet_here _ (quiet_load 23 (.tmp 3) rfl (w.heap.size + 1) rfl 23 _ (0, 0) _ (fun _ h => (Fr.block h _ (Nat.lt_of_lt_of_le (heap_lt X2_1.out) hF.size) (fun x => x)).trans ((hF.block _ (heap_lt X2_1.out) (fun x => x)).trans X2_1.out)) Try.underlying23 rfl (key_info k_vb.out) rfl) (fun w2 hw2 => ?_)
      refine ⟨g7, hF.trans hw2, ?_, ?_, ?_⟩
      · intro hx
        replace hx : b 7 = true := by simpa [upd] using hx
        obtain ⟨k1', k2⟩ := h7 hx
        refine ⟨k1', (hw2.block _ (heap_lt k2) (fun x => x)).trans ?_⟩
        rw [k2]
        simp [upd]
      · simpa [upd] using hq7
      · simp [upd, Act.put]
    | 1, ho =>
      injection ho with ho
      subst ho
      refine wp_quiet_here _ (quiet_load 23 (.tmp 2) rfl (w.heap.size) rfl 23 _ (0, 0) _ (fun _ h => (Fr.block h _ (Nat.lt_of_lt_of_le (heap_lt X2_0.out) hF.size) (fun x => x)).trans ((hF.block _ (heap_lt X2_0.out) (fun x => x)).trans X2_0.out)) Try.underlying23 rfl (key_info k_va.out) rfl) (fun w2 hw2 => ?_)
      refine ⟨g7, hF.trans hw2, ?_, ?_, ?_⟩
      · intro hx
        replace hx : b 7 = true := by simpa [upd] using hx
        obtain ⟨k1', k2⟩ := h7 hx
        refine ⟨k1', (hw2.block _ (heap_lt k2) (fun x => x)).trans ?_⟩
        rw [k2]
        simp [upd]
      · simpa [upd] using hq7
      · simp [upd, Act.put]
    | 2, ho =>
      injection ho with ho
      subst ho
      simp [Region.binds] at hr
      have d1 : b 1 = true := by simp only [hr]
      simp only [hr, if_true]
      refine wp_quiet_here (.agg (vs .u8 A)) ?_ (fun w2 hw2 => ?_)
      · go_big_quiet_op
        exact ⟨_, Calm.calls CP, by simp [Act.put]⟩
      refine ⟨g7, hF.trans hw2, ?_, ?_, ?_⟩
      · intro hx
        replace hx : b 7 = true := by simpa [upd] using hx
        obtain ⟨k1', k2⟩ := h7 hx
        refine ⟨k1', (hw2.block _ (heap_lt k2) (fun x => x)).trans ?_⟩
        rw [k2]
        simp [upd]
      · simpa [upd] using hq7
      · simp [upd, Act.put, hr]
    | 3, ho =>
      injection ho with ho
      subst ho
      simp [Region.binds] at hr
      have d0 : b 0 = true := by simp only [hr]
      have d2 : b 2 = true := by simp only [hr]
      simp only [hr, if_true]
      refine wp_quiet_here (.tuple #[.agg (vs .u8 S), .int .i64 0]) ?_ (fun w2 hw2 => ?_)
      · go_big_quiet_op
        exact ⟨_, Calm.calls C1, by simp [Act.put]⟩
      refine ⟨g7, hF.trans hw2, ?_, ?_, ?_⟩
      · intro hx
        replace hx : b 7 = true := by simpa [upd] using hx
        obtain ⟨k1', k2⟩ := h7 hx
        refine ⟨k1', (hw2.block _ (heap_lt k2) (fun x => x)).trans ?_⟩
        rw [k2]
        simp [upd]
      · simpa [upd] using hq7
      · simp [upd, Act.put, hr]
    | 4, ho =>
      injection ho with ho
      subst ho
      simp [Region.binds] at hr
      have d3 : b 3 = true := by simp only [hr]
      simp only [hr, if_true]
      refine wp_quiet_here (.tuple #[.agg (vs .u8 S), .int .i64 0]) ?_ (fun w2 hw2 => ?_)
      · go_big_quiet_op
        first
          | (simp [Act.put]; done)
          | exact ⟨_, fun _ _ => rfl, by simp [Act.put]⟩
      refine ⟨g7, hF.trans hw2, ?_, ?_, ?_⟩
      · intro hx
        replace hx : b 7 = true := by simpa [upd] using hx
        obtain ⟨k1', k2⟩ := h7 hx
        refine ⟨k1', (hw2.block _ (heap_lt k2) (fun x => x)).trans ?_⟩
        rw [k2]
        simp [upd]
      · simpa [upd] using hq7
      · simp [upd, Act.put, hr]
    | 5, ho =>
      injection ho with ho
      subst ho
      simp [Region.binds] at hr
      have d4 : b 4 = true := by simp only [hr]
      simp only [hr, if_true]
      refine wp_quiet_here (.agg (vs .u8 S)) ?_ (fun w2 hw2 => ?_)
      · go_big_quiet_op
        first
          | (simp [Act.put]; done)
          | exact ⟨_, fun _ _ => rfl, by simp [Act.put]⟩
      refine ⟨g7, hF.trans hw2, ?_, ?_, ?_⟩
      · intro hx
        replace hx : b 7 = true := by simpa [upd] using hx
        obtain ⟨k1', k2⟩ := h7 hx
        refine ⟨k1', (hw2.block _ (heap_lt k2) (fun x => x)).trans ?_⟩
        rw [k2]
        simp [upd]
      · simpa [upd] using hq7
      · simp [upd, Act.put, hr]
    | 6, ho =>
      injection ho with ho
      subst ho
      simp [Region.binds] at hr
      have d4 : b 4 = true := by simp only [hr]
      simp only [hr, if_true]
      refine wp_quiet_here (.int .i64 0) ?_ (fun w2 hw2 => ?_)
      · go_big_quiet_op
        first
          | (simp [Act.put]; done)
          | exact ⟨_, fun _ _ => rfl, by simp [Act.put]⟩
      refine ⟨g7, hF.trans hw2, ?_, ?_, ?_⟩
      · intro hx
        replace hx : b 7 = true := by simpa [upd] using hx
        obtain ⟨k1', k2⟩ := h7 hx
        refine ⟨k1', (hw2.block _ (heap_lt k2) (fun x => x)).trans ?_⟩
        rw [k2]
        simp [upd]
      · simpa [upd] using hq7
      · simp [upd, Act.put, hr]
    | 7, ho =>
      injection ho with ho
      subst ho
      refine wp_alloc_any 23 rfl (vs .u8 ZK) zkk ?_
      refine ⟨w1.heap.size, hF.alloc _, ?_, ?_, ?_⟩
      · intro _
        refine ⟨hF.size, (heap_alloc_new w1 _).trans ?_⟩
        have hs : b 8 = false := by
          rcases hbs : b 8 with _ | _
          · rfl
          · rw [hq7 hbs] at hb
            cases hb
        simp [upd, hs]
      · simp [upd]
      · simp [upd, Act.put]
    | 8, ho =>
      injection ho with ho
      subst ho
      simp [Region.binds] at hr
      have d5 : b 5 = true := by simp only [hr]
      have d7 : b 7 = true := by simp only [hr]
      simp only [hr, if_true]
      obtain ⟨k1, k2⟩ := h7 d7
      rw [hb] at k2
      simp only [Bool.false_eq_true, if_false] at k2
      refine wp_store_row 23 (.tmp 7) (.tmp 21) rfl g7 (vs .u8 S) rfl rfl 23 _ k2 (key_info k_S.out) (by rw [vs_size, vs_size, k_ZK.out, k_S.out]) (vs_all _ _) ?_
      refine ⟨g7, hF.setRow _ (.inr k1), ?_, ?_, ?_⟩
      · intro _
        refine ⟨k1, (setRow_heap _ _ _ _ _ _ k2).trans ?_⟩
        simp [upd]
      · simp [upd, d7]
      · simp [upd, Act.put, hr]
    | 9, ho =>
      injection ho with ho
      subst ho
      simp [Region.binds] at hr
      have d6 : b 6 = true := by simp only [hr]
      simp only [hr, if_true]
      refine wp_quiet_here (.int .i64 0) ?_ (fun w2 hw2 => ?_)
      · go_big_quiet_op
        first
          | (simp [Act.put]; done)
          | exact ⟨_, fun _ _ => rfl, by simp [Act.put]⟩
      refine ⟨g7, hF.trans hw2, ?_, ?_, ?_⟩
      · intro hx
        replace hx : b 7 = true := by simpa [upd] using hx
        obtain ⟨k1', k2⟩ := h7 hx
        refine ⟨k1', (hw2.block _ (heap_lt k2) (fun x => x)).trans ?_⟩
        rw [k2]
        simp [upd]
      · simpa [upd] using hq7
      · simp [upd, Act.put, hr]
    | j + 10, ho => exact absurd ho (by simp)
  intro b a W3 hall hI
  obtain ⟨g7, hF, h7, hq7, rfl⟩ := hI
  have t0 : b 0 = true := hall 0 (by simp)
  have t1 : b 1 = true := hall 1 (by simp)
  have t2 : b 2 = true := hall 2 (by simp)
  have t3 : b 3 = true := hall 3 (by simp)
  have t4 : b 4 = true := hall 4 (by simp)
  have t5 : b 5 = true := hall 5 (by simp)
  have t6 : b 6 = true := hall 6 (by simp)
  have t7 : b 7 = true := hall 7 (by simp)
  have t8 : b 8 = true := hall 8 (by simp)
  have t9 : b 9 = true := hall 9 (by simp)
  simp only [t0, t1, t2, t3, t4, t5, t6, t7, t8, t9, if_true, true_implies] at h7 hq7 ⊢
  have F3 : Hid (Fr (fun _ => False) w W3) := F2.out.trans hF
  have X3_0 := Lib.hid ((hF.block _ (heap_lt X2_0.out) (fun x => x)).trans X2_0.out)
  have X3_1 := Lib.hid ((hF.block _ (heap_lt X2_1.out) (fun x => x)).trans X2_1.out)
  have X3_2 := Lib.hid ((hF.block _ (heap_lt X2_2.out) (fun x => x)).trans X2_2.out)
  have X3_3 := Lib.hid h7.2
  have Yg7 : w.heap.size ≤ g7 := Nat.le_trans F2.out.size h7.1
  clear hall hF h7 hq7 t0 t1 t2 t3 t4 t5 t6 t7 t8 t9 X2_0 X2_1 X2_2 F2
  go_upto_region 3 with (fail)
  refine wp_region_quiet (C := Calm W3) (by kernel_rfl) (by kernel_rfl) (Calm.start _ _ (Fr.refl _ _)) ?_
  refine BigFrame.wpQuiet_want rfl fun K hK => quiet_load 23 (.tmp 5) rfl (g5) rfl 23 _ (0, 0) _ (fun _ h => Calm.at X3_2.out h) Try.underlying23 rfl (key_info k_S.out) (hK _ ?_)
  refine BigFrame.wpQuiet_want rfl fun K hK => quiet_load 23 (.tmp 7) rfl (g7) rfl 23 _ (0, 0) _ (fun _ h => Calm.at X3_3.out h) Try.underlying23 rfl (key_info k_S.out) (hK _ ?_)
  refine BigFrame.wpQuiet_want rfl fun K hK => ?_
  try simp only [Act.put, List.setIfInBounds_toArray, List.set_cons_succ, List.set_cons_zero]
  go_big_quiet_op
  first
    | refine ⟨_, fun _ _ => rfl, hK _ ?_⟩
    | refine hK _ ?_
  refine BigFrame.wpQuiet_want rfl fun K hK => ?_
  try simp only [Act.put, List.setIfInBounds_toArray, List.set_cons_succ, List.set_cons_zero]
  go_big_quiet_op
  refine hK _ ?_
  refine BigFrame.wpQuiet_want rfl fun K hK => ?_
  try simp only [Act.put, List.setIfInBounds_toArray, List.set_cons_succ, List.set_cons_zero]
  go_big_quiet_op
  refine hK _ ?_
  refine BigFrame.wpQuiet_want rfl fun K hK => ?_
  try simp only [Act.put, List.setIfInBounds_toArray, List.set_cons_succ, List.set_cons_zero]
  go_big_quiet_op
  first
    | refine ⟨_, fun _ _ => rfl, hK _ ?_⟩
    | refine hK _ ?_
  refine BigFrame.wpQuiet_want rfl fun K hK => ?_
  try simp only [Act.put, List.setIfInBounds_toArray, List.set_cons_succ, List.set_cons_zero]
  go_big_quiet_op
  first
    | refine ⟨_, fun _ _ => rfl, hK _ ?_⟩
    | refine hK _ ?_
  refine BigFrame.wpQuiet_want rfl fun K hK => ?_
  try simp only [Act.put, List.setIfInBounds_toArray, List.set_cons_succ, List.set_cons_zero]
  go_big_quiet_op
  refine hK _ ?_
  refine BigFrame.wpQuiet_want rfl fun K hK => ?_
  try simp only [Act.put, List.setIfInBounds_toArray, List.set_cons_succ, List.set_cons_zero]
  go_big_quiet_op
  refine hK _ ?_
  refine BigFrame.wpQuiet_want rfl fun K hK => ?_
  try simp only [Act.put, List.setIfInBounds_toArray, List.set_cons_succ, List.set_cons_zero]
  go_big_quiet_op
  first
    | refine ⟨_, fun _ _ => rfl, hK _ ?_⟩
    | refine hK _ ?_
  refine BigFrame.wpQuiet_want rfl fun K hK => ?_
  try simp only [Act.put, List.setIfInBounds_toArray, List.set_cons_succ, List.set_cons_zero]
  go_big_quiet_op
  first
    | refine ⟨_, fun _ _ => rfl, hK _ ?_⟩
    | refine hK _ ?_
  refine BigFrame.wpQuiet_want rfl fun K hK => ?_
  try simp only [Act.put, List.setIfInBounds_toArray, List.set_cons_succ, List.set_cons_zero]
  go_big_quiet_op
  refine hK _ ?_
  refine BigFrame.wpQuiet_want rfl fun K hK => quiet_load 23 (.tmp 5) rfl (g5) rfl 23 _ (0, 0) _ (fun _ h => Calm.at X3_2.out h) Try.underlying23 rfl (key_info k_S.out) (hK _ ?_)
  refine BigFrame.wpQuiet_want rfl fun K hK => quiet_load 23 (.tmp 2) rfl (w.heap.size) rfl 23 _ (0, 0) _ (fun _ h => Calm.at X3_0.out h) Try.underlying23 rfl (key_info k_va.out) (hK _ ?_)
  refine BigFrame.wpQuiet_want rfl fun K hK => quiet_load 23 (.tmp 3) rfl (w.heap.size + 1) rfl 23 _ (0, 0) _ (fun _ h => Calm.at X3_1.out h) Try.underlying23 rfl (key_info k_vb.out) (hK _ ?_)
  refine BigFrame.wpQuiet_want rfl fun K hK => ?_
  try simp only [Act.put, List.setIfInBounds_toArray, List.set_cons_succ, List.set_cons_zero]
  go_big_quiet_op
  refine ⟨_, Calm.calls CQ, hK _ ?_⟩
  refine BigFrame.wpQuiet_want rfl fun K hK => ?_
  try simp only [Act.put, List.setIfInBounds_toArray, List.set_cons_succ, List.set_cons_zero]
  go_big_quiet_op
  refine ⟨_, Calm.calls C2, hK _ ?_⟩
  refine BigFrame.wpQuiet_want rfl fun K hK => ?_
  try simp only [Act.put, List.setIfInBounds_toArray, List.set_cons_succ, List.set_cons_zero]
  go_big_quiet_op
  first
    | refine ⟨_, fun _ _ => rfl, hK _ ?_⟩
    | refine hK _ ?_
  refine BigFrame.wpQuiet_want rfl fun K hK => ?_
  try simp only [Act.put, List.setIfInBounds_toArray, List.set_cons_succ, List.set_cons_zero]
  go_big_quiet_op
  first
    | refine ⟨_, fun _ _ => rfl, hK _ ?_⟩
    | refine hK _ ?_
  refine BigFrame.wpQuiet_want rfl fun K hK => ?_
  try simp only [Act.put, List.setIfInBounds_toArray, List.set_cons_succ, List.set_cons_zero]
  go_big_quiet_op
  refine hK _ ?_
  refine BigFrame.wpQuiet_want rfl fun K hK => ?_
  try simp only [Act.put, List.setIfInBounds_toArray, List.set_cons_succ, List.set_cons_zero]
  go_big_quiet_op
  refine ⟨_, Calm.calls CA, hK _ ?_⟩
  refine BigFrame.wpQuiet_want rfl fun K hK => ?_
  try simp only [Act.put, List.setIfInBounds_toArray, List.set_cons_succ, List.set_cons_zero]
  go_big_quiet_op
  first
    | refine ⟨_, fun _ _ => rfl, hK _ ?_⟩
    | refine hK _ ?_
  refine BigFrame.wpQuiet_want rfl fun K hK => ?_
  try simp only [Act.put, List.setIfInBounds_toArray, List.set_cons_succ, List.set_cons_zero]
  go_big_quiet_op
  refine hK _ ?_
  refine wpQuiet_nil ?_
  intro w9 hw9
  have F9 : Hid (Fr (fun _ => False) w w9) := F3.out.trans hw9
  clear hw9
  try simp only [Act.put, List.setIfInBounds_toArray, List.set_cons_succ, List.set_cons_zero]
  go_wp2
  go_ret
  exact ⟨rfl, F9.out⟩

set_option maxRecDepth 100000 in
theorem law_both_lifted (os : Os) (started : os.Started) (H : Type) (enc : TypeId × Value → H) :
    ReturnsInHanded {} Try.checked os 7 .any (Rows.curveBothSpec.pre6 enc Try.prog Try.f7 Rows.curveBothRow.domain false) (Rows.curveBothSpec.post enc Try.prog Try.f7 false true false false) := by
  refine returnsInHanded_of_change (C := Try.checked) own started (by kernel_rfl) Try.func7
    (ChangeSpec.witness6 (enc := enc) (C := Try.checked) false ⟨#[], #[.agg (vs .u8 (List.replicate 32 0)), .agg (vs .u8 (List.replicate 32 0))], []⟩ 8 (by kernel_rfl) (by kernel_rfl) (by kernel_rfl) (by kernel_rfl)) ?_
  intro W base args ds gs before hval0 hW hcnd _
  have hval : ∀ (j : Nat) t v, Try.f7.params[j]? = some t → args[j]? = some v → Value.okWide Try.prog W .any base t v := hval0
  have hW' := hW
  obtain ⟨p, q, hA0, hV, rfl, hfz, hnd⟩ := hW
  have hA : DataW.TrodAll enc Try.prog W 0 (fun _ => true) true Try.f7.params.toList args.toList ds p := hA0
  rw [Try.params7] at hA hval
  obtain ⟨v0, vs0, d0, ds0, p0, q0, hargs, rfl, rfl, h0, r0⟩ := trodAll_cons hA
  obtain ⟨v1, vs1, d1, ds1, p1, q1, rfl, rfl, rfl, h1, r1⟩ := trodAll_cons r0
  obtain ⟨rfl, rfl, rfl⟩ := trodAll_nil r1
  obtain rfl : args = #[v0, v1] := by cases args; simp_all
  obtain ⟨rfl, rfl⟩ := trodVars_none hV
  obtain ⟨l0, rfl, e0, b0⟩ := open_key (hval 0 23 v0 rfl rfl) h0
  obtain ⟨l1, rfl, e1, b1⟩ := open_key (hval 1 23 v1 rfl rfl) h1
  clear hA0 hval0
  refine (law_both_any l0 l1 W e0 b0 e1 b1).mono fun e W' ⟨he, hg⟩ => ?_
  subst he
  exact ⟨_, rfl, post_true rfl hW' (by kernel_rfl) rfl rfl hg⟩

theorem curveBoth_holds : Rows.CurveBothSaid :=
  OpenClaim.holds_of_wide 7 Try.f7 rfl rfl rfl rfl rfl rfl rfl ⟨rfl, rfl, rfl, rfl, rfl⟩ rfl rfl rfl rfl rfl (by kernel_rfl) Try.func7 (by kernel_rfl)
    (of_decide_eq_true (by kernel_rfl)) (by unfold Func.isWrapper; first | (rw [if_pos (by decide +kernel)]; kernel_rfl) | (rw [if_neg (by decide +kernel)]; exact ⟨rfl, rfl⟩))
    (fun os started H enc _ => law_both_lifted os started H enc)
#print axioms curveBoth_holds
end Go.Proofs.Ytbkbodcncjhcmaa
