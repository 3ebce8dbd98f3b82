/- CurveThree answers true for all three keys, and its arguments read behind the call as they did: the given statement CurveThreeSaid. No condition. -/
import Derived.Test.YtbkbodcncjhcmaaKLift
import Derived.Test.YtbkbodcncjhcmaaOrd
import Derived.Test.YtbkbodcncjhcmaaAwake
namespace Go.Proofs.Ytbkbodcncjhcmaa
set_option linter.unusedSimpArgs false
set_option linter.unusedVariables false
open Go.ChangeShapes Go.WideShapes Go.ChangeAt Go.RowKit

set_option maxRecDepth 100000 in
set_option maxHeartbeats 8000000 in
theorem law_three_any (va vb vc : List Int) (w : World) (hva : va.length = 32) (bva : Bys va) (hvb : vb.length = 32) (bvb : Bys vb) (hvc : vc.length = 32) (bvc : Bys vc) :
    Calls Try.prog 10 #[.agg (vs .u8 va), .agg (vs .u8 vb), .agg (vs .u8 vc)] w fun e w' => e = .returned (.bool true) ∧ Fr (fun _ => False) w w' := by
  obtain ⟨A, hA⟩ : ∃ A, A = pub va := ⟨_, rfl⟩
  obtain ⟨B, hB⟩ : ∃ B, B = pub vb := ⟨_, rfl⟩
  obtain ⟨C, hC⟩ : ∃ C, C = pub vc := ⟨_, rfl⟩
  obtain ⟨U, hU⟩ : ∃ U, U = xv vb C := ⟨_, rfl⟩
  obtain ⟨V, hV⟩ : ∃ V, V = xv vc A := ⟨_, rfl⟩
  obtain ⟨T, hT⟩ : ∃ T, T = xv va B := ⟨_, rfl⟩
  obtain ⟨S, hS⟩ : ∃ S, S = xv va U := ⟨_, rfl⟩
  obtain ⟨g1, g2⟩ := three_same hva hvb hvc
  have hS2 : S = xv vb V := by rw [hS, hU, hV, hA, hC]; exact g1
  have hS3 : S = xv vc T := by rw [hS2, hT, hV, hB, hA]; exact g2
  have lA : A.length = 32 := by rw [hA]; exact pub_length va
  have lB : B.length = 32 := by rw [hB]; exact pub_length vb
  have lC : C.length = 32 := by rw [hC]; exact pub_length vc
  have yA : Bys A := by rw [hA]; exact pub_bys va
  have yB : Bys B := by rw [hB]; exact pub_bys vb
  have yC : Bys C := by rw [hC]; exact pub_bys vc
  have lU : U.length = 32 := by rw [hU]; exact xv_length _ _
  have lV : V.length = 32 := by rw [hV]; exact xv_length _ _
  have lT : T.length = 32 := by rw [hT]; exact xv_length _ _
  have yU : Bys U := by rw [hU]; exact xv_bys _ _
  have yV : Bys V := by rw [hV]; exact xv_bys _ _
  have yT : Bys T := by rw [hT]; exact xv_bys _ _
  have P1 : ∀ W, Calls Try.prog 17 #[.agg (vs .u8 vc)] W fun e w' => e = .returned (.agg (vs .u8 C)) ∧ Fr (fun _ => False) W w' := fun W => by rw [hC]; exact public_is vc W hvc bvc
  have P2 : ∀ W, Calls Try.prog 17 #[.agg (vs .u8 va)] W fun e w' => e = .returned (.agg (vs .u8 A)) ∧ Fr (fun _ => False) W w' := fun W => by rw [hA]; exact public_is va W hva bva
  have P3 : ∀ W, Calls Try.prog 17 #[.agg (vs .u8 vb)] W fun e w' => e = .returned (.agg (vs .u8 B)) ∧ Fr (fun _ => False) W w' := fun W => by rw [hB]; exact public_is vb W hvb bvb
  have Q1 : ∀ W, Calls Try.prog 15 #[.agg (vs .u8 vb), .agg (vs .u8 C)] W fun e w' => e = .returned (.agg (vs .u8 U)) ∧ Fr (fun _ => False) W w' := fun W => by rw [hU]; exact x_is vb C W hvb bvb lC yC
  have Q2 : ∀ W, Calls Try.prog 15 #[.agg (vs .u8 vc), .agg (vs .u8 A)] W fun e w' => e = .returned (.agg (vs .u8 V)) ∧ Fr (fun _ => False) W w' := fun W => by rw [hV]; exact x_is vc A W hvc bvc lA yA
  have Q3 : ∀ W, Calls Try.prog 15 #[.agg (vs .u8 va), .agg (vs .u8 B)] W fun e w' => e = .returned (.agg (vs .u8 T)) ∧ Fr (fun _ => False) W w' := fun W => by rw [hT]; exact x_is va B W hva bva lB yB
  have R1 : ∀ W, Calls Try.prog 15 #[.agg (vs .u8 va), .agg (vs .u8 U)] W fun e w' => e = .returned (.agg (vs .u8 S)) ∧ Fr (fun _ => False) W w' := fun W => by rw [hS]; exact x_is va U W hva bva lU yU
  have R2 : ∀ W, Calls Try.prog 15 #[.agg (vs .u8 vb), .agg (vs .u8 V)] W fun e w' => e = .returned (.agg (vs .u8 S)) ∧ Fr (fun _ => False) W w' := fun W => by rw [hS2]; exact x_is vb V W hvb bvb lV yV
  have R3 : ∀ W, Calls Try.prog 15 #[.agg (vs .u8 vc), .agg (vs .u8 T)] W fun e w' => e = .returned (.agg (vs .u8 S)) ∧ Fr (fun _ => False) W w' := fun W => by rw [hS3]; exact x_is vc T W hvc bvc lT yT
  have k_S : Hid (S.length = 32) := by show _ = _; rw [hS]; exact xv_length _ _
  have CA := awake_is
  have k_va : Hid (va.length = 32) := hva
  have k_vb : Hid (vb.length = 32) := hvb
  have k_vc : Hid (vc.length = 32) := hvc
  have hq0 : ∀ W, (Op.equalIn 10000 23 (.agg (vs .u8 S)) (.agg (vs .u8 S))).run Try.prog W = .ok true W := fun W => by rw [eq23 _ _ k_S.out k_S.out W, decide_eq_true rfl]
  obtain ⟨ZK, hZK⟩ : ∃ Z, Z = List.replicate 32 (0 : Int) := ⟨_, rfl⟩
  have zkk : ∀ W : World, (zeroValue 23).run Try.prog W = .ok (.agg (vs .u8 ZK)) W := fun W => by rw [hZK]; exact key_zero W
  have k_ZK : Hid (ZK.length = 32) := by show _ = _; rw [hZK]; rfl
  clear hZK
  clear hva bva hvb bvb hvc bvc hA hB hC hU hV hT hS hS2 hS3 g1 g2 lA lB lC yA yB yC lU lV lT yU yV yT
  go_enter Try.func10, Try.ntmps10
  go_upto_region 1 with (fail)
  generalize hW : (((w.alloc (.cells (vs .u8 va) 23)).alloc (.cells (vs .u8 vb) 23)).alloc (.cells (vs .u8 vc) 23)) = W0
  have HW := Lib.hid (calm3 hW)
  have X0 := Lib.hid HW.out.1
  have X1 := Lib.hid HW.out.2.1
  have X2 := Lib.hid HW.out.2.2.1
  have F0 : Hid (Fr (fun _ => False) w W0) := HW.out.2.2.2
  clear hW HW
  refine wp_region_inv2 (fun b a w' => ∃ g7 : Nat, Fr (fun _ => False) W0 w' ∧ (b 6 = true → W0.heap.size ≤ g7 ∧ w'.heap[g7]? = some (.cells (if b 7 = true then vs .u8 S else vs .u8 ZK) 23 (0, 0))) ∧ (b 7 = true → b 6 = true) ∧ a = ⟨#[.agg (vs .u8 va), .agg (vs .u8 vb), .agg (vs .u8 vc), .pointer (some ⟨w.heap.size, 0, none⟩), .pointer (some ⟨w.heap.size + 1, 0, none⟩), .pointer (some ⟨w.heap.size + 1 + 1, 0, none⟩), .bool false, if b 6 = true then .pointer (some ⟨g7, 0, none⟩) else undef, undef, undef, if b 0 = true then .agg (vs .u8 va) else undef, if b 1 = true then .agg (vs .u8 vb) else undef, if b 2 = true then .agg (vs .u8 vc) else undef, if b 3 = true then .agg (vs .u8 C) else undef, if b 4 = true then .agg (vs .u8 U) else undef, if b 5 = true then .agg (vs .u8 S) else undef, undef, undef, undef, undef, undef, undef, undef, undef, undef, undef, undef, undef, undef, undef, undef, undef, undef, undef, undef, undef, undef, undef, undef], []⟩) (by kernel_rfl) (by kernel_rfl) ?start1 ?step1 ?done1
  case start1 => exact ⟨0, ⟨rfl, rfl, rfl, Nat.le_refl _, fun _ _ _ => rfl⟩, by simp, by simp, by simp⟩
  case step1 =>
    intro i o b a w1 ho hI hb hr hc
    obtain ⟨g7, hF, h6, hq6, rfl⟩ := hI
    match i, ho with
    | 0, ho =>
      injection ho with ho
      subst ho
      refine wp_quiet_here _ (quiet_load 23 (.tmp 3) rfl (w.heap.size) rfl 23 _ (0, 0) _ (fun _ h => (Fr.block h _ (Nat.lt_of_lt_of_le (heap_lt X0.out) hF.size) (fun x => x)).trans ((hF.block _ (heap_lt X0.out) (fun x => x)).trans X0.out)) Try.underlying23 rfl (key_info k_va.out) rfl) (fun w2 hw2 => ?_)
      refine ⟨g7, hF.trans hw2, ?_, ?_, ?_⟩
      · intro hx
        replace hx : b 6 = true := by simpa [upd] using hx
        obtain ⟨k1', k2⟩ := h6 hx
        refine ⟨k1', (hw2.block _ (heap_lt k2) (fun x => x)).trans ?_⟩
        rw [k2]
        simp [upd]
      · simpa [upd] using hq6
      · simp [upd, Act.put]
    | 1, ho =>
      injection ho with ho
      subst ho
      refine wp_quiet_here _ (quiet_load 23 (.tmp 4) rfl (w.heap.size + 1) rfl 23 _ (0, 0) _ (fun _ h => (Fr.block h _ (Nat.lt_of_lt_of_le (heap_lt X1.out) hF.size) (fun x => x)).trans ((hF.block _ (heap_lt X1.out) (fun x => x)).trans X1.out)) Try.underlying23 rfl (key_info k_vb.out) rfl) (fun w2 hw2 => ?_)
      refine ⟨g7, hF.trans hw2, ?_, ?_, ?_⟩
      · intro hx
        replace hx : b 6 = true := by simpa [upd] using hx
        obtain ⟨k1', k2⟩ := h6 hx
        refine ⟨k1', (hw2.block _ (heap_lt k2) (fun x => x)).trans ?_⟩
        rw [k2]
        simp [upd]
      · simpa [upd] using hq6
      · simp [upd, Act.put]
    | 2, ho =>
      injection ho with ho
      subst ho
      refine wp_quiet_here _ (quiet_load 23 (.tmp 5) rfl (w.heap.size + 1 + 1) rfl 23 _ (0, 0) _ (fun _ h => (Fr.block h _ (Nat.lt_of_lt_of_le (heap_lt X2.out) hF.size) (fun x => x)).trans ((hF.block _ (heap_lt X2.out) (fun x => x)).trans X2.out)) Try.underlying23 rfl (key_info k_vc.out) rfl) (fun w2 hw2 => ?_)
      refine ⟨g7, hF.trans hw2, ?_, ?_, ?_⟩
      · intro hx
        replace hx : b 6 = true := by simpa [upd] using hx
        obtain ⟨k1', k2⟩ := h6 hx
        refine ⟨k1', (hw2.block _ (heap_lt k2) (fun x => x)).trans ?_⟩
        rw [k2]
        simp [upd]
      · simpa [upd] using hq6
      · simp [upd, Act.put]
    | 3, ho =>
      injection ho with ho
      subst ho
      simp [Region.binds] at hr
      have d2 : b 2 = true := by simp only [hr]
      simp only [hr, if_true]
      refine wp_quiet_here (.agg (vs .u8 C)) ?_ (fun w2 hw2 => ?_)
      · go_big_quiet_op
        exact ⟨_, Calm.calls P1, by simp [Act.put]⟩
      refine ⟨g7, hF.trans hw2, ?_, ?_, ?_⟩
      · intro hx
        replace hx : b 6 = true := by simpa [upd] using hx
        obtain ⟨k1', k2⟩ := h6 hx
        refine ⟨k1', (hw2.block _ (heap_lt k2) (fun x => x)).trans ?_⟩
        rw [k2]
        simp [upd]
      · simpa [upd] using hq6
      · simp [upd, Act.put, hr]
    | 4, ho =>
      injection ho with ho
      subst ho
      simp [Region.binds] at hr
      have d1 : b 1 = true := by simp only [hr]
      have d3 : b 3 = true := by simp only [hr]
      simp only [hr, if_true]
      refine wp_quiet_here (.agg (vs .u8 U)) ?_ (fun w2 hw2 => ?_)
      · go_big_quiet_op
        exact ⟨_, Calm.calls Q1, by simp [Act.put]⟩
      refine ⟨g7, hF.trans hw2, ?_, ?_, ?_⟩
      · intro hx
        replace hx : b 6 = true := by simpa [upd] using hx
        obtain ⟨k1', k2⟩ := h6 hx
        refine ⟨k1', (hw2.block _ (heap_lt k2) (fun x => x)).trans ?_⟩
        rw [k2]
        simp [upd]
      · simpa [upd] using hq6
      · simp [upd, Act.put, hr]
    | 5, ho =>
      injection ho with ho
      subst ho
      simp [Region.binds] at hr
      have d0 : b 0 = true := by simp only [hr]
      have d4 : b 4 = true := by simp only [hr]
      simp only [hr, if_true]
      refine wp_quiet_here (.agg (vs .u8 S)) ?_ (fun w2 hw2 => ?_)
      · go_big_quiet_op
        exact ⟨_, Calm.calls R1, by simp [Act.put]⟩
      refine ⟨g7, hF.trans hw2, ?_, ?_, ?_⟩
      · intro hx
        replace hx : b 6 = true := by simpa [upd] using hx
        obtain ⟨k1', k2⟩ := h6 hx
        refine ⟨k1', (hw2.block _ (heap_lt k2) (fun x => x)).trans ?_⟩
        rw [k2]
        simp [upd]
      · simpa [upd] using hq6
      · simp [upd, Act.put, hr]
    | 6, ho =>
      injection ho with ho
      subst ho
      refine wp_alloc_any 23 rfl (vs .u8 ZK) zkk ?_
      refine ⟨w1.heap.size, hF.alloc _, ?_, ?_, ?_⟩
      · intro _
        refine ⟨hF.size, (heap_alloc_new w1 _).trans ?_⟩
        have hs : b 7 = false := by
          rcases hbs : b 7 with _ | _
          · rfl
          · rw [hq6 hbs] at hb
            cases hb
        simp [upd, hs]
      · simp [upd]
      · simp [upd, Act.put]
    | 7, ho =>
      injection ho with ho
      subst ho
      simp [Region.binds] at hr
      have d5 : b 5 = true := by simp only [hr]
      have d6 : b 6 = true := by simp only [hr]
      simp only [hr, if_true]
      obtain ⟨k1, k2⟩ := h6 d6
      rw [hb] at k2
      simp only [Bool.false_eq_true, if_false] at k2
      refine wp_store_row 23 (.tmp 7) (.tmp 15) rfl g7 (vs .u8 S) rfl rfl 23 _ k2 (key_info k_S.out) (by rw [vs_size, vs_size, k_ZK.out, k_S.out]) (vs_all _ _) ?_
      refine ⟨g7, hF.setRow _ (.inr k1), ?_, ?_, ?_⟩
      · intro _
        refine ⟨k1, (setRow_heap _ _ _ _ _ _ k2).trans ?_⟩
        simp [upd]
      · simp [upd, d6]
      · simp [upd, Act.put, hr]
    | j + 8, ho => exact absurd ho (by simp)
  intro b a W2 hall hI
  obtain ⟨g7, hF, h6, hq6, rfl⟩ := hI
  have t0 : b 0 = true := hall 0 (by simp)
  have t1 : b 1 = true := hall 1 (by simp)
  have t2 : b 2 = true := hall 2 (by simp)
  have t3 : b 3 = true := hall 3 (by simp)
  have t4 : b 4 = true := hall 4 (by simp)
  have t5 : b 5 = true := hall 5 (by simp)
  have t6 : b 6 = true := hall 6 (by simp)
  have t7 : b 7 = true := hall 7 (by simp)
  simp only [t0, t1, t2, t3, t4, t5, t6, t7, if_true, true_implies] at h6 hq6 ⊢
  have F2 : Hid (Fr (fun _ => False) w W2) := F0.out.trans hF
  have X2_0 := Lib.hid ((hF.block _ (heap_lt X0.out) (fun x => x)).trans X0.out)
  have X2_1 := Lib.hid ((hF.block _ (heap_lt X1.out) (fun x => x)).trans X1.out)
  have X2_2 := Lib.hid ((hF.block _ (heap_lt X2.out) (fun x => x)).trans X2.out)
  have X2_3 := Lib.hid h6.2
  have Yg7 : w.heap.size ≤ g7 := Nat.le_trans F0.out.size h6.1
  clear hall hF h6 hq6 t0 t1 t2 t3 t4 t5 t6 t7 F0
  go_upto_region 2 with (fail)
  refine wp_region_inv2 (fun b a w' => ∃ g8 : Nat, Fr (fun _ => False) W2 w' ∧ (b 6 = true → W2.heap.size ≤ g8 ∧ w'.heap[g8]? = some (.cells (if b 7 = true then vs .u8 S else vs .u8 ZK) 23 (0, 0))) ∧ (b 7 = true → b 6 = true) ∧ a = ⟨#[.agg (vs .u8 va), .agg (vs .u8 vb), .agg (vs .u8 vc), .pointer (some ⟨w.heap.size, 0, none⟩), .pointer (some ⟨w.heap.size + 1, 0, none⟩), .pointer (some ⟨w.heap.size + 1 + 1, 0, none⟩), .bool false, .pointer (some ⟨g7, 0, none⟩), if b 6 = true then .pointer (some ⟨g8, 0, none⟩) else undef, undef, .agg (vs .u8 va), .agg (vs .u8 vb), .agg (vs .u8 vc), .agg (vs .u8 C), .agg (vs .u8 U), .agg (vs .u8 S), if b 0 = true then .agg (vs .u8 vb) else undef, if b 1 = true then .agg (vs .u8 vc) else undef, if b 2 = true then .agg (vs .u8 va) else undef, if b 3 = true then .agg (vs .u8 A) else undef, if b 4 = true then .agg (vs .u8 V) else undef, if b 5 = true then .agg (vs .u8 S) else undef, undef, undef, undef, undef, undef, undef, undef, undef, undef, undef, undef, undef, undef, undef, undef, undef, undef], []⟩) (by kernel_rfl) (by kernel_rfl) ?start2 ?step2 ?done2
  case start2 => exact ⟨0, ⟨rfl, rfl, rfl, Nat.le_refl _, fun _ _ _ => rfl⟩, by simp, by simp, by simp⟩
  case step2 =>
    intro i o b a w1 ho hI hb hr hc
    obtain ⟨g8, hF, h6, hq6, rfl⟩ := hI
    match i, ho with
    | 0, ho =>
      injection ho with ho
      subst ho
      refine wp_quiet_here _ (quiet_load 23 (.tmp 4) rfl (w.heap.size + 1) rfl 23 _ (0, 0) _ (fun _ h => (Fr.block h _ (Nat.lt_of_lt_of_le (heap_lt X2_1.out) hF.size) (fun x => x)).trans ((hF.block _ (heap_lt X2_1.out) (fun x => x)).trans X2_1.out)) Try.underlying23 rfl (key_info k_vb.out) rfl) (fun w2 hw2 => ?_)
      refine ⟨g8, hF.trans hw2, ?_, ?_, ?_⟩
      · intro hx
        replace hx : b 6 = true := by simpa [upd] using hx
        obtain ⟨k1', k2⟩ := h6 hx
        refine ⟨k1', (hw2.block _ (heap_lt k2) (fun x => x)).trans ?_⟩
        rw [k2]
        simp [upd]
      · simpa [upd] using hq6
      · simp [upd, Act.put]
    | 1, ho =>
      injection ho with ho
      subst ho
      refine wp_quiet_here _ (quiet_load 23 (.tmp 5) rfl (w.heap.size + 1 + 1) rfl 23 _ (0, 0) _ (fun _ h => (Fr.block h _ (Nat.lt_of_lt_of_le (heap_lt X2_2.out) hF.size) (fun x => x)).trans ((hF.block _ (heap_lt X2_2.out) (fun x => x)).trans X2_2.out)) Try.underlying23 rfl (key_info k_vc.out) rfl) (fun w2 hw2 => ?_)
      refine ⟨g8, hF.trans hw2, ?_, ?_, ?_⟩
      · intro hx
        replace hx : b 6 = true := by simpa [upd] using hx
        obtain ⟨k1', k2⟩ := h6 hx
        refine ⟨k1', (hw2.block _ (heap_lt k2) (fun x => x)).trans ?_⟩
        rw [k2]
        simp [upd]
      · simpa [upd] using hq6
      · simp [upd, Act.put]
    | 2, ho =>
      injection ho with ho
      subst ho
      refine wp_quiet_here _ (quiet_load 23 (.tmp 3) rfl (w.heap.size) rfl 23 _ (0, 0) _ (fun _ h => (Fr.block h _ (Nat.lt_of_lt_of_le (heap_lt X2_0.out) hF.size) (fun x => x)).trans ((hF.block _ (heap_lt X2_0.out) (fun x => x)).trans X2_0.out)) Try.underlying23 rfl (key_info k_va.out) rfl) (fun w2 hw2 => ?_)
      refine ⟨g8, hF.trans hw2, ?_, ?_, ?_⟩
      · intro hx
        replace hx : b 6 = true := by simpa [upd] using hx
        obtain ⟨k1', k2⟩ := h6 hx
        refine ⟨k1', (hw2.block _ (heap_lt k2) (fun x => x)).trans ?_⟩
        rw [k2]
        simp [upd]
      · simpa [upd] using hq6
      · simp [upd, Act.put]
    | 3, ho =>
      injection ho with ho
      subst ho
      simp [Region.binds] at hr
      have d2 : b 2 = true := by simp only [hr]
      simp only [hr, if_true]
      refine wp_quiet_here (.agg (vs .u8 A)) ?_ (fun w2 hw2 => ?_)
      · go_big_quiet_op
        exact ⟨_, Calm.calls P2, by simp [Act.put]⟩
      refine ⟨g8, hF.trans hw2, ?_, ?_, ?_⟩
      · intro hx
        replace hx : b 6 = true := by simpa [upd] using hx
        obtain ⟨k1', k2⟩ := h6 hx
        refine ⟨k1', (hw2.block _ (heap_lt k2) (fun x => x)).trans ?_⟩
        rw [k2]
        simp [upd]
      · simpa [upd] using hq6
      · simp [upd, Act.put, hr]
    | 4, ho =>
      injection ho with ho
      subst ho
      simp [Region.binds] at hr
      have d1 : b 1 = true := by simp only [hr]
      have d3 : b 3 = true := by simp only [hr]
      simp only [hr, if_true]
      refine wp_quiet_here (.agg (vs .u8 V)) ?_ (fun w2 hw2 => ?_)
      · go_big_quiet_op
        exact ⟨_, Calm.calls Q2, by simp [Act.put]⟩
      refine ⟨g8, hF.trans hw2, ?_, ?_, ?_⟩
      · intro hx
        replace hx : b 6 = true := by simpa [upd] using hx
        obtain ⟨k1', k2⟩ := h6 hx
        refine ⟨k1', (hw2.block _ (heap_lt k2) (fun x => x)).trans ?_⟩
        rw [k2]
        simp [upd]
      · simpa [upd] using hq6
      · simp [upd, Act.put, hr]
    | 5, ho =>
      injection ho with ho
      subst ho
      simp [Region.binds] at hr
      have d0 : b 0 = true := by simp only [hr]
      have d4 : b 4 = true := by simp only [hr]
      simp only [hr, if_true]
      refine wp_quiet_here (.agg (vs .u8 S)) ?_ (fun w2 hw2 => ?_)
      · go_big_quiet_op
        exact ⟨_, Calm.calls R2, by simp [Act.put]⟩
      refine ⟨g8, hF.trans hw2, ?_, ?_, ?_⟩
      · intro hx
        replace hx : b 6 = true := by simpa [upd] using hx
        obtain ⟨k1', k2⟩ := h6 hx
        refine ⟨k1', (hw2.block _ (heap_lt k2) (fun x => x)).trans ?_⟩
        rw [k2]
        simp [upd]
      · simpa [upd] using hq6
      · simp [upd, Act.put, hr]
    | 6, ho =>
      injection ho with ho
      subst ho
      refine wp_alloc_any 23 rfl (vs .u8 ZK) zkk ?_
      refine ⟨w1.heap.size, hF.alloc _, ?_, ?_, ?_⟩
      · intro _
        refine ⟨hF.size, (heap_alloc_new w1 _).trans ?_⟩
        have hs : b 7 = false := by
          rcases hbs : b 7 with _ | _
          · rfl
          · rw [hq6 hbs] at hb
            cases hb
        simp [upd, hs]
      · simp [upd]
      · simp [upd, Act.put]
    | 7, ho =>
      injection ho with ho
      subst ho
      simp [Region.binds] at hr
      have d5 : b 5 = true := by simp only [hr]
      have d6 : b 6 = true := by simp only [hr]
      simp only [hr, if_true]
      obtain ⟨k1, k2⟩ := h6 d6
      rw [hb] at k2
      simp only [Bool.false_eq_true, if_false] at k2
      refine wp_store_row 23 (.tmp 8) (.tmp 21) rfl g8 (vs .u8 S) rfl rfl 23 _ k2 (key_info k_S.out) (by rw [vs_size, vs_size, k_ZK.out, k_S.out]) (vs_all _ _) ?_
      refine ⟨g8, hF.setRow _ (.inr k1), ?_, ?_, ?_⟩
      · intro _
        refine ⟨k1, (setRow_heap _ _ _ _ _ _ k2).trans ?_⟩
        simp [upd]
      · simp [upd, d6]
      · simp [upd, Act.put, hr]
    | j + 8, ho => exact absurd ho (by simp)
  intro b a W3 hall hI
  obtain ⟨g8, hF, h6, hq6, rfl⟩ := hI
  have t0 : b 0 = true := hall 0 (by simp)
  have t1 : b 1 = true := hall 1 (by simp)
  have t2 : b 2 = true := hall 2 (by simp)
  have t3 : b 3 = true := hall 3 (by simp)
  have t4 : b 4 = true := hall 4 (by simp)
  have t5 : b 5 = true := hall 5 (by simp)
  have t6 : b 6 = true := hall 6 (by simp)
  have t7 : b 7 = true := hall 7 (by simp)
  simp only [t0, t1, t2, t3, t4, t5, t6, t7, if_true, true_implies] at h6 hq6 ⊢
  have F3 : Hid (Fr (fun _ => False) w W3) := F2.out.trans hF
  have X3_0 := Lib.hid ((hF.block _ (heap_lt X2_0.out) (fun x => x)).trans X2_0.out)
  have X3_1 := Lib.hid ((hF.block _ (heap_lt X2_1.out) (fun x => x)).trans X2_1.out)
  have X3_2 := Lib.hid ((hF.block _ (heap_lt X2_2.out) (fun x => x)).trans X2_2.out)
  have X3_3 := Lib.hid ((hF.block _ (heap_lt X2_3.out) (fun x => x)).trans X2_3.out)
  have X3_4 := Lib.hid h6.2
  have Yg8 : w.heap.size ≤ g8 := Nat.le_trans F2.out.size h6.1
  clear hall hF h6 hq6 t0 t1 t2 t3 t4 t5 t6 t7 X2_0 X2_1 X2_2 X2_3 F2
  go_upto_region 3 with (fail)
  refine wp_region_inv2 (fun b a w' => ∃ g9 : Nat, Fr (fun _ => False) W3 w' ∧ (b 6 = true → W3.heap.size ≤ g9 ∧ w'.heap[g9]? = some (.cells (if b 7 = true then vs .u8 S else vs .u8 ZK) 23 (0, 0))) ∧ (b 7 = true → b 6 = true) ∧ a = ⟨#[.agg (vs .u8 va), .agg (vs .u8 vb), .agg (vs .u8 vc), .pointer (some ⟨w.heap.size, 0, none⟩), .pointer (some ⟨w.heap.size + 1, 0, none⟩), .pointer (some ⟨w.heap.size + 1 + 1, 0, none⟩), .bool false, .pointer (some ⟨g7, 0, none⟩), .pointer (some ⟨g8, 0, none⟩), if b 6 = true then .pointer (some ⟨g9, 0, none⟩) else undef, .agg (vs .u8 va), .agg (vs .u8 vb), .agg (vs .u8 vc), .agg (vs .u8 C), .agg (vs .u8 U), .agg (vs .u8 S), .agg (vs .u8 vb), .agg (vs .u8 vc), .agg (vs .u8 va), .agg (vs .u8 A), .agg (vs .u8 V), .agg (vs .u8 S), if b 0 = true then .agg (vs .u8 vc) else undef, if b 1 = true then .agg (vs .u8 va) else undef, if b 2 = true then .agg (vs .u8 vb) else undef, if b 3 = true then .agg (vs .u8 B) else undef, if b 4 = true then .agg (vs .u8 T) else undef, if b 5 = true then .agg (vs .u8 S) else undef, undef, undef, undef, undef, undef, undef, undef, undef, undef, undef, undef], []⟩) (by kernel_rfl) (by kernel_rfl) ?start3 ?step3 ?done3
  case start3 => exact ⟨0, ⟨rfl, rfl, rfl, Nat.le_refl _, fun _ _ _ => rfl⟩, by simp, by simp, by simp⟩
  case step3 =>
    intro i o b a w1 ho hI hb hr hc
    obtain ⟨g9, hF, h6, hq6, rfl⟩ := hI
    match i, ho with
    | 0, ho =>
      injection ho with ho
      subst ho
      refine wp_quiet_here _ (quiet_load 23 (.tmp 5) rfl (w.heap.size + 1 + 1) rfl 23 _ (0, 0) _ (fun _ h => (Fr.block h _ (Nat.lt_of_lt_of_le (heap_lt X3_2.out) hF.size) (fun x => x)).trans ((hF.block _ (heap_lt X3_2.out) (fun x => x)).trans X3_2.out)) Try.underlying23 rfl (key_info k_vc.out) rfl) (fun w2 hw2 => ?_)
      refine ⟨g9, hF.trans hw2, ?_, ?_, ?_⟩
      · intro hx
        replace hx : b 6 = true := by simpa [upd] using hx
        obtain ⟨k1', k2⟩ := h6 hx
        refine ⟨k1', (hw2.block _ (heap_lt k2) (fun x => x)).trans ?_⟩
        rw [k2]
        simp [upd]
      · simpa [upd] using hq6
      · simp [upd, Act.put]
    | 1, ho =>
      injection ho with ho
      subst ho
      refine wp_quiet_here _ (quiet_load 23 (.tmp 3) rfl (w.heap.size) rfl 23 _ (0, 0) _ (fun _ h => (Fr.block h _ (Nat.lt_of_lt_of_le (heap_lt X3_0.out) hF.size) (fun x => x)).trans ((hF.block _ (heap_lt X3_0.out) (fun x => x)).trans X3_0.out)) Try.underlying23 rfl (key_info k_va.out) rfl) (fun w2 hw2 => ?_)
      refine ⟨g9, hF.trans hw2, ?_, ?_, ?_⟩
      · intro hx
        replace hx : b 6 = true := by simpa [upd] using hx
        obtain ⟨k1', k2⟩ := h6 hx
        refine ⟨k1', (hw2.block _ (heap_lt k2) (fun x => x)).trans ?_⟩
        rw [k2]
        simp [upd]
      · simpa [upd] using hq6
      · simp [upd, Act.put]
    | 2, ho =>
      injection ho with ho
      subst ho
      refine wp_quiet_here _ (quiet_load 23 (.tmp 4) rfl (w.heap.size + 1) rfl 23 _ (0, 0) _ (fun _ h => (Fr.block h _ (Nat.lt_of_lt_of_le (heap_lt X3_1.out) hF.size) (fun x => x)).trans ((hF.block _ (heap_lt X3_1.out) (fun x => x)).trans X3_1.out)) Try.underlying23 rfl (key_info k_vb.out) rfl) (fun w2 hw2 => ?_)
      refine ⟨g9, hF.trans hw2, ?_, ?_, ?_⟩
      · intro hx
        replace hx : b 6 = true := by simpa [upd] using hx
        obtain ⟨k1', k2⟩ := h6 hx
        refine ⟨k1', (hw2.block _ (heap_lt k2) (fun x => x)).trans ?_⟩
        rw [k2]
        simp [upd]
      · simpa [upd] using hq6
      · simp [upd, Act.put]
    | 3, ho =>
      injection ho with ho
      subst ho
      simp [Region.binds] at hr
      have d2 : b 2 = true := by simp only [hr]
      simp only [hr, if_true]
      refine wp_quiet_here (.agg (vs .u8 B)) ?_ (fun w2 hw2 => ?_)
      · go_big_quiet_op
        exact ⟨_, Calm.calls P3, by simp [Act.put]⟩
      refine ⟨g9, hF.trans hw2, ?_, ?_, ?_⟩
      · intro hx
        replace hx : b 6 = true := by simpa [upd] using hx
        obtain ⟨k1', k2⟩ := h6 hx
        refine ⟨k1', (hw2.block _ (heap_lt k2) (fun x => x)).trans ?_⟩
        rw [k2]
        simp [upd]
      · simpa [upd] using hq6
      · simp [upd, Act.put, hr]
    | 4, ho =>
      injection ho with ho
      subst ho
      simp [Region.binds] at hr
      have d1 : b 1 = true := by simp only [hr]
      have d3 : b 3 = true := by simp only [hr]
      simp only [hr, if_true]
      refine wp_quiet_here (.agg (vs .u8 T)) ?_ (fun w2 hw2 => ?_)
      · go_big_quiet_op
        exact ⟨_, Calm.calls Q3, by simp [Act.put]⟩
      refine ⟨g9, hF.trans hw2, ?_, ?_, ?_⟩
      · intro hx
        replace hx : b 6 = true := by simpa [upd] using hx
        obtain ⟨k1', k2⟩ := h6 hx
        refine ⟨k1', (hw2.block _ (heap_lt k2) (fun x => x)).trans ?_⟩
        rw [k2]
        simp [upd]
      · simpa [upd] using hq6
      · simp [upd, Act.put, hr]
    | 5, ho =>
      injection ho with ho
      subst ho
      simp [Region.binds] at hr
      have d0 : b 0 = true := by simp only [hr]
      have d4 : b 4 = true := by simp only [hr]
      simp only [hr, if_true]
      refine wp_quiet_here (.agg (vs .u8 S)) ?_ (fun w2 hw2 => ?_)
      · go_big_quiet_op
        exact ⟨_, Calm.calls R3, by simp [Act.put]⟩
      refine ⟨g9, hF.trans hw2, ?_, ?_, ?_⟩
      · intro hx
        replace hx : b 6 = true := by simpa [upd] using hx
        obtain ⟨k1', k2⟩ := h6 hx
        refine ⟨k1', (hw2.block _ (heap_lt k2) (fun x => x)).trans ?_⟩
        rw [k2]
        simp [upd]
      · simpa [upd] using hq6
      · simp [upd, Act.put, hr]
    | 6, ho =>
      injection ho with ho
      subst ho
      refine wp_alloc_any 23 rfl (vs .u8 ZK) zkk ?_
      refine ⟨w1.heap.size, hF.alloc _, ?_, ?_, ?_⟩
      · intro _
        refine ⟨hF.size, (heap_alloc_new w1 _).trans ?_⟩
        have hs : b 7 = false := by
          rcases hbs : b 7 with _ | _
          · rfl
          · rw [hq6 hbs] at hb
            cases hb
        simp [upd, hs]
      · simp [upd]
      · simp [upd, Act.put]
    | 7, ho =>
      injection ho with ho
      subst ho
      simp [Region.binds] at hr
      have d5 : b 5 = true := by simp only [hr]
      have d6 : b 6 = true := by simp only [hr]
      simp only [hr, if_true]
      obtain ⟨k1, k2⟩ := h6 d6
      rw [hb] at k2
      simp only [Bool.false_eq_true, if_false] at k2
      refine wp_store_row 23 (.tmp 9) (.tmp 27) rfl g9 (vs .u8 S) rfl rfl 23 _ k2 (key_info k_S.out) (by rw [vs_size, vs_size, k_ZK.out, k_S.out]) (vs_all _ _) ?_
      refine ⟨g9, hF.setRow _ (.inr k1), ?_, ?_, ?_⟩
      · intro _
        refine ⟨k1, (setRow_heap _ _ _ _ _ _ k2).trans ?_⟩
        simp [upd]
      · simp [upd, d6]
      · simp [upd, Act.put, hr]
    | j + 8, ho => exact absurd ho (by simp)
  intro b a W4 hall hI
  obtain ⟨g9, hF, h6, hq6, rfl⟩ := hI
  have t0 : b 0 = true := hall 0 (by simp)
  have t1 : b 1 = true := hall 1 (by simp)
  have t2 : b 2 = true := hall 2 (by simp)
  have t3 : b 3 = true := hall 3 (by simp)
  have t4 : b 4 = true := hall 4 (by simp)
  have t5 : b 5 = true := hall 5 (by simp)
  have t6 : b 6 = true := hall 6 (by simp)
  have t7 : b 7 = true := hall 7 (by simp)
  simp only [t0, t1, t2, t3, t4, t5, t6, t7, if_true, true_implies] at h6 hq6 ⊢
  have F4 : Hid (Fr (fun _ => False) w W4) := F3.out.trans hF
  have X4_0 := Lib.hid ((hF.block _ (heap_lt X3_0.out) (fun x => x)).trans X3_0.out)
  have X4_1 := Lib.hid ((hF.block _ (heap_lt X3_1.out) (fun x => x)).trans X3_1.out)
  have X4_2 := Lib.hid ((hF.block _ (heap_lt X3_2.out) (fun x => x)).trans X3_2.out)
  have X4_3 := Lib.hid ((hF.block _ (heap_lt X3_3.out) (fun x => x)).trans X3_3.out)
  have X4_4 := Lib.hid ((hF.block _ (heap_lt X3_4.out) (fun x => x)).trans X3_4.out)
  have X4_5 := Lib.hid h6.2
  have Yg9 : w.heap.size ≤ g9 := Nat.le_trans F3.out.size h6.1
  clear hall hF h6 hq6 t0 t1 t2 t3 t4 t5 t6 t7 X3_0 X3_1 X3_2 X3_3 X3_4 F3
  go_upto_region 4 with (fail)
  refine wp_region_head (C := Calm W4) 12 (Fr.refl _ _) ?_
  simp only [List.take_succ_cons, List.take_zero, List.drop_succ_cons, List.drop_zero]
  refine BigFrame.wpQuiet_want rfl fun K hK => quiet_load 23 (.tmp 7) rfl (g7) rfl 23 _ (0, 0) _ (fun _ h => Calm.at X4_3.out h) Try.underlying23 rfl (key_info k_S.out) (hK _ ?_)
  refine BigFrame.wpQuiet_want rfl fun K hK => quiet_load 23 (.tmp 8) rfl (g8) rfl 23 _ (0, 0) _ (fun _ h => Calm.at X4_4.out h) Try.underlying23 rfl (key_info k_S.out) (hK _ ?_)
  refine BigFrame.wpQuiet_want rfl fun K hK => ?_
  try simp only [Act.put, List.setIfInBounds_toArray, List.set_cons_succ, List.set_cons_zero]
  go_big_quiet_op
  first
    | refine ⟨_, fun _ _ => rfl, hK _ ?_⟩
    | refine hK _ ?_
  refine BigFrame.wpQuiet_want rfl fun K hK => ?_
  try simp only [Act.put, List.setIfInBounds_toArray, List.set_cons_succ, List.set_cons_zero]
  go_big_quiet_op
  refine hK _ ?_
  refine BigFrame.wpQuiet_want rfl fun K hK => quiet_load 23 (.tmp 8) rfl (g8) rfl 23 _ (0, 0) _ (fun _ h => Calm.at X4_4.out h) Try.underlying23 rfl (key_info k_S.out) (hK _ ?_)
  refine BigFrame.wpQuiet_want rfl fun K hK => quiet_load 23 (.tmp 9) rfl (g9) rfl 23 _ (0, 0) _ (fun _ h => Calm.at X4_5.out h) Try.underlying23 rfl (key_info k_S.out) (hK _ ?_)
  refine BigFrame.wpQuiet_want rfl fun K hK => ?_
  try simp only [Act.put, List.setIfInBounds_toArray, List.set_cons_succ, List.set_cons_zero]
  go_big_quiet_op
  first
    | refine ⟨_, fun _ _ => rfl, hK _ ?_⟩
    | refine hK _ ?_
  refine BigFrame.wpQuiet_want rfl fun K hK => ?_
  try simp only [Act.put, List.setIfInBounds_toArray, List.set_cons_succ, List.set_cons_zero]
  go_big_quiet_op
  first
    | refine ⟨_, fun _ _ => rfl, hK _ ?_⟩
    | refine hK _ ?_
  refine BigFrame.wpQuiet_want rfl fun K hK => ?_
  try simp only [Act.put, List.setIfInBounds_toArray, List.set_cons_succ, List.set_cons_zero]
  go_big_quiet_op
  refine hK _ ?_
  refine BigFrame.wpQuiet_want rfl fun K hK => ?_
  try simp only [Act.put, List.setIfInBounds_toArray, List.set_cons_succ, List.set_cons_zero]
  go_big_quiet_op
  refine ⟨_, Calm.calls CA, hK _ ?_⟩
  refine BigFrame.wpQuiet_want rfl fun K hK => ?_
  try simp only [Act.put, List.setIfInBounds_toArray, List.set_cons_succ, List.set_cons_zero]
  go_big_quiet_op
  first
    | refine ⟨_, fun _ _ => rfl, hK _ ?_⟩
    | refine hK _ ?_
  refine BigFrame.wpQuiet_want rfl fun K hK => ?_
  try simp only [Act.put, List.setIfInBounds_toArray, List.set_cons_succ, List.set_cons_zero]
  go_big_quiet_op
  refine hK _ ?_
  refine wpQuiet_nil ?_
  intro w9 hw9
  have F9 : Hid (Fr (fun _ => False) w w9) := F4.out.trans hw9
  clear hw9
  try simp only [Act.put, List.setIfInBounds_toArray, List.set_cons_succ, List.set_cons_zero]
  go_wp2
  go_ret
  exact ⟨rfl, F9.out⟩

set_option maxRecDepth 100000 in
theorem law_three_lifted (os : Os) (started : os.Started) (H : Type) (enc : TypeId × Value → H) :
    ReturnsInHanded {} Try.checked os 10 .any (Rows.curveThreeSpec.pre6 enc Try.prog Try.f10 Rows.curveThreeRow.domain false) (Rows.curveThreeSpec.post enc Try.prog Try.f10 false true false false) := by
  refine returnsInHanded_of_change (C := Try.checked) own started (by kernel_rfl) Try.func10
    (ChangeSpec.witness6 (enc := enc) (C := Try.checked) false ⟨#[], #[.agg (vs .u8 (List.replicate 32 0)), .agg (vs .u8 (List.replicate 32 0)), .agg (vs .u8 (List.replicate 32 0))], []⟩ 8 (by kernel_rfl) (by kernel_rfl) (by kernel_rfl) (by kernel_rfl)) ?_
  intro W base args ds gs before hval0 hW hcnd _
  have hval : ∀ (j : Nat) t v, Try.f10.params[j]? = some t → args[j]? = some v → Value.okWide Try.prog W .any base t v := hval0
  have hW' := hW
  obtain ⟨p, q, hA0, hV, rfl, hfz, hnd⟩ := hW
  have hA : DataW.TrodAll enc Try.prog W 0 (fun _ => true) true Try.f10.params.toList args.toList ds p := hA0
  rw [Try.params10] at hA hval
  obtain ⟨v0, vs0, d0, ds0, p0, q0, hargs, rfl, rfl, h0, r0⟩ := trodAll_cons hA
  obtain ⟨v1, vs1, d1, ds1, p1, q1, rfl, rfl, rfl, h1, r1⟩ := trodAll_cons r0
  obtain ⟨v2, vs2, d2, ds2, p2, q2, rfl, rfl, rfl, h2, r2⟩ := trodAll_cons r1
  obtain ⟨rfl, rfl, rfl⟩ := trodAll_nil r2
  obtain rfl : args = #[v0, v1, v2] := by cases args; simp_all
  obtain ⟨rfl, rfl⟩ := trodVars_none hV
  obtain ⟨l0, rfl, e0, b0⟩ := open_key (hval 0 23 v0 rfl rfl) h0
  obtain ⟨l1, rfl, e1, b1⟩ := open_key (hval 1 23 v1 rfl rfl) h1
  obtain ⟨l2, rfl, e2, b2⟩ := open_key (hval 2 23 v2 rfl rfl) h2
  clear hA0 hval0
  refine (law_three_any l0 l1 l2 W e0 b0 e1 b1 e2 b2).mono fun e W' ⟨he, hg⟩ => ?_
  subst he
  exact ⟨_, rfl, post_true rfl hW' (by kernel_rfl) rfl rfl hg⟩

theorem curveThree_holds : Rows.CurveThreeSaid :=
  OpenClaim.holds_of_wide 10 Try.f10 rfl rfl rfl rfl rfl rfl rfl ⟨rfl, rfl, rfl, rfl, rfl⟩ rfl rfl rfl rfl rfl (by kernel_rfl) Try.func10 (by kernel_rfl)
    (of_decide_eq_true (by kernel_rfl)) (by unfold Func.isWrapper; first | (rw [if_pos (by decide +kernel)]; kernel_rfl) | (rw [if_neg (by decide +kernel)]; exact ⟨rfl, rfl⟩))
    (fun os started H enc _ => law_three_lifted os started H enc)
#print axioms curveThree_holds
end Go.Proofs.Ytbkbodcncjhcmaa
