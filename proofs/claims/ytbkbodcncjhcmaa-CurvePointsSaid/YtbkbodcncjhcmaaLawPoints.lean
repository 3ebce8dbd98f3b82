/- CurvePoints answers true for all keys and points, and its arguments read behind the call as they did: the given statement CurvePointsSaid. No condition. -/
import Derived.Test.YtbkbodcncjhcmaaKLift
import Derived.Test.YtbkbodcncjhcmaaAwake
namespace Go.Proofs.Ytbkbodcncjhcmaa
set_option linter.unusedSimpArgs false
set_option linter.unusedVariables false
open Go.ChangeShapes Go.WideShapes Go.ChangeAt Go.RowKit

set_option maxRecDepth 100000 in
set_option maxHeartbeats 8000000 in
theorem law_points_any (vk vu : List Int) (w : World) (hvk : vk.length = 32) (bvk : Bys vk) (hvu : vu.length = 32) (bvu : Bys vu) :
    Calls Try.prog 9 #[.agg (vs .u8 vk), .agg (vs .u8 vu)] w fun e w' => e = .returned (.bool true) ∧ Fr (fun _ => False) w w' := by
  obtain ⟨S, hS⟩ : ∃ S, S = xv vk vu := ⟨_, rfl⟩
  obtain ⟨vb, hb⟩ : ∃ b, b = vu.getD 31 0 := ⟨_, rfl⟩
  have gb := getD_some (l := vu) (i := 31) (by omega)
  rw [← hb] at gb
  have bb := bvu vb (List.mem_of_getElem? gb)
  obtain ⟨x, hx⟩ : ∃ x, x = (vb + 128) % 256 := ⟨_, rfl⟩
  have xx := xor128 vb bb.1 bb.2
  rw [← hx] at xx
  obtain ⟨M, hM⟩ : ∃ M, vu.set 31 x = M := ⟨_, rfl⟩
  have HM : vu.set 31 x = M := hM
  have lM : M.length = 32 := by rw [← hM, List.length_set]; exact hvu
  have yM : Bys M := by rw [← hM]; exact bys_set bvu 31 (by omega)
  have fM : fe M = fe vu := by rw [← hM, hx, hb]; exact fe_top vu hvu bvu
  obtain ⟨e0, he0⟩ : ∃ e, e = fe vu := ⟨_, rfl⟩
  obtain ⟨L, hL⟩ : ∃ L, L = lb 32 e0 := ⟨_, rfl⟩
  have fL : fe L = fe vu := by rw [hL, he0]; exact fe_lb (el_fe vu)
  have lL : L.length = 32 := by rw [hL]; exact lb_length _ _
  have yL : Bys L := by rw [hL]; exact lb_bys _ _
  obtain ⟨e1, he1⟩ : ∃ e, e = xe vk vu := ⟨_, rfl⟩
  have C0 : ∀ W, Calls Try.prog 15 #[.agg (vs .u8 vk), .agg (vs .u8 vu)] W fun e w' => e = .returned (.agg (vs .u8 S)) ∧ Fr (fun _ => False) W w' := fun W => by rw [hS]; exact x_is vk vu W hvk bvk hvu bvu
  have C1 : ∀ W, Calls Try.prog 22 #[.agg (vs .u8 vu)] W fun e w' => e = .returned (.agg (ec e0)) ∧ Fr (fun _ => False) W w' := fun W => by rw [he0]; exact from_el vu W hvu bvu
  have C2 : ∀ W, Calls Try.prog 23 #[.agg (ec e0)] W fun e w' => e = .returned (.agg (vs .u8 L)) ∧ Fr (fun _ => False) W w' := fun W => by rw [hL]; exact ebytes_is e0 W (by rw [he0]; exact el_fe vu)
  have C3 : ∀ W, Calls Try.prog 15 #[.agg (vs .u8 vk), .agg (vs .u8 M)] W fun e w' => e = .returned (.agg (vs .u8 S)) ∧ Fr (fun _ => False) W w' := fun W => by
    have h := x_is vk M W hvk bvk lM yM
    rwa [show xv vk M = S by rw [hS]; unfold xv xe; rw [fM]] at h
  have C4 : ∀ W, Calls Try.prog 15 #[.agg (vs .u8 vk), .agg (vs .u8 L)] W fun e w' => e = .returned (.agg (vs .u8 S)) ∧ Fr (fun _ => False) W w' := fun W => by
    have h := x_is vk L W hvk bvk lL yL
    rwa [show xv vk L = S by rw [hS]; unfold xv xe; rw [fL]] at h
  have C5 : ∀ W, Calls Try.prog 22 #[.agg (vs .u8 S)] W fun e w' => e = .returned (.agg (ec e1)) ∧ Fr (fun _ => False) W w' := fun W => by
    rw [he1, ← fe_xv, hS]
    exact from_el (xv vk vu) W (xv_length _ _) (xv_bys _ _)
  have C6 : ∀ W, Calls Try.prog 23 #[.agg (ec e1)] W fun e w' => e = .returned (.agg (vs .u8 S)) ∧ Fr (fun _ => False) W w' := fun W => by
    rw [hS, he1]
    exact ebytes_is (xe vk vu) W (el_xe _ _)
  have k_S : Hid (S.length = 32) := by show _ = _; rw [hS]; exact xv_length _ _
  have k_M : Hid (M.length = 32) := lM
  have k_L : Hid (L.length = 32) := lL
  have GB := Lib.hid gb
  have CA := awake_is
  have k_vk : Hid (vk.length = 32) := hvk
  have k_vu : Hid (vu.length = 32) := hvu
  have hq0 : ∀ W, (Op.equalIn 10000 23 (.agg (vs .u8 S)) (.agg (vs .u8 S))).run Try.prog W = .ok true W := fun W => by rw [eq23 _ _ k_S.out k_S.out W, decide_eq_true rfl]
  obtain ⟨ZK, hZK⟩ : ∃ Z, Z = List.replicate 32 (0 : Int) := ⟨_, rfl⟩
  have zkk : ∀ W : World, (zeroValue 23).run Try.prog W = .ok (.agg (vs .u8 ZK)) W := fun W => by rw [hZK]; exact key_zero W
  have k_ZK : Hid (ZK.length = 32) := by show _ = _; rw [hZK]; rfl
  clear hZK
  clear hvk bvk hvu bvu hS hb gb bb hx hM lM yM fM he0 hL fL lL yL he1
  go_enter Try.func9, Try.ntmps9
  go_upto_region 1 with (fail)
  generalize hW : ((w.alloc (.cells (vs .u8 vk) 23)).alloc (.cells (vs .u8 vu) 23)) = W0
  have HW := Lib.hid (calm2 hW)
  have X0 := Lib.hid HW.out.1
  have X1 := Lib.hid HW.out.2.1
  have F0 : Hid (Fr (fun _ => False) w W0) := HW.out.2.2
  clear hW HW
  refine wp_region_seq (fun b a w' => ∃ g5 : Nat, Fr (fun _ => False) W0 w' ∧ (b 3 = true → W0.heap.size ≤ g5 ∧ w'.heap[g5]? = some (.cells (if b 4 = true then vs .u8 S else vs .u8 ZK) 23 (0, 0))) ∧ (b 4 = true → b 3 = true) ∧ a = ⟨#[.agg (vs .u8 vk), .agg (vs .u8 vu), .pointer (some ⟨w.heap.size, 0, none⟩), .pointer (some ⟨w.heap.size + 1, 0, none⟩), .bool false, if b 3 = true then .pointer (some ⟨g5, 0, none⟩) else undef, undef, undef, if b 0 = true then .agg (vs .u8 vk) else undef, if b 1 = true then .agg (vs .u8 vu) else undef, if b 2 = true then .agg (vs .u8 S) else undef, undef, undef, undef, undef, undef, undef, undef, undef, undef, undef, undef, undef, undef, undef, undef, undef, undef, undef, undef, undef, undef, undef, undef, undef, undef, undef, undef, undef, undef, undef], []⟩) (by kernel_rfl) ?start1 ?step1 ?done1
  case start1 => exact ⟨0, Fr.refl _ _, by simp, by simp, by simp⟩
  case step1 =>
    intro i o b a w1 ho hI hb hr
    obtain ⟨g5, hF, h3, hq3, rfl⟩ := hI
    match i, ho with
    | 0, ho =>
      injection ho with ho
      subst ho
      refine wp_quiet_here _ (quiet_load 23 (.tmp 2) rfl (w.heap.size) rfl 23 _ (0, 0) _ (fun _ h => (Fr.block h _ (Nat.lt_of_lt_of_le (heap_lt X0.out) hF.size) (fun x => x)).trans ((hF.block _ (heap_lt X0.out) (fun x => x)).trans X0.out)) Try.underlying23 rfl (key_info k_vk.out) rfl) (fun w2 hw2 => ?_)
      refine ⟨g5, hF.trans hw2, ?_, ?_, ?_⟩
      · intro hx
        replace hx : b 3 = true := by simpa [upd] using hx
        obtain ⟨k1', k2⟩ := h3 hx
        refine ⟨k1', (hw2.block _ (heap_lt k2) (fun x => x)).trans ?_⟩
        rw [k2]
        simp [upd]
      · simpa [upd] using hq3
      · simp [upd, Act.put]
    | 1, ho =>
      injection ho with ho
      subst ho
      have d0 : b 0 = true := hr 0 (by decide)
      simp only [d0, if_true]
      refine wp_quiet_here _ (quiet_load 23 (.tmp 3) rfl (w.heap.size + 1) rfl 23 _ (0, 0) _ (fun _ h => (Fr.block h _ (Nat.lt_of_lt_of_le (heap_lt X1.out) hF.size) (fun x => x)).trans ((hF.block _ (heap_lt X1.out) (fun x => x)).trans X1.out)) Try.underlying23 rfl (key_info k_vu.out) rfl) (fun w2 hw2 => ?_)
      refine ⟨g5, hF.trans hw2, ?_, ?_, ?_⟩
      · intro hx
        replace hx : b 3 = true := by simpa [upd] using hx
        obtain ⟨k1', k2⟩ := h3 hx
        refine ⟨k1', (hw2.block _ (heap_lt k2) (fun x => x)).trans ?_⟩
        rw [k2]
        simp [upd]
      · simpa [upd] using hq3
      · simp [upd, Act.put, d0]
    | 2, ho =>
      injection ho with ho
      subst ho
      have d0 : b 0 = true := hr 0 (by decide)
      have d1 : b 1 = true := hr 1 (by decide)
      simp only [d0, d1, if_true]
      refine wp_quiet_here (.agg (vs .u8 S)) ?_ (fun w2 hw2 => ?_)
      · go_big_quiet_op
        exact ⟨_, Calm.calls C0, by simp [Act.put]⟩
      refine ⟨g5, hF.trans hw2, ?_, ?_, ?_⟩
      · intro hx
        replace hx : b 3 = true := by simpa [upd] using hx
        obtain ⟨k1', k2⟩ := h3 hx
        refine ⟨k1', (hw2.block _ (heap_lt k2) (fun x => x)).trans ?_⟩
        rw [k2]
        simp [upd]
      · simpa [upd] using hq3
      · simp [upd, Act.put, d0, d1]
    | 3, ho =>
      injection ho with ho
      subst ho
      have d0 : b 0 = true := hr 0 (by decide)
      have d1 : b 1 = true := hr 1 (by decide)
      have d2 : b 2 = true := hr 2 (by decide)
      simp only [d0, d1, d2, if_true]
      refine wp_alloc_any 23 rfl (vs .u8 ZK) zkk ?_
      refine ⟨w1.heap.size, hF.alloc _, ?_, ?_, ?_⟩
      · intro _
        refine ⟨hF.size, (heap_alloc_new w1 _).trans ?_⟩
        have hs : b 4 = false := by
          rcases hbs : b 4 with _ | _
          · rfl
          · rw [hq3 hbs] at hb
            cases hb
        simp [upd, hs]
      · simp [upd]
      · simp [upd, Act.put, d0, d1, d2]
    | 4, ho =>
      injection ho with ho
      subst ho
      have d0 : b 0 = true := hr 0 (by decide)
      have d1 : b 1 = true := hr 1 (by decide)
      have d2 : b 2 = true := hr 2 (by decide)
      have d3 : b 3 = true := hr 3 (by decide)
      simp only [d0, d1, d2, d3, if_true]
      obtain ⟨k1, k2⟩ := h3 d3
      rw [hb] at k2
      simp only [Bool.false_eq_true, if_false] at k2
      refine wp_store_row 23 (.tmp 5) (.tmp 10) rfl g5 (vs .u8 S) rfl rfl 23 _ k2 (key_info k_S.out) (by rw [vs_size, vs_size, k_ZK.out, k_S.out]) (vs_all _ _) ?_
      refine ⟨g5, hF.setRow _ (.inr k1), ?_, ?_, ?_⟩
      · intro _
        refine ⟨k1, (setRow_heap _ _ _ _ _ _ k2).trans ?_⟩
        simp [upd]
      · simp [upd, d3]
      · simp [upd, Act.put, d0, d1, d2, d3]
    | j + 5, ho => exact absurd ho (by simp)
  intro b a W2 hall hI
  obtain ⟨g5, hF, h3, hq3, rfl⟩ := hI
  have t0 : b 0 = true := hall 0 (by simp)
  have t1 : b 1 = true := hall 1 (by simp)
  have t2 : b 2 = true := hall 2 (by simp)
  have t3 : b 3 = true := hall 3 (by simp)
  have t4 : b 4 = true := hall 4 (by simp)
  simp only [t0, t1, t2, t3, t4, if_true, true_implies] at h3 hq3 ⊢
  have F2 : Hid (Fr (fun _ => False) w W2) := F0.out.trans hF
  have X2_0 := Lib.hid ((hF.block _ (heap_lt X0.out) (fun x => x)).trans X0.out)
  have X2_1 := Lib.hid ((hF.block _ (heap_lt X1.out) (fun x => x)).trans X1.out)
  have X2_2 := Lib.hid h3.2
  have Yg5 : w.heap.size ≤ g5 := Nat.le_trans F0.out.size h3.1
  clear hall hF h3 hq3 t0 t1 t2 t3 t4 F0
  go_upto_region 2 with (fail)
  refine wp_region_seq (fun b a w' => ∃ g6 : Nat, Fr (fun _ => False) W2 w' ∧ (b 1 = true → W2.heap.size ≤ g6 ∧ w'.heap[g6]? = some (.cells (if b 2 = true then vs .u8 vu else vs .u8 ZK) 23 (0, 0))) ∧ (b 2 = true → b 1 = true) ∧ a = ⟨#[.agg (vs .u8 vk), .agg (vs .u8 vu), .pointer (some ⟨w.heap.size, 0, none⟩), .pointer (some ⟨w.heap.size + 1, 0, none⟩), .bool false, .pointer (some ⟨g5, 0, none⟩), if b 1 = true then .pointer (some ⟨g6, 0, none⟩) else undef, undef, .agg (vs .u8 vk), .agg (vs .u8 vu), .agg (vs .u8 S), if b 0 = true then .agg (vs .u8 vu) else undef, undef, undef, undef, undef, undef, undef, undef, undef, undef, undef, undef, undef, undef, undef, undef, undef, undef, undef, undef, undef, undef, undef, undef, undef, undef, undef, undef, undef, undef], []⟩) (by kernel_rfl) ?start2 ?step2 ?done2
  case start2 => exact ⟨0, Fr.refl _ _, by simp, by simp, by simp⟩
  case step2 =>
    intro i o b a w1 ho hI hb hr
    obtain ⟨g6, hF, h1, hq1, rfl⟩ := hI
    match i, ho with
    | 0, ho =>
      injection ho with ho
      subst ho
      refine wp_quiet_here _ (quiet_load 23 (.tmp 3) rfl (w.heap.size + 1) rfl 23 _ (0, 0) _ (fun _ h => (Fr.block h _ (Nat.lt_of_lt_of_le (heap_lt X2_1.out) hF.size) (fun x => x)).trans ((hF.block _ (heap_lt X2_1.out) (fun x => x)).trans X2_1.out)) Try.underlying23 rfl (key_info k_vu.out) rfl) (fun w2 hw2 => ?_)
      refine ⟨g6, hF.trans hw2, ?_, ?_, ?_⟩
      · intro hx
        replace hx : b 1 = true := by simpa [upd] using hx
        obtain ⟨k1', k2⟩ := h1 hx
        refine ⟨k1', (hw2.block _ (heap_lt k2) (fun x => x)).trans ?_⟩
        rw [k2]
        simp [upd]
      · simpa [upd] using hq1
      · simp [upd, Act.put]
    | 1, ho =>
      injection ho with ho
      subst ho
      have d0 : b 0 = true := hr 0 (by decide)
      simp only [d0, if_true]
      refine wp_alloc_any 23 rfl (vs .u8 ZK) zkk ?_
      refine ⟨w1.heap.size, hF.alloc _, ?_, ?_, ?_⟩
      · intro _
        refine ⟨hF.size, (heap_alloc_new w1 _).trans ?_⟩
        have hs : b 2 = false := by
          rcases hbs : b 2 with _ | _
          · rfl
          · rw [hq1 hbs] at hb
            cases hb
        simp [upd, hs]
      · simp [upd]
      · simp [upd, Act.put, d0]
    | 2, ho =>
      injection ho with ho
      subst ho
      have d0 : b 0 = true := hr 0 (by decide)
      have d1 : b 1 = true := hr 1 (by decide)
      simp only [d0, d1, if_true]
      obtain ⟨k1, k2⟩ := h1 d1
      rw [hb] at k2
      simp only [Bool.false_eq_true, if_false] at k2
      refine wp_store_row 23 (.tmp 6) (.tmp 11) rfl g6 (vs .u8 vu) rfl rfl 23 _ k2 (key_info k_vu.out) (by rw [vs_size, vs_size, k_ZK.out, k_vu.out]) (vs_all _ _) ?_
      refine ⟨g6, hF.setRow _ (.inr k1), ?_, ?_, ?_⟩
      · intro _
        refine ⟨k1, (setRow_heap _ _ _ _ _ _ k2).trans ?_⟩
        simp [upd]
      · simp [upd, d1]
      · simp [upd, Act.put, d0, d1]
    | j + 3, ho => exact absurd ho (by simp)
  intro b a W3 hall hI
  obtain ⟨g6, hF, h1, hq1, rfl⟩ := hI
  have t0 : b 0 = true := hall 0 (by simp)
  have t1 : b 1 = true := hall 1 (by simp)
  have t2 : b 2 = true := hall 2 (by simp)
  simp only [t0, t1, t2, if_true, true_implies] at h1 hq1 ⊢
  have F3 : Hid (Fr (fun _ => False) w W3) := F2.out.trans hF
  have X3_0 := Lib.hid ((hF.block _ (heap_lt X2_0.out) (fun x => x)).trans X2_0.out)
  have X3_1 := Lib.hid ((hF.block _ (heap_lt X2_1.out) (fun x => x)).trans X2_1.out)
  have X3_2 := Lib.hid ((hF.block _ (heap_lt X2_2.out) (fun x => x)).trans X2_2.out)
  have X3_3 := Lib.hid h1.2
  have Yg6 : w.heap.size ≤ g6 := Nat.le_trans F2.out.size h1.1
  have Dg6_0 : (w.heap.size) ≠ g6 := by
    have q := heap_lt X2_0.out
    have q2 := h1.1
    omega
  have Dg6_1 : (w.heap.size + 1) ≠ g6 := by
    have q := heap_lt X2_1.out
    have q2 := h1.1
    omega
  have Dg6_g5 : (g5) ≠ g6 := by
    have q := heap_lt X2_2.out
    have q2 := h1.1
    omega
  clear hall hF h1 hq1 t0 t1 t2 X2_0 X2_1 X2_2 F2
  go_upto_region 3 with (fail)
  have c1 := Ar.cell (show Ar W3 (w.heap.size + 1) 23 .u8 vu from X3_1.out) GB.out
  have c2 := Ar.cell (show Ar W3 g6 23 .u8 vu from X3_3.out) GB.out
  have c3 := Ar.frozen (show Ar W3 g6 23 .u8 vu from X3_3.out) 31
  have X4_0 : Hid ((W3.setCell ⟨g6, 31, none⟩ (.int .u8 x)).heap[w.heap.size]? = some (.cells (vs .u8 vk) 23 (0, 0))) := (heap_setCell_other _ _ _ _ Dg6_0).trans X3_0.out
  have X4_1 : Hid ((W3.setCell ⟨g6, 31, none⟩ (.int .u8 x)).heap[w.heap.size + 1]? = some (.cells (vs .u8 vu) 23 (0, 0))) := (heap_setCell_other _ _ _ _ Dg6_1).trans X3_1.out
  have X4_2 : Hid ((W3.setCell ⟨g6, 31, none⟩ (.int .u8 x)).heap[g5]? = some (.cells (vs .u8 S) 23 (0, 0))) := (heap_setCell_other _ _ _ _ Dg6_g5).trans X3_2.out
  have X4_3 : Hid ((W3.setCell ⟨g6, 31, none⟩ (.int .u8 x)).heap[g6]? = some (.cells (vs .u8 M) 23 (0, 0))) := by
    have h := Ar.set (show Ar W3 (g6) 23 .u8 vu from X3_3.out) 31 x
    rwa [HM] at h
  have F4 : Hid (Fr (fun _ => False) w (W3.setCell ⟨g6, 31, none⟩ (.int .u8 x))) := F3.out.setCell _ (.inr Yg6)
  go_upto_region 4 with (fail)
  generalize W3.setCell ⟨g6, 31, none⟩ (.int .u8 x) = W4 at *
  clear c1 c2 c3 X3_0 X3_1 X3_2 X3_3 F3
  try simp only [Act.put, List.setIfInBounds_toArray, List.set_cons_succ, List.set_cons_zero]
  refine wp_region_seq (fun b a w' => ∃ g7 : Nat, Fr (fun _ => False) W4 w' ∧ (b 3 = true → W4.heap.size ≤ g7 ∧ w'.heap[g7]? = some (.cells (if b 4 = true then vs .u8 L else vs .u8 ZK) 23 (0, 0))) ∧ (b 4 = true → b 3 = true) ∧ a = ⟨#[.agg (vs .u8 vk), .agg (vs .u8 vu), .pointer (some ⟨w.heap.size, 0, none⟩), .pointer (some ⟨w.heap.size + 1, 0, none⟩), .bool false, .pointer (some ⟨g5, 0, none⟩), .pointer (some ⟨g6, 0, none⟩), if b 3 = true then .pointer (some ⟨g7, 0, none⟩) else undef, .agg (vs .u8 vk), .agg (vs .u8 vu), .agg (vs .u8 S), .agg (vs .u8 vu), .pointer (some ⟨w.heap.size + 1, 31, none⟩), .int .u8 vb, .int .u8 x, .pointer (some ⟨g6, 31, none⟩), if b 0 = true then .agg (vs .u8 vu) else undef, if b 1 = true then .agg (ec e0) else undef, if b 2 = true then .agg (vs .u8 L) else undef, undef, undef, undef, undef, undef, undef, undef, undef, undef, undef, undef, undef, undef, undef, undef, undef, undef, undef, undef, undef, undef, undef], []⟩) (by kernel_rfl) ?start4 ?step4 ?done4
  case start4 => exact ⟨0, Fr.refl _ _, by simp, by simp, by simp⟩
  case step4 =>
    intro i o b a w1 ho hI hb hr
    obtain ⟨g7, hF, h3, hq3, rfl⟩ := hI
    match i, ho with
    | 0, ho =>
      injection ho with ho
      subst ho
      refine wp_quiet_here _ (quiet_load 23 (.tmp 3) rfl (w.heap.size + 1) rfl 23 _ (0, 0) _ (fun _ h => (Fr.block h _ (Nat.lt_of_lt_of_le (heap_lt X4_1.out) hF.size) (fun x => x)).trans ((hF.block _ (heap_lt X4_1.out) (fun x => x)).trans X4_1.out)) Try.underlying23 rfl (key_info k_vu.out) rfl) (fun w2 hw2 => ?_)
      refine ⟨g7, hF.trans hw2, ?_, ?_, ?_⟩
      · intro hx
        replace hx : b 3 = true := by simpa [upd] using hx
        obtain ⟨k1', k2⟩ := h3 hx
        refine ⟨k1', (hw2.block _ (heap_lt k2) (fun x => x)).trans ?_⟩
        rw [k2]
        simp [upd]
      · simpa [upd] using hq3
      · simp [upd, Act.put]
    | 1, ho =>
      injection ho with ho
      subst ho
      have d0 : b 0 = true := hr 0 (by decide)
      simp only [d0, if_true]
      refine wp_quiet_here (.agg (ec e0)) ?_ (fun w2 hw2 => ?_)
      · go_big_quiet_op
        exact ⟨_, Calm.calls C1, by simp [Act.put]⟩
      refine ⟨g7, hF.trans hw2, ?_, ?_, ?_⟩
      · intro hx
        replace hx : b 3 = true := by simpa [upd] using hx
        obtain ⟨k1', k2⟩ := h3 hx
        refine ⟨k1', (hw2.block _ (heap_lt k2) (fun x => x)).trans ?_⟩
        rw [k2]
        simp [upd]
      · simpa [upd] using hq3
      · simp [upd, Act.put, d0]
    | 2, ho =>
      injection ho with ho
      subst ho
      have d0 : b 0 = true := hr 0 (by decide)
      have d1 : b 1 = true := hr 1 (by decide)
      simp only [d0, d1, if_true]
      refine wp_quiet_here (.agg (vs .u8 L)) ?_ (fun w2 hw2 => ?_)
      · go_big_quiet_op
        exact ⟨_, Calm.calls C2, by simp [Act.put]⟩
      refine ⟨g7, hF.trans hw2, ?_, ?_, ?_⟩
      · intro hx
        replace hx : b 3 = true := by simpa [upd] using hx
        obtain ⟨k1', k2⟩ := h3 hx
        refine ⟨k1', (hw2.block _ (heap_lt k2) (fun x => x)).trans ?_⟩
        rw [k2]
        simp [upd]
      · simpa [upd] using hq3
      · simp [upd, Act.put, d0, d1]
    | 3, ho =>
      injection ho with ho
      subst ho
      have d0 : b 0 = true := hr 0 (by decide)
      have d1 : b 1 = true := hr 1 (by decide)
      have d2 : b 2 = true := hr 2 (by decide)
      simp only [d0, d1, d2, if_true]
      refine wp_alloc_any 23 rfl (vs .u8 ZK) zkk ?_
      refine ⟨w1.heap.size, hF.alloc _, ?_, ?_, ?_⟩
      · intro _
        refine ⟨hF.size, (heap_alloc_new w1 _).trans ?_⟩
        have hs : b 4 = false := by
          rcases hbs : b 4 with _ | _
          · rfl
          · rw [hq3 hbs] at hb
            cases hb
        simp [upd, hs]
      · simp [upd]
      · simp [upd, Act.put, d0, d1, d2]
    | 4, ho =>
      injection ho with ho
      subst ho
      have d0 : b 0 = true := hr 0 (by decide)
      have d1 : b 1 = true := hr 1 (by decide)
      have d2 : b 2 = true := hr 2 (by decide)
      have d3 : b 3 = true := hr 3 (by decide)
      simp only [d0, d1, d2, d3, if_true]
      obtain ⟨k1, k2⟩ := h3 d3
      rw [hb] at k2
      simp only [Bool.false_eq_true, if_false] at k2
      refine wp_store_row 23 (.tmp 7) (.tmp 18) rfl g7 (vs .u8 L) rfl rfl 23 _ k2 (key_info k_L.out) (by rw [vs_size, vs_size, k_ZK.out, k_L.out]) (vs_all _ _) ?_
      refine ⟨g7, hF.setRow _ (.inr k1), ?_, ?_, ?_⟩
      · intro _
        refine ⟨k1, (setRow_heap _ _ _ _ _ _ k2).trans ?_⟩
        simp [upd]
      · simp [upd, d3]
      · simp [upd, Act.put, d0, d1, d2, d3]
    | j + 5, ho => exact absurd ho (by simp)
  intro b a W5 hall hI
  obtain ⟨g7, hF, h3, hq3, rfl⟩ := hI
  have t0 : b 0 = true := hall 0 (by simp)
  have t1 : b 1 = true := hall 1 (by simp)
  have t2 : b 2 = true := hall 2 (by simp)
  have t3 : b 3 = true := hall 3 (by simp)
  have t4 : b 4 = true := hall 4 (by simp)
  simp only [t0, t1, t2, t3, t4, if_true, true_implies] at h3 hq3 ⊢
  have F5 : Hid (Fr (fun _ => False) w W5) := F4.out.trans hF
  have X5_0 := Lib.hid ((hF.block _ (heap_lt X4_0.out) (fun x => x)).trans X4_0.out)
  have X5_1 := Lib.hid ((hF.block _ (heap_lt X4_1.out) (fun x => x)).trans X4_1.out)
  have X5_2 := Lib.hid ((hF.block _ (heap_lt X4_2.out) (fun x => x)).trans X4_2.out)
  have X5_3 := Lib.hid ((hF.block _ (heap_lt X4_3.out) (fun x => x)).trans X4_3.out)
  have X5_4 := Lib.hid h3.2
  have Yg7 : w.heap.size ≤ g7 := Nat.le_trans F4.out.size h3.1
  clear hall hF h3 hq3 t0 t1 t2 t3 t4 X4_0 X4_1 X4_2 X4_3 F4
  go_upto_region 5 with (fail)
  refine wp_region_quiet (C := Calm W5) (by kernel_rfl) (by kernel_rfl) (Calm.start _ _ (Fr.refl _ _)) ?_
  refine BigFrame.wpQuiet_want rfl fun K hK => quiet_load 23 (.tmp 2) rfl (w.heap.size) rfl 23 _ (0, 0) _ (fun _ h => Calm.at X5_0.out h) Try.underlying23 rfl (key_info k_vk.out) (hK _ ?_)
  refine BigFrame.wpQuiet_want rfl fun K hK => quiet_load 23 (.tmp 6) rfl (g6) rfl 23 _ (0, 0) _ (fun _ h => Calm.at X5_3.out h) Try.underlying23 rfl (key_info k_M.out) (hK _ ?_)
  refine BigFrame.wpQuiet_want rfl fun K hK => ?_
  try simp only [Act.put, List.setIfInBounds_toArray, List.set_cons_succ, List.set_cons_zero]
  go_big_quiet_op
  refine ⟨_, Calm.calls C3, hK _ ?_⟩
  refine BigFrame.wpQuiet_want rfl fun K hK => quiet_load 23 (.tmp 5) rfl (g5) rfl 23 _ (0, 0) _ (fun _ h => Calm.at X5_2.out h) Try.underlying23 rfl (key_info k_S.out) (hK _ ?_)
  refine BigFrame.wpQuiet_want rfl fun K hK => ?_
  try simp only [Act.put, List.setIfInBounds_toArray, List.set_cons_succ, List.set_cons_zero]
  go_big_quiet_op
  first
    | refine ⟨_, fun _ _ => rfl, hK _ ?_⟩
    | refine hK _ ?_
  refine BigFrame.wpQuiet_want rfl fun K hK => ?_
  try simp only [Act.put, List.setIfInBounds_toArray, List.set_cons_succ, List.set_cons_zero]
  go_big_quiet_op
  refine hK _ ?_
  refine BigFrame.wpQuiet_want rfl fun K hK => quiet_load 23 (.tmp 2) rfl (w.heap.size) rfl 23 _ (0, 0) _ (fun _ h => Calm.at X5_0.out h) Try.underlying23 rfl (key_info k_vk.out) (hK _ ?_)
  refine BigFrame.wpQuiet_want rfl fun K hK => quiet_load 23 (.tmp 7) rfl (g7) rfl 23 _ (0, 0) _ (fun _ h => Calm.at X5_4.out h) Try.underlying23 rfl (key_info k_L.out) (hK _ ?_)
  refine BigFrame.wpQuiet_want rfl fun K hK => ?_
  try simp only [Act.put, List.setIfInBounds_toArray, List.set_cons_succ, List.set_cons_zero]
  go_big_quiet_op
  refine ⟨_, Calm.calls C4, hK _ ?_⟩
  refine BigFrame.wpQuiet_want rfl fun K hK => quiet_load 23 (.tmp 5) rfl (g5) rfl 23 _ (0, 0) _ (fun _ h => Calm.at X5_2.out h) Try.underlying23 rfl (key_info k_S.out) (hK _ ?_)
  refine BigFrame.wpQuiet_want rfl fun K hK => ?_
  try simp only [Act.put, List.setIfInBounds_toArray, List.set_cons_succ, List.set_cons_zero]
  go_big_quiet_op
  first
    | refine ⟨_, fun _ _ => rfl, hK _ ?_⟩
    | refine hK _ ?_
  refine BigFrame.wpQuiet_want rfl fun K hK => ?_
  try simp only [Act.put, List.setIfInBounds_toArray, List.set_cons_succ, List.set_cons_zero]
  go_big_quiet_op
  first
    | refine ⟨_, fun _ _ => rfl, hK _ ?_⟩
    | refine hK _ ?_
  refine BigFrame.wpQuiet_want rfl fun K hK => ?_
  try simp only [Act.put, List.setIfInBounds_toArray, List.set_cons_succ, List.set_cons_zero]
  go_big_quiet_op
  refine hK _ ?_
  refine BigFrame.wpQuiet_want rfl fun K hK => quiet_load 23 (.tmp 5) rfl (g5) rfl 23 _ (0, 0) _ (fun _ h => Calm.at X5_2.out h) Try.underlying23 rfl (key_info k_S.out) (hK _ ?_)
  refine BigFrame.wpQuiet_want rfl fun K hK => ?_
  try simp only [Act.put, List.setIfInBounds_toArray, List.set_cons_succ, List.set_cons_zero]
  go_big_quiet_op
  refine ⟨_, Calm.calls C5, hK _ ?_⟩
  refine BigFrame.wpQuiet_want rfl fun K hK => ?_
  try simp only [Act.put, List.setIfInBounds_toArray, List.set_cons_succ, List.set_cons_zero]
  go_big_quiet_op
  refine ⟨_, Calm.calls C6, hK _ ?_⟩
  refine BigFrame.wpQuiet_want rfl fun K hK => quiet_load 23 (.tmp 5) rfl (g5) rfl 23 _ (0, 0) _ (fun _ h => Calm.at X5_2.out h) Try.underlying23 rfl (key_info k_S.out) (hK _ ?_)
  refine BigFrame.wpQuiet_want rfl fun K hK => ?_
  try simp only [Act.put, List.setIfInBounds_toArray, List.set_cons_succ, List.set_cons_zero]
  go_big_quiet_op
  first
    | refine ⟨_, fun _ _ => rfl, hK _ ?_⟩
    | refine hK _ ?_
  refine BigFrame.wpQuiet_want rfl fun K hK => ?_
  try simp only [Act.put, List.setIfInBounds_toArray, List.set_cons_succ, List.set_cons_zero]
  go_big_quiet_op
  first
    | refine ⟨_, fun _ _ => rfl, hK _ ?_⟩
    | refine hK _ ?_
  refine BigFrame.wpQuiet_want rfl fun K hK => ?_
  try simp only [Act.put, List.setIfInBounds_toArray, List.set_cons_succ, List.set_cons_zero]
  go_big_quiet_op
  refine hK _ ?_
  refine BigFrame.wpQuiet_want rfl fun K hK => ?_
  try simp only [Act.put, List.setIfInBounds_toArray, List.set_cons_succ, List.set_cons_zero]
  go_big_quiet_op
  refine ⟨_, Calm.calls CA, hK _ ?_⟩
  refine BigFrame.wpQuiet_want rfl fun K hK => ?_
  try simp only [Act.put, List.setIfInBounds_toArray, List.set_cons_succ, List.set_cons_zero]
  go_big_quiet_op
  first
    | refine ⟨_, fun _ _ => rfl, hK _ ?_⟩
    | refine hK _ ?_
  refine BigFrame.wpQuiet_want rfl fun K hK => ?_
  try simp only [Act.put, List.setIfInBounds_toArray, List.set_cons_succ, List.set_cons_zero]
  go_big_quiet_op
  refine hK _ ?_
  refine wpQuiet_nil ?_
  intro w9 hw9
  have F9 : Hid (Fr (fun _ => False) w w9) := F5.out.trans hw9
  clear hw9
  try simp only [Act.put, List.setIfInBounds_toArray, List.set_cons_succ, List.set_cons_zero]
  go_wp2
  go_ret
  exact ⟨rfl, F9.out⟩

set_option maxRecDepth 100000 in
theorem law_points_lifted (os : Os) (started : os.Started) (H : Type) (enc : TypeId × Value → H) :
    ReturnsInHanded {} Try.checked os 9 .any (Rows.curvePointsSpec.pre6 enc Try.prog Try.f9 Rows.curvePointsRow.domain false) (Rows.curvePointsSpec.post enc Try.prog Try.f9 false true false false) := by
  refine returnsInHanded_of_change (C := Try.checked) own started (by kernel_rfl) Try.func9
    (ChangeSpec.witness6 (enc := enc) (C := Try.checked) false ⟨#[], #[.agg (vs .u8 (List.replicate 32 0)), .agg (vs .u8 (List.replicate 32 0))], []⟩ 8 (by kernel_rfl) (by kernel_rfl) (by kernel_rfl) (by kernel_rfl)) ?_
  intro W base args ds gs before hval0 hW hcnd _
  have hval : ∀ (j : Nat) t v, Try.f9.params[j]? = some t → args[j]? = some v → Value.okWide Try.prog W .any base t v := hval0
  have hW' := hW
  obtain ⟨p, q, hA0, hV, rfl, hfz, hnd⟩ := hW
  have hA : DataW.TrodAll enc Try.prog W 0 (fun _ => true) true Try.f9.params.toList args.toList ds p := hA0
  rw [Try.params9] at hA hval
  obtain ⟨v0, vs0, d0, ds0, p0, q0, hargs, rfl, rfl, h0, r0⟩ := trodAll_cons hA
  obtain ⟨v1, vs1, d1, ds1, p1, q1, rfl, rfl, rfl, h1, r1⟩ := trodAll_cons r0
  obtain ⟨rfl, rfl, rfl⟩ := trodAll_nil r1
  obtain rfl : args = #[v0, v1] := by cases args; simp_all
  obtain ⟨rfl, rfl⟩ := trodVars_none hV
  obtain ⟨l0, rfl, e0, b0⟩ := open_key (hval 0 23 v0 rfl rfl) h0
  obtain ⟨l1, rfl, e1, b1⟩ := open_key (hval 1 23 v1 rfl rfl) h1
  clear hA0 hval0
  refine (law_points_any l0 l1 W e0 b0 e1 b1).mono fun e W' ⟨he, hg⟩ => ?_
  subst he
  exact ⟨_, rfl, post_true rfl hW' (by kernel_rfl) rfl rfl hg⟩

theorem curvePoints_holds : Rows.CurvePointsSaid :=
  OpenClaim.holds_of_wide 9 Try.f9 rfl rfl rfl rfl rfl rfl rfl ⟨rfl, rfl, rfl, rfl, rfl⟩ rfl rfl rfl rfl rfl (by kernel_rfl) Try.func9 (by kernel_rfl)
    (of_decide_eq_true (by kernel_rfl)) (by unfold Func.isWrapper; first | (rw [if_pos (by decide +kernel)]; kernel_rfl) | (rw [if_neg (by decide +kernel)]; exact ⟨rfl, rfl⟩))
    (fun os started H enc _ => law_points_lifted os started H enc)
#print axioms curvePoints_holds
end Go.Proofs.Ytbkbodcncjhcmaa
