/- PolyEmpty answers true for all keys, and its argument reads behind the call as it did: the given statement PolyEmptySaid. No condition. -/
import Derived.Test.YtcoggpedpclkaaaLi
namespace Go.Proofs.Ytcoggpedpclkaaa
set_option linter.unusedSimpArgs false
set_option linter.unusedVariables false
open Go.ChangeShapes Go.WideShapes Go.ChangeAt Go.RowKit

theorem tag_nil {k : List Int} (hk : k.length = 32) (hb : Bys k) : tag k [] = k.drop 16 := by
  have h := les_vl (k.drop 16) (hb.drop 16)
  rw [List.length_drop, hk] at h
  rw [tag, hsh_nil, Int.zero_add]
  exact h
set_option maxRecDepth 100000 in
set_option maxHeartbeats 8000000 in
theorem law_empty_any (k0 : List Int) (w : World) (lk0 : k0.length = 32) (bk0 : Bys k0) :
    Calls Try.prog 7 #[.agg (vs .u8 k0)] w fun e w' => e = .returned (.bool true) ∧ Fr (fun _ => False) w w' := by
  obtain ⟨t, ht⟩ : ∃ t, t = k0.drop 16 := ⟨_, rfl⟩
  have lt : t.length = 16 := by rw [ht, List.length_drop, lk0]
  have HE : ∀ W, (Op.equalIn 10000 26 (.agg (vs .u8 t)) (.agg (vs .u8 t))).run Try.prog W = .ok true W := fun W => (eq26 t t lt lt W).trans (by rw [decide_eq_true rfl])
  have et := tag_nil lk0 bk0
  rw [← ht] at et
  have C15 : ∀ W, Calls Try.prog 15 #[.agg (vs .u8 k0), .slice none 0 0] W fun e w' => e = .returned (.agg (vs .u8 t)) ∧ Fr (fun _ => False) W w' := fun W => by
    have h := tag_is k0 0 none 0 0 [] W lk0 bk0 (Sl.nil _ _) (fun h => absurd rfl h)
    rwa [et] at h
  have C24 : ∀ W, Calls Try.prog 24 #[.agg (vs .u8 k0)] W fun e w' => e = .returned (.agg (vs .u8 t)) ∧ Fr (fun _ => False) W w' := fun W => by rw [ht]; exact tail_is k0 W lk0 bk0
  have HK := Lib.hid (And.intro lk0 bk0)
  have s23 := Lib.hid (keys_info lk0)
  have ET := Lib.hid et
  clear ht lt et lk0 bk0
  go_enter Try.func7, Try.ntmps7
  go_upto_region 1 with (fail)
  have X0 : Hid ((w.alloc (.cells (vs .u8 k0) 23)).heap[w.heap.size]? = some (.cells (vs .u8 k0) 23 (0, 0))) := heap_alloc_new w _
  have F0 : Hid (Fr (fun _ => False) w (w.alloc (.cells (vs .u8 k0) 23))) := (Fr.refl _ _).alloc _
  generalize w.alloc (.cells (vs .u8 k0) 23) = W0 at *
  refine wp_region_invG (fun b a w' => ∃ g13 : Nat, Fr (fun _ => False) W0 w' ∧ (b 10 = true → W0.heap.size ≤ g13 ∧ PolyAt w' g13 k0 []) ∧ a = ⟨#[.agg (vs .u8 k0), .pointer (some ⟨w.heap.size, 0, none⟩), if b 16 = true then .bool true else .bool false, if b 0 = true then .bool true else undef, if b 1 = true then .bool true else undef, if b 2 = true then .agg (vs .u8 k0) else undef, if b 3 = true then .agg (vs .u8 t) else undef, if b 4 = true then .agg (vs .u8 k0) else undef, if b 5 = true then .agg (vs .u8 t) else undef, if b 6 = true then .bool true else undef, if b 7 = true then .bool true else undef, if b 8 = true then .bool true else undef, if b 9 = true then .agg (vs .u8 k0) else undef, if b 10 = true then .pointer (some ⟨g13, 0, none⟩) else undef, if b 11 = true then .agg (vs .u8 t) else undef, if b 12 = true then .agg (vs .u8 k0) else undef, if b 13 = true then .agg (vs .u8 t) else undef, if b 14 = true then .bool true else undef, if b 15 = true then .bool true else undef], []⟩) (by kernel_rfl) (by kernel_rfl) ?start1 ?step1 ?done1
  case start1 => exact ⟨0, ⟨rfl, rfl, rfl, Nat.le_refl _, fun _ _ _ => rfl⟩, fun h => by simp at h, by simp⟩
  case step1 =>
    intro i5 o5 b a w1 ho hI hb hr
    obtain ⟨g13, hF, h10, rfl⟩ := hI
    match i5, ho with
    | 0, ho =>
      injection ho with ho
      subst ho
      refine ⟨by kernel_rfl, ?_⟩
      refine wp_quiet_here (.bool true) (quiet_call 18 #[] (.bool true) (fun _ => by kernel_rfl) (fun W h => Calm.calls works_is W h) rfl) (fun w2 hw2 => ?_)
      refine ⟨g13, hF.trans hw2, ?_, ?_⟩
      · intro hx
        have hy := h10 (by simpa [upd] using hx)
        exact ⟨hy.1, hy.2.fr hw2 (fun x => x)⟩
      · simp [upd, Act.put]
    | 1, ho =>
      injection ho with ho
      subst ho
      simp [Region.binds] at hr
      have d0 : b 0 = true := by simp only [hr]
      simp only [hr, if_true]
      refine ⟨by kernel_rfl, ?_⟩
      refine wp_quiet_here (.bool true) (BigFrame.quiet_move _ rfl rfl) (fun w2 hw2 => ?_)
      refine ⟨g13, hF.trans hw2, ?_, ?_⟩
      · intro hx
        have hy := h10 (by simpa [upd] using hx)
        exact ⟨hy.1, hy.2.fr hw2 (fun x => x)⟩
      · simp [upd, Act.put, hr]
    | 2, ho =>
      injection ho with ho
      subst ho
      simp [Region.binds] at hr
      have d1 : b 1 = true := by simp only [hr]
      simp only [hr, if_true]
      refine ⟨by kernel_rfl, ?_⟩
      refine wp_quiet_here (.agg (vs .u8 k0)) (quiet_load 23 (.tmp 1) rfl (w.heap.size) rfl 23 _ (0, 0) _ (fun _ h => Calm.at (Calm.at X0.out hF) h) Try.underlying23 rfl s23.out rfl) (fun w2 hw2 => ?_)
      refine ⟨g13, hF.trans hw2, ?_, ?_⟩
      · intro hx
        have hy := h10 (by simpa [upd] using hx)
        exact ⟨hy.1, hy.2.fr hw2 (fun x => x)⟩
      · simp [upd, Act.put, hr]
    | 3, ho =>
      injection ho with ho
      subst ho
      simp [Region.binds] at hr
      have d1 : b 1 = true := by simp only [hr]
      have d2 : b 2 = true := by simp only [hr]
      simp only [hr, if_true]
      refine ⟨by kernel_rfl, ?_⟩
      refine wp_quiet_here (.agg (vs .u8 t)) (quiet_call 15 #[.agg (vs .u8 k0), .slice none 0 0] (.agg (vs .u8 t)) (fun _ => by kernel_rfl) (fun W h => Calm.calls C15 W h) rfl) (fun w2 hw2 => ?_)
      refine ⟨g13, hF.trans hw2, ?_, ?_⟩
      · intro hx
        have hy := h10 (by simpa [upd] using hx)
        exact ⟨hy.1, hy.2.fr hw2 (fun x => x)⟩
      · simp [upd, Act.put, hr]
    | 4, ho =>
      injection ho with ho
      subst ho
      simp [Region.binds] at hr
      have d1 : b 1 = true := by simp only [hr]
      simp only [hr, if_true]
      refine ⟨by kernel_rfl, ?_⟩
      refine wp_quiet_here (.agg (vs .u8 k0)) (quiet_load 23 (.tmp 1) rfl (w.heap.size) rfl 23 _ (0, 0) _ (fun _ h => Calm.at (Calm.at X0.out hF) h) Try.underlying23 rfl s23.out rfl) (fun w2 hw2 => ?_)
      refine ⟨g13, hF.trans hw2, ?_, ?_⟩
      · intro hx
        have hy := h10 (by simpa [upd] using hx)
        exact ⟨hy.1, hy.2.fr hw2 (fun x => x)⟩
      · simp [upd, Act.put, hr]
    | 5, ho =>
      injection ho with ho
      subst ho
      simp [Region.binds] at hr
      have d1 : b 1 = true := by simp only [hr]
      have d3 : b 3 = true := by simp only [hr]
      have d4 : b 4 = true := by simp only [hr]
      simp only [hr, if_true]
      refine ⟨by kernel_rfl, ?_⟩
      refine wp_quiet_here (.agg (vs .u8 t)) (quiet_call 24 #[.agg (vs .u8 k0)] (.agg (vs .u8 t)) (fun _ => by kernel_rfl) (fun W h => Calm.calls C24 W h) rfl) (fun w2 hw2 => ?_)
      refine ⟨g13, hF.trans hw2, ?_, ?_⟩
      · intro hx
        have hy := h10 (by simpa [upd] using hx)
        exact ⟨hy.1, hy.2.fr hw2 (fun x => x)⟩
      · simp [upd, Act.put, hr]
    | 6, ho =>
      injection ho with ho
      subst ho
      simp [Region.binds] at hr
      have d1 : b 1 = true := by simp only [hr]
      have d3 : b 3 = true := by simp only [hr]
      have d5 : b 5 = true := by simp only [hr]
      simp only [hr, if_true]
      refine ⟨by kernel_rfl, ?_⟩
      refine wp_quiet_here (.bool true) ?_ (fun w2 hw2 => ?_)
      · go_big_quiet_op
        first
          | (simp [Act.put]; done)
          | exact ⟨_, fun _ _ => rfl, by simp [Act.put] <;> assumption⟩
      refine ⟨g13, hF.trans hw2, ?_, ?_⟩
      · intro hx
        have hy := h10 (by simpa [upd] using hx)
        exact ⟨hy.1, hy.2.fr hw2 (fun x => x)⟩
      · simp [upd, Act.put, hr]
    | 7, ho =>
      injection ho with ho
      subst ho
      simp [Region.binds] at hr
      have d1 : b 1 = true := by simp only [hr]
      have d6 : b 6 = true := by simp only [hr]
      simp only [hr, if_true]
      refine ⟨by kernel_rfl, ?_⟩
      refine wp_quiet_here (.bool true) ?_ (fun w2 hw2 => ?_)
      · go_big_quiet_op
        first
          | (simp [Act.put]; done)
          | exact ⟨_, fun _ _ => rfl, by simp [Act.put] <;> assumption⟩
      refine ⟨g13, hF.trans hw2, ?_, ?_⟩
      · intro hx
        have hy := h10 (by simpa [upd] using hx)
        exact ⟨hy.1, hy.2.fr hw2 (fun x => x)⟩
      · simp [upd, Act.put, hr]
    | 8, ho =>
      injection ho with ho
      subst ho
      simp [Region.binds] at hr
      have d5 : b 5 = true := by simp only [hr]
      have d7 : b 7 = true := by simp only [hr]
      simp only [hr, if_true]
      refine ⟨by kernel_rfl, ?_⟩
      refine wp_quiet_here (.bool true) (BigFrame.quiet_move _ rfl rfl) (fun w2 hw2 => ?_)
      refine ⟨g13, hF.trans hw2, ?_, ?_⟩
      · intro hx
        have hy := h10 (by simpa [upd] using hx)
        exact ⟨hy.1, hy.2.fr hw2 (fun x => x)⟩
      · simp [upd, Act.put, hr]
    | 9, ho =>
      injection ho with ho
      subst ho
      simp [Region.binds] at hr
      have d8 : b 8 = true := by simp only [hr]
      simp only [hr, if_true]
      refine ⟨by kernel_rfl, ?_⟩
      refine wp_quiet_here (.agg (vs .u8 k0)) (quiet_load 23 (.tmp 1) rfl (w.heap.size) rfl 23 _ (0, 0) _ (fun _ h => Calm.at (Calm.at X0.out hF) h) Try.underlying23 rfl s23.out rfl) (fun w2 hw2 => ?_)
      refine ⟨g13, hF.trans hw2, ?_, ?_⟩
      · intro hx
        have hy := h10 (by simpa [upd] using hx)
        exact ⟨hy.1, hy.2.fr hw2 (fun x => x)⟩
      · simp [upd, Act.put, hr]
    | 10, ho =>
      injection ho with ho
      subst ho
      simp [Region.binds] at hr
      have d8 : b 8 = true := by simp only [hr]
      have d9 : b 9 = true := by simp only [hr]
      simp only [hr, if_true]
      refine ⟨by kernel_rfl, ?_⟩
      refine wp_enter 19 #[.agg (vs .u8 k0)] (by kernel_rfl) ((new_is k0 w1 HK.out.1 HK.out.2).mono ?_)
      rintro e w2 ⟨gN, hgN, rfl, hfact, hfN⟩
      refine ⟨gN, hF.trans hfN, ?_, ?_⟩
      · exact fun _ => ⟨Nat.le_trans hF.size hgN, hfact⟩
      · simp [upd, Act.put, hr]
    | 11, ho =>
      injection ho with ho
      subst ho
      simp [Region.binds] at hr
      have d8 : b 8 = true := by simp only [hr]
      have d10 : b 10 = true := by simp only [hr]
      simp only [hr, if_true]
      refine ⟨by kernel_rfl, ?_⟩
      refine wp_quiet_here (.agg (vs .u8 t)) (quiet_call 21 #[.pointer (some ⟨g13, 0, none⟩)] (.agg (vs .u8 t)) (fun _ => by kernel_rfl) (fun W h => ((by rw [← ET.out]; exact sum_is k0 [] g13 W HK.out.1 HK.out.2 ((h10 d10).2.fr h (fun x => x)) : Calls Try.prog 21 #[.pointer (some ⟨g13, 0, none⟩)] W fun e w' => e = .returned (.agg (vs .u8 t)) ∧ Fr (fun _ => False) W w')).mono (fun e w' hh => ⟨hh.1, Fr.trans h hh.2⟩)) rfl) (fun w2 hw2 => ?_)
      refine ⟨g13, hF.trans hw2, ?_, ?_⟩
      · intro hx
        have hy := h10 (by simpa [upd] using hx)
        exact ⟨hy.1, hy.2.fr hw2 (fun x => x)⟩
      · simp [upd, Act.put, hr]
    | 12, ho =>
      injection ho with ho
      subst ho
      simp [Region.binds] at hr
      have d8 : b 8 = true := by simp only [hr]
      simp only [hr, if_true]
      refine ⟨by kernel_rfl, ?_⟩
      refine wp_quiet_here (.agg (vs .u8 k0)) (quiet_load 23 (.tmp 1) rfl (w.heap.size) rfl 23 _ (0, 0) _ (fun _ h => Calm.at (Calm.at X0.out hF) h) Try.underlying23 rfl s23.out rfl) (fun w2 hw2 => ?_)
      refine ⟨g13, hF.trans hw2, ?_, ?_⟩
      · intro hx
        have hy := h10 (by simpa [upd] using hx)
        exact ⟨hy.1, hy.2.fr hw2 (fun x => x)⟩
      · simp [upd, Act.put, hr]
    | 13, ho =>
      injection ho with ho
      subst ho
      simp [Region.binds] at hr
      have d8 : b 8 = true := by simp only [hr]
      have d11 : b 11 = true := by simp only [hr]
      have d12 : b 12 = true := by simp only [hr]
      simp only [hr, if_true]
      refine ⟨by kernel_rfl, ?_⟩
      refine wp_quiet_here (.agg (vs .u8 t)) (quiet_call 24 #[.agg (vs .u8 k0)] (.agg (vs .u8 t)) (fun _ => by kernel_rfl) (fun W h => Calm.calls C24 W h) rfl) (fun w2 hw2 => ?_)
      refine ⟨g13, hF.trans hw2, ?_, ?_⟩
      · intro hx
        have hy := h10 (by simpa [upd] using hx)
        exact ⟨hy.1, hy.2.fr hw2 (fun x => x)⟩
      · simp [upd, Act.put, hr]
    | 14, ho =>
      injection ho with ho
      subst ho
      simp [Region.binds] at hr
      have d8 : b 8 = true := by simp only [hr]
      have d11 : b 11 = true := by simp only [hr]
      have d13 : b 13 = true := by simp only [hr]
      simp only [hr, if_true]
      refine ⟨by kernel_rfl, ?_⟩
      refine wp_quiet_here (.bool true) ?_ (fun w2 hw2 => ?_)
      · go_big_quiet_op
        first
          | (simp [Act.put]; done)
          | exact ⟨_, fun _ _ => rfl, by simp [Act.put] <;> assumption⟩
      refine ⟨g13, hF.trans hw2, ?_, ?_⟩
      · intro hx
        have hy := h10 (by simpa [upd] using hx)
        exact ⟨hy.1, hy.2.fr hw2 (fun x => x)⟩
      · simp [upd, Act.put, hr]
    | 15, ho =>
      injection ho with ho
      subst ho
      simp [Region.binds] at hr
      have d8 : b 8 = true := by simp only [hr]
      have d14 : b 14 = true := by simp only [hr]
      simp only [hr, if_true]
      refine ⟨by kernel_rfl, ?_⟩
      refine wp_quiet_here (.bool true) ?_ (fun w2 hw2 => ?_)
      · go_big_quiet_op
        first
          | (simp [Act.put]; done)
          | exact ⟨_, fun _ _ => rfl, by simp [Act.put] <;> assumption⟩
      refine ⟨g13, hF.trans hw2, ?_, ?_⟩
      · intro hx
        have hy := h10 (by simpa [upd] using hx)
        exact ⟨hy.1, hy.2.fr hw2 (fun x => x)⟩
      · simp [upd, Act.put, hr]
    | 16, ho =>
      injection ho with ho
      subst ho
      simp [Region.binds] at hr
      have d0 : b 0 = true := by simp only [hr]
      have d1 : b 1 = true := by simp only [hr]
      have d2 : b 2 = true := by simp only [hr]
      have d3 : b 3 = true := by simp only [hr]
      have d4 : b 4 = true := by simp only [hr]
      have d5 : b 5 = true := by simp only [hr]
      have d6 : b 6 = true := by simp only [hr]
      have d7 : b 7 = true := by simp only [hr]
      have d8 : b 8 = true := by simp only [hr]
      have d9 : b 9 = true := by simp only [hr]
      have d10 : b 10 = true := by simp only [hr]
      have d11 : b 11 = true := by simp only [hr]
      have d12 : b 12 = true := by simp only [hr]
      have d13 : b 13 = true := by simp only [hr]
      have d14 : b 14 = true := by simp only [hr]
      have d15 : b 15 = true := by simp only [hr]
      simp only [hr, if_true]
      refine ⟨by kernel_rfl, ?_⟩
      refine wp_quiet_here (.bool true) (BigFrame.quiet_assign _ rfl rfl) (fun w2 hw2 => ?_)
      refine ⟨g13, hF.trans hw2, ?_, ?_⟩
      · intro hx
        have hy := h10 (by simpa [upd] using hx)
        exact ⟨hy.1, hy.2.fr hw2 (fun x => x)⟩
      · simp [upd, Act.put, hr]
    | j + 17, ho => exact absurd ho (by simp)
  intro b a w9 hall hI
  obtain ⟨g13, hF, h10, rfl⟩ := hI
  have t0 : b 0 = true := hall 0 (by simp)
  have t1 : b 1 = true := hall 1 (by simp)
  have t2 : b 2 = true := hall 2 (by simp)
  have t3 : b 3 = true := hall 3 (by simp)
  have t4 : b 4 = true := hall 4 (by simp)
  have t5 : b 5 = true := hall 5 (by simp)
  have t6 : b 6 = true := hall 6 (by simp)
  have t7 : b 7 = true := hall 7 (by simp)
  have t8 : b 8 = true := hall 8 (by simp)
  have t9 : b 9 = true := hall 9 (by simp)
  have t10 : b 10 = true := hall 10 (by simp)
  have t11 : b 11 = true := hall 11 (by simp)
  have t12 : b 12 = true := hall 12 (by simp)
  have t13 : b 13 = true := hall 13 (by simp)
  have t14 : b 14 = true := hall 14 (by simp)
  have t15 : b 15 = true := hall 15 (by simp)
  have t16 : b 16 = true := hall 16 (by simp)
  simp only [t0, t1, t2, t3, t4, t5, t6, t7, t8, t9, t10, t11, t12, t13, t14, t15, t16, if_true]
  have Yg13 := Lib.hid (h10 t10).1
  have Pg13 := Lib.hid (h10 t10).2
  have F9 : Hid (Fr (fun _ => False) w w9) := F0.out.trans hF
  have G9 := Lib.hid hF
  clear hall hF h10 t0 t1 t2 t3 t4 t5 t6 t7 t8 t9 t10 t11 t12 t13 t14 t15 t16
  go_wp2
  go_ret
  exact ⟨rfl, F9.out⟩

set_option maxRecDepth 100000 in
theorem law_empty_lifted (os : Os) (started : os.Started) (H : Type) (enc : TypeId × Value → H) :
    ReturnsInHanded {} Try.checked os 7 .any (Rows.polyEmptySpec.pre6 enc Try.prog Try.f7 Rows.polyEmptyRow.domain false) (Rows.polyEmptySpec.post enc Try.prog Try.f7 false true false false) := by
  refine returnsInHanded_of_change (C := Try.checked) own started (by kernel_rfl) Try.func7
    (ChangeSpec.witness6 (enc := enc) (C := Try.checked) false ⟨#[], #[.agg (vs .u8 (List.replicate 32 0))], []⟩ 8 (by kernel_rfl) (by kernel_rfl) (by kernel_rfl) (by kernel_rfl)) ?_
  intro W base args ds gs before hval0 hW hcnd _
  have hval : ∀ (j : Nat) t v, Try.f7.params[j]? = some t → args[j]? = some v → Value.okWide Try.prog W .any base t v := hval0
  have hW' := hW
  obtain ⟨p, q, hA0, hV, rfl, hfz, hnd⟩ := hW
  have hA : DataW.TrodAll enc Try.prog W 0 (fun _ => true) true Try.f7.params.toList args.toList ds p := hA0
  rw [Try.params7] at hA hval
  obtain ⟨v0, vs0, d0, ds0, p0, q0, hargs, rfl, rfl, h0, r0⟩ := trodAll_cons hA
  obtain ⟨rfl, rfl, rfl⟩ := trodAll_nil r0
  obtain rfl : args = #[v0] := by cases args; simp_all
  obtain ⟨rfl, rfl⟩ := trodVars_none hV
  obtain ⟨k0, rfl, lk0, bk0⟩ := open_key (hval 0 23 v0 rfl rfl) h0
  clear hA0 hval0
  refine (law_empty_any k0 W lk0 bk0).mono fun e W' ⟨he, hg⟩ => ?_
  subst he
  exact ⟨_, rfl, post_true rfl hW' (by kernel_rfl) rfl rfl hg⟩

theorem polyEmpty_holds : Rows.PolyEmptySaid :=
  OpenClaim.holds_of_wide 7 Try.f7 rfl rfl rfl rfl rfl rfl rfl ⟨rfl, rfl, rfl, rfl, rfl⟩ rfl rfl rfl rfl rfl (by kernel_rfl) Try.func7 (by kernel_rfl)
    (of_decide_eq_true (by kernel_rfl)) (by unfold Func.isWrapper; first | (rw [if_pos (by decide +kernel)]; kernel_rfl) | (rw [if_neg (by decide +kernel)]; exact ⟨rfl, rfl⟩))
    (fun os started H enc _ => law_empty_lifted os started H enc)
#print axioms polyEmpty_holds
end Go.Proofs.Ytcoggpedpclkaaa
