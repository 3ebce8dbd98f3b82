/- CurveLow answers true for all keys, and its argument reads behind the call as it did: the given statement CurveLowSaid. No condition. -/
import Derived.Test.YtbkbodcncjhcmaaKLift
import Derived.Test.YtbkbodcncjhcmaaLowM
namespace Go.Proofs.Ytbkbodcncjhcmaa
set_option linter.unusedSimpArgs false
set_option linter.unusedVariables false
open Go.ChangeShapes Go.WideShapes Go.ChangeAt Go.RowKit

theorem key_last {w : World} {q : Nat} {pre mid l : List Int} {t : TypeId} (hp : pre.length = 32) (hm : mid.length = 32) (h : w.heap[q]? = some (.cells (vs .u8 (pre ++ (mid ++ l))) t (0, 0))) : w.rangeAt q 64 (vs .u8 l).toList :=
  key_range (pre := pre ++ mid) (post := []) (by simp [hp, hm]) (by rw [List.append_nil, List.append_assoc]; exact h)

set_option maxRecDepth 100000 in
set_option maxHeartbeats 8000000 in
theorem law_low_any (vk : List Int) (w : World) (hvk : vk.length = 32) (bvk : Bys vk) :
    Calls Try.prog 11 #[.agg (vs .u8 vk)] w fun e w' => e = .returned (.bool true) ∧ Fr (fun _ => False) w w' := by
  obtain ⟨ZK, hZK⟩ : ∃ Z, Z = List.replicate 32 (0 : Int) := ⟨_, rfl⟩
  obtain ⟨ON, hON⟩ : ∃ Z, Z = oneK := ⟨_, rfl⟩
  obtain ⟨LK, hLK⟩ : ∃ Z, Z = lastK := ⟨_, rfl⟩
  obtain ⟨e2, he2⟩ : ∃ e, e = pp - 1 := ⟨_, rfl⟩
  have zkk : ∀ W : World, (zeroValue 23).run Try.prog W = .ok (.agg (vs .u8 ZK)) W := fun W => by rw [hZK]; exact key_zero W
  have k_ZK : Hid (ZK.length = 32) := by show _ = _; rw [hZK]; rfl
  have k_ON : Hid (ON.length = 32) := by show _ = _; rw [hON]; rfl
  have k_LK : Hid (LK.length = 32) := by show _ = _; rw [hLK]; exact lb_length _ _
  have HZK : Hid (ZK = List.replicate 32 (0 : Int)) := hZK
  have HON : Hid (ON = oneK) := hON
  have S0 := fun W => small_c 0 (by decide) (by decide) W
  have S1 := fun W => small_c 1 (by decide) (by decide) W
  have S2 : ∀ W, Calls Try.prog 24 #[.agg (ec 0), .agg (ec 1)] W fun e w' => e = .returned (.agg (ec e2)) ∧ Fr (fun _ => False) W w' := fun W => by rw [he2]; exact sub_c (by decide) el_zero el_one W
  have S3 : ∀ W, Calls Try.prog 23 #[.agg (ec e2)] W fun e w' => e = .returned (.agg (vs .u8 LK)) ∧ Fr (fun _ => False) W w' := fun W => by rw [he2, hLK]; exact ebytes_is (pp - 1) W el_last
  have bZ : Bys ZK := by rw [hZK]; unfold Bys; decide
  have bO : Bys ON := by rw [hON]; unfold Bys; decide
  have bL : Bys LK := by rw [hLK]; exact lb_bys _ _
  have CZ : ∀ W, Calls Try.prog 19 #[.agg (vs .u8 vk), .agg (vs .u8 ZK)] W fun e w' => e = .returned (.tuple #[.agg (vs .u8 ZK), .int .i64 30]) ∧ Fr (fun _ => False) W w' := fun W => by
    have h := share_no vk ZK W hvk bvk k_ZK.out bZ (by rw [hZK]; exact low0 vk hvk)
    rwa [← hZK] at h
  have DZ : ∀ W, Calls Try.prog 15 #[.agg (vs .u8 vk), .agg (vs .u8 ZK)] W fun e w' => e = .returned (.agg (vs .u8 ZK)) ∧ Fr (fun _ => False) W w' := fun W => by
    have h := x_is vk ZK W hvk bvk k_ZK.out bZ
    rwa [show xv vk ZK = ZK by rw [hZK]; exact low0 vk hvk] at h
  have CO : ∀ W, Calls Try.prog 19 #[.agg (vs .u8 vk), .agg (vs .u8 ON)] W fun e w' => e = .returned (.tuple #[.agg (vs .u8 ZK), .int .i64 30]) ∧ Fr (fun _ => False) W w' := fun W => by
    have h := share_no vk ON W hvk bvk k_ON.out bO (by rw [hON]; exact low1 vk hvk)
    rwa [← hZK] at h
  have DO : ∀ W, Calls Try.prog 15 #[.agg (vs .u8 vk), .agg (vs .u8 ON)] W fun e w' => e = .returned (.agg (vs .u8 ZK)) ∧ Fr (fun _ => False) W w' := fun W => by
    have h := x_is vk ON W hvk bvk k_ON.out bO
    rwa [show xv vk ON = ZK by rw [hON, hZK]; exact low1 vk hvk] at h
  have CL : ∀ W, Calls Try.prog 19 #[.agg (vs .u8 vk), .agg (vs .u8 LK)] W fun e w' => e = .returned (.tuple #[.agg (vs .u8 ZK), .int .i64 30]) ∧ Fr (fun _ => False) W w' := fun W => by
    have h := share_no vk LK W hvk bvk k_LK.out bL (by rw [hLK]; exact low2 vk hvk)
    rwa [← hZK] at h
  have DL : ∀ W, Calls Try.prog 15 #[.agg (vs .u8 vk), .agg (vs .u8 LK)] W fun e w' => e = .returned (.agg (vs .u8 ZK)) ∧ Fr (fun _ => False) W w' := fun W => by
    have h := x_is vk LK W hvk bvk k_LK.out bL
    rwa [show xv vk LK = ZK by rw [hLK, hZK]; exact low2 vk hvk] at h
  have CA := awake_is
  have k_vk : Hid (vk.length = 32) := hvk
  have hq0 : ∀ W, (Op.equalIn 10000 23 (.agg (vs .u8 ZK)) (.agg (vs .u8 ZK))).run Try.prog W = .ok true W := fun W => by rw [eq23 _ _ k_ZK.out k_ZK.out W, decide_eq_true rfl]
  clear hvk bvk hZK hON hLK he2 bZ bO bL
  go_enter Try.func11, Try.ntmps11
  go_upto_region 1 with (fail)
  generalize hW : (w.alloc (.cells (vs .u8 vk) 23)) = W0
  have HW := Lib.hid (calm1a hW)
  have X0 := Lib.hid HW.out.1
  have F0 : Hid (Fr (fun _ => False) w W0) := HW.out.2
  clear hW HW
  refine wp_region_seq (fun b a w' => ∃ g3 : Nat, Fr (fun _ => False) W0 w' ∧ (b 4 = true → W0.heap.size ≤ g3 ∧ w'.heap[g3]? = some (.cells (if b 5 = true then vs .u8 LK else vs .u8 ZK) 23 (0, 0))) ∧ (b 5 = true → b 4 = true) ∧ a = ⟨#[.agg (vs .u8 vk), .pointer (some ⟨w.heap.size, 0, none⟩), .bool false, if b 4 = true then .pointer (some ⟨g3, 0, none⟩) else undef, undef, undef, undef, undef, if b 0 = true then .agg (ec 0) else undef, if b 1 = true then .agg (ec 1) else undef, if b 2 = true then .agg (ec e2) else undef, if b 3 = true then .agg (vs .u8 LK) else undef, undef, undef, undef, undef, undef, undef, undef, undef, undef, undef, undef, undef, undef, undef, undef, undef, undef, undef, undef, undef, undef, undef, undef, undef, undef, undef, undef, undef, undef, undef, undef, undef, undef, undef, undef], []⟩) (by kernel_rfl) ?start1 ?step1 ?done1
  case start1 => exact ⟨0, Fr.refl _ _, by simp, by simp, by simp⟩
  case step1 =>
    intro i o b a w1 ho hI hb hr
    obtain ⟨g3, hF, h4, hq4, rfl⟩ := hI
    match i, ho with
    | 0, ho =>
      injection ho with ho
      subst ho
      refine wp_quiet_here (.agg (ec 0)) ?_ (fun w2 hw2 => ?_)
      · simp only [Bool.false_eq_true] 
        go_big_quiet_op
        exact ⟨_, Calm.calls S0, by simp [Act.put]⟩
      refine ⟨g3, hF.trans hw2, ?_, ?_, ?_⟩
      · intro hx
        replace hx : b 4 = true := by simpa [upd] using hx
        obtain ⟨k1', k2⟩ := h4 hx
        refine ⟨k1', (hw2.block _ (heap_lt k2) (fun x => x)).trans ?_⟩
        rw [k2]
        simp [upd]
      · simpa [upd] using hq4
      · simp [upd, Act.put]
    | 1, ho =>
      injection ho with ho
      subst ho
      have d0 : b 0 = true := hr 0 (by decide)
      simp only [d0, if_true]
      refine wp_quiet_here (.agg (ec 1)) ?_ (fun w2 hw2 => ?_)
      · go_big_quiet_op
        exact ⟨_, Calm.calls S1, by simp [Act.put]⟩
      refine ⟨g3, hF.trans hw2, ?_, ?_, ?_⟩
      · intro hx
        replace hx : b 4 = true := by simpa [upd] using hx
        obtain ⟨k1', k2⟩ := h4 hx
        refine ⟨k1', (hw2.block _ (heap_lt k2) (fun x => x)).trans ?_⟩
        rw [k2]
        simp [upd]
      · simpa [upd] using hq4
      · simp [upd, Act.put, d0]
    | 2, ho =>
      injection ho with ho
      subst ho
      have d0 : b 0 = true := hr 0 (by decide)
      have d1 : b 1 = true := hr 1 (by decide)
      simp only [d0, d1, if_true]
      refine wp_quiet_here (.agg (ec e2)) ?_ (fun w2 hw2 => ?_)
      · go_big_quiet_op
        exact ⟨_, Calm.calls S2, by simp [Act.put]⟩
      refine ⟨g3, hF.trans hw2, ?_, ?_, ?_⟩
      · intro hx
        replace hx : b 4 = true := by simpa [upd] using hx
        obtain ⟨k1', k2⟩ := h4 hx
        refine ⟨k1', (hw2.block _ (heap_lt k2) (fun x => x)).trans ?_⟩
        rw [k2]
        simp [upd]
      · simpa [upd] using hq4
      · simp [upd, Act.put, d0, d1]
    | 3, ho =>
      injection ho with ho
      subst ho
      have d0 : b 0 = true := hr 0 (by decide)
      have d1 : b 1 = true := hr 1 (by decide)
      have d2 : b 2 = true := hr 2 (by decide)
      simp only [d0, d1, d2, if_true]
      refine wp_quiet_here (.agg (vs .u8 LK)) ?_ (fun w2 hw2 => ?_)
      · go_big_quiet_op
        exact ⟨_, Calm.calls S3, by simp [Act.put]⟩
      refine ⟨g3, hF.trans hw2, ?_, ?_, ?_⟩
      · intro hx
        replace hx : b 4 = true := by simpa [upd] using hx
        obtain ⟨k1', k2⟩ := h4 hx
        refine ⟨k1', (hw2.block _ (heap_lt k2) (fun x => x)).trans ?_⟩
        rw [k2]
        simp [upd]
      · simpa [upd] using hq4
      · simp [upd, Act.put, d0, d1, d2]
    | 4, ho =>
      injection ho with ho
      subst ho
      have d0 : b 0 = true := hr 0 (by decide)
      have d1 : b 1 = true := hr 1 (by decide)
      have d2 : b 2 = true := hr 2 (by decide)
      have d3 : b 3 = true := hr 3 (by decide)
      simp only [d0, d1, d2, d3, if_true]
      refine wp_alloc_any 23 rfl (vs .u8 ZK) zkk ?_
      refine ⟨w1.heap.size, hF.alloc _, ?_, ?_, ?_⟩
      · intro _
        refine ⟨hF.size, (heap_alloc_new w1 _).trans ?_⟩
        have hs : b 5 = false := by
          rcases hbs : b 5 with _ | _
          · rfl
          · rw [hq4 hbs] at hb
            cases hb
        simp [upd, hs]
      · simp [upd]
      · simp [upd, Act.put, d0, d1, d2, d3]
    | 5, ho =>
      injection ho with ho
      subst ho
      have d0 : b 0 = true := hr 0 (by decide)
      have d1 : b 1 = true := hr 1 (by decide)
      have d2 : b 2 = true := hr 2 (by decide)
      have d3 : b 3 = true := hr 3 (by decide)
      have d4 : b 4 = true := hr 4 (by decide)
      simp only [d0, d1, d2, d3, d4, if_true]
      obtain ⟨k1, k2⟩ := h4 d4
      rw [hb] at k2
      simp only [Bool.false_eq_true, if_false] at k2
      refine wp_store_row 23 (.tmp 3) (.tmp 11) rfl g3 (vs .u8 LK) rfl rfl 23 _ k2 (key_info k_LK.out) (by rw [vs_size, vs_size, k_ZK.out, k_LK.out]) (vs_all _ _) ?_
      refine ⟨g3, hF.setRow _ (.inr k1), ?_, ?_, ?_⟩
      · intro _
        refine ⟨k1, (setRow_heap _ _ _ _ _ _ k2).trans ?_⟩
        simp [upd]
      · simp [upd, d4]
      · simp [upd, Act.put, d0, d1, d2, d3, d4]
    | j + 6, ho => exact absurd ho (by simp)
  intro b a W2 hall hI
  obtain ⟨g3, hF, h4, hq4, rfl⟩ := hI
  have t0 : b 0 = true := hall 0 (by simp)
  have t1 : b 1 = true := hall 1 (by simp)
  have t2 : b 2 = true := hall 2 (by simp)
  have t3 : b 3 = true := hall 3 (by simp)
  have t4 : b 4 = true := hall 4 (by simp)
  have t5 : b 5 = true := hall 5 (by simp)
  simp only [t0, t1, t2, t3, t4, t5, if_true, true_implies] at h4 hq4 ⊢
  have F2 : Hid (Fr (fun _ => False) w W2) := F0.out.trans hF
  have X2_0 := Lib.hid ((hF.block _ (heap_lt X0.out) (fun x => x)).trans X0.out)
  have X2_1 := Lib.hid h4.2
  have Yg3 : w.heap.size ≤ g3 := Nat.le_trans F0.out.size h4.1
  clear hall hF h4 hq4 t0 t1 t2 t3 t4 t5 F0
  go_upto_region 2 with (fail)
  have R0 : Hid (W2.heap[w.heap.size]? = some (.cells (vs .u8 vk) 23 (0, 0))) := X2_0.out
  have F2' := F2
  obtain ⟨q, hq⟩ : ∃ q, q = W2.heap.size := ⟨_, rfl⟩
  refine wp_region_list ?_
  refine wpList_q rfl (.agg (vs .u8 ZK)) (quiet_run _ (fun _ _ => by rw [HZK.out]; kernel_rfl) rfl) ?_
  refine wpList_q rfl (.agg (vs .u8 ON)) (quiet_run _ (fun _ _ => by rw [HON.out]; kernel_rfl) rfl) ?_
  refine wpList_q rfl (.agg (vs .u8 LK)) (quiet_load 23 (.tmp 3) rfl g3 rfl 23 _ (0, 0) _ (fun _ h => by rw [h]; exact X2_1.out) Try.underlying23 rfl (key_info k_LK.out) rfl) ?_
  refine wpList_lit3 rfl (.tmp 12) (.tmp 13) (.tmp 14) rfl ZK ON LK k_ZK.out k_ON.out k_LK.out rfl rfl rfl ?_
  rw [← hq]
  refine wpList_q rfl (.slice (some ⟨q, 0, none⟩) 3 3) (BigFrame.quiet_assign _ rfl rfl) ?_
  refine wpList_nil ?_
  have Q3 : Hid ((W2.alloc (.cells (vs .u8 (ZK ++ (ON ++ LK))) 23)).heap[q]? = some (.cells (vs .u8 (ZK ++ (ON ++ LK))) 23 (0, 0))) := by rw [hq]; exact heap_alloc_new W2 _
  have R3 : Hid ((W2.alloc (.cells (vs .u8 (ZK ++ (ON ++ LK))) 23)).heap[w.heap.size]? = some (.cells (vs .u8 vk) 23 (0, 0))) := (Below.heap_alloc W2 _ _ (heap_lt R0.out)).trans R0.out
  have F3 : Hid (Fr (fun _ => False) w (W2.alloc (.cells (vs .u8 (ZK ++ (ON ++ LK))) 23))) := F2'.out.alloc _
  generalize W2.alloc (.cells (vs .u8 (ZK ++ (ON ++ LK))) 23) = W3 at *
  try simp only [Act.put, List.setIfInBounds_toArray, List.set_cons_succ, List.set_cons_zero]
  clear R0 F2 F2' hq S0 S1 S2 S3 X2_0 X2_1
  go_upto_region 4 with (fail)
  go_loopw [5] (fun u5 wr => ∃ i : Nat, u5 = .int .i64 i ∧ i ≤ 3 ∧ Hid (wr.heap[q]? = some (.cells (vs .u8 (ZK ++ (ON ++ LK))) 23 (0, 0))) ∧ Hid (wr.heap[w.heap.size]? = some (.cells (vs .u8 vk) 23 (0, 0))) ∧ Hid (Fr (fun _ => False) w wr))
    (fun u5 _ => 3 - (intOf u5).toNat)
  case atStart => exact ⟨0, rfl, by omega, Q3.out, R3.out, F3.out⟩
  case round =>
    clear Q3 R3 F3
    obtain ⟨i, rfl, hi, hQ, hR, hFr⟩ := hrel
    have hc : i = 0 ∨ i = 1 ∨ i = 2 ∨ i = 3 := by omega
    rcases hc with rfl | rfl | rfl | rfl
    · go_upto_region 6 with (fail)
      have TRACE : True := trivial
      refine wp_region_inv2 (fun b a w' => ∃ g6 : Nat, Fr (fun _ => False) wr w' ∧ (b 9 = true → wr.heap.size ≤ g6 ∧ w'.heap[g6]? = some (.cells (if b 10 = true then vs .u8 ZK else vs .u8 ZK) 23 (0, 0))) ∧ (b 10 = true → b 9 = true) ∧ a = ⟨#[.agg (vs .u8 vk), .pointer (some ⟨w.heap.size, 0, none⟩), u2, .pointer (some ⟨g3, 0, none⟩), .slice (some ⟨q, 0, none⟩) 3 3, .int .i64 0, if b 9 = true then .pointer (some ⟨g6, 0, none⟩) else u6, if b 11 = true then .int .i64 30 else u7, .agg (ec 0), .agg (ec 1), .agg (ec e2), .agg (vs .u8 LK), .agg (vs .u8 ZK), .agg (vs .u8 ON), .agg (vs .u8 LK), .slice (some ⟨q, 0, none⟩) 3 3, .int .i64 0, .bool true, u18, u19, if b 6 = true then .tuple #[.agg (vs .u8 ZK), .int .i64 30] else u20, if b 0 = true then .agg (vs .u8 vk) else u21, if b 1 = true then .slice (some ⟨q, 0, none⟩) 3 3 else u22, if b 2 = true then .int .i64 0 else u23, if b 3 = true then .pointer (some ⟨q, 0, none⟩) else u24, if b 4 = true then .agg (vs .u8 ZK) else u25, if b 5 = true then .tuple #[.agg (vs .u8 ZK), .int .i64 30] else u26, if b 7 = true then .agg (vs .u8 ZK) else u27, if b 8 = true then .int .i64 30 else u28, u29, u30, u31, u32, u33, u34, u35, u36, u37, u38, u39, u40, u41, u42, u43, u44, u45, undef], []⟩) (by kernel_rfl) (by kernel_rfl) ?start6x ?step6x ?done6x
      case start6x => exact ⟨0, ⟨rfl, rfl, rfl, Nat.le_refl _, fun _ _ _ => rfl⟩, by simp, by simp, by simp⟩
      case step6x =>
        intro i o b a w1 ho hI hb hr hc
        obtain ⟨g6, hF, h9, hq9, rfl⟩ := hI
        match i, ho with
        | 0, ho =>
          injection ho with ho
          subst ho
          refine wp_quiet_here _ (quiet_load 23 (.tmp 1) rfl (w.heap.size) rfl 23 _ (0, 0) _ (fun _ h => (Fr.block h _ (Nat.lt_of_lt_of_le (heap_lt hR.out) hF.size) (fun x => x)).trans ((hF.block _ (heap_lt hR.out) (fun x => x)).trans hR.out)) Try.underlying23 rfl (key_info k_vk.out) rfl) (fun w2 hw2 => ?_)
          refine ⟨g6, hF.trans hw2, ?_, ?_, ?_⟩
          · intro hx
            replace hx : b 9 = true := by simpa [upd] using hx
            obtain ⟨k1', k2⟩ := h9 hx
            refine ⟨k1', (hw2.block _ (heap_lt k2) (fun x => x)).trans ?_⟩
            rw [k2]
            simp [upd]
          · simpa [upd] using hq9
          · simp [upd, Act.put]
        | 1, ho =>
          injection ho with ho
          subst ho
          refine wp_quiet_here (.slice (some ⟨q, 0, none⟩) 3 3) (BigFrame.quiet_move _ rfl rfl) (fun w2 hw2 => ?_)
          refine ⟨g6, hF.trans hw2, ?_, ?_, ?_⟩
          · intro hx
            replace hx : b 9 = true := by simpa [upd] using hx
            obtain ⟨k1', k2⟩ := h9 hx
            refine ⟨k1', (hw2.block _ (heap_lt k2) (fun x => x)).trans ?_⟩
            rw [k2]
            simp [upd]
          · simpa [upd] using hq9
          · simp [upd, Act.put]
        | 2, ho =>
          injection ho with ho
          subst ho
          refine wp_quiet_here (.int .i64 0) (BigFrame.quiet_move _ rfl rfl) (fun w2 hw2 => ?_)
          refine ⟨g6, hF.trans hw2, ?_, ?_, ?_⟩
          · intro hx
            replace hx : b 9 = true := by simpa [upd] using hx
            obtain ⟨k1', k2⟩ := h9 hx
            refine ⟨k1', (hw2.block _ (heap_lt k2) (fun x => x)).trans ?_⟩
            rw [k2]
            simp [upd]
          · simpa [upd] using hq9
          · simp [upd, Act.put]
        | 3, ho =>
          injection ho with ho
          subst ho
          simp [Region.binds] at hr
          have d1 : b 1 = true := by simp only [hr]
          have d2 : b 2 = true := by simp only [hr]
          simp only [hr, if_true]
          refine wp_quiet_here (.pointer (some ⟨q, 0, none⟩)) (quiet_kidx (.tmp 22) (.tmp 23) rfl q 3 3 0 rfl (0 : Int) rfl rfl (by decide) rfl) (fun w2 hw2 => ?_)
          refine ⟨g6, hF.trans hw2, ?_, ?_, ?_⟩
          · intro hx
            replace hx : b 9 = true := by simpa [upd] using hx
            obtain ⟨k1', k2⟩ := h9 hx
            refine ⟨k1', (hw2.block _ (heap_lt k2) (fun x => x)).trans ?_⟩
            rw [k2]
            simp [upd]
          · simpa [upd] using hq9
          · simp [upd, Act.put, hr]
        | 4, ho =>
          injection ho with ho
          subst ho
          simp [Region.binds] at hr
          have d3 : b 3 = true := by simp only [hr]
          simp only [hr, if_true]
          refine wp_quiet_here _ (quiet_key (.tmp 24) rfl (q) 0 rfl ZK k_ZK.out (fun _ h => key_range (pre := []) rfl ((Fr.block h _ (Nat.lt_of_lt_of_le (heap_lt hQ.out) hF.size) (fun x => x)).trans ((hF.block _ (heap_lt hQ.out) (fun x => x)).trans hQ.out))) rfl) (fun w2 hw2 => ?_)
          refine ⟨g6, hF.trans hw2, ?_, ?_, ?_⟩
          · intro hx
            replace hx : b 9 = true := by simpa [upd] using hx
            obtain ⟨k1', k2⟩ := h9 hx
            refine ⟨k1', (hw2.block _ (heap_lt k2) (fun x => x)).trans ?_⟩
            rw [k2]
            simp [upd]
          · simpa [upd] using hq9
          · simp [upd, Act.put, hr]
        | 5, ho =>
          injection ho with ho
          subst ho
          simp [Region.binds] at hr
          have d0 : b 0 = true := by simp only [hr]
          have d4 : b 4 = true := by simp only [hr]
          simp only [hr, if_true]
          refine wp_quiet_here (.tuple #[.agg (vs .u8 ZK), .int .i64 30]) ?_ (fun w2 hw2 => ?_)
          · go_big_quiet_op
            exact ⟨_, Calm.calls CZ, by simp [Act.put]⟩
          refine ⟨g6, hF.trans hw2, ?_, ?_, ?_⟩
          · intro hx
            replace hx : b 9 = true := by simpa [upd] using hx
            obtain ⟨k1', k2⟩ := h9 hx
            refine ⟨k1', (hw2.block _ (heap_lt k2) (fun x => x)).trans ?_⟩
            rw [k2]
            simp [upd]
          · simpa [upd] using hq9
          · simp [upd, Act.put, hr]
        | 6, ho =>
          injection ho with ho
          subst ho
          simp [Region.binds] at hr
          have d5 : b 5 = true := by simp only [hr]
          simp only [hr, if_true]
          refine wp_quiet_here (.tuple #[.agg (vs .u8 ZK), .int .i64 30]) ?_ (fun w2 hw2 => ?_)
          · go_big_quiet_op
            first
              | (simp [Act.put]; done)
              | exact ⟨_, fun _ _ => rfl, by simp [Act.put]⟩
          refine ⟨g6, hF.trans hw2, ?_, ?_, ?_⟩
          · intro hx
            replace hx : b 9 = true := by simpa [upd] using hx
            obtain ⟨k1', k2⟩ := h9 hx
            refine ⟨k1', (hw2.block _ (heap_lt k2) (fun x => x)).trans ?_⟩
            rw [k2]
            simp [upd]
          · simpa [upd] using hq9
          · simp [upd, Act.put, hr]
        | 7, ho =>
          injection ho with ho
          subst ho
          simp [Region.binds] at hr
          have d6 : b 6 = true := by simp only [hr]
          simp only [hr, if_true]
          refine wp_quiet_here (.agg (vs .u8 ZK)) ?_ (fun w2 hw2 => ?_)
          · go_big_quiet_op
            first
              | (simp [Act.put]; done)
              | exact ⟨_, fun _ _ => rfl, by simp [Act.put]⟩
          refine ⟨g6, hF.trans hw2, ?_, ?_, ?_⟩
          · intro hx
            replace hx : b 9 = true := by simpa [upd] using hx
            obtain ⟨k1', k2⟩ := h9 hx
            refine ⟨k1', (hw2.block _ (heap_lt k2) (fun x => x)).trans ?_⟩
            rw [k2]
            simp [upd]
          · simpa [upd] using hq9
          · simp [upd, Act.put, hr]
        | 8, ho =>
          injection ho with ho
          subst ho
          simp [Region.binds] at hr
          have d6 : b 6 = true := by simp only [hr]
          simp only [hr, if_true]
          refine wp_quiet_here (.int .i64 30) ?_ (fun w2 hw2 => ?_)
          · go_big_quiet_op
            first
              | (simp [Act.put]; done)
              | exact ⟨_, fun _ _ => rfl, by simp [Act.put]⟩
          refine ⟨g6, hF.trans hw2, ?_, ?_, ?_⟩
          · intro hx
            replace hx : b 9 = true := by simpa [upd] using hx
            obtain ⟨k1', k2⟩ := h9 hx
            refine ⟨k1', (hw2.block _ (heap_lt k2) (fun x => x)).trans ?_⟩
            rw [k2]
            simp [upd]
          · simpa [upd] using hq9
          · simp [upd, Act.put, hr]
        | 9, ho =>
          injection ho with ho
          subst ho
          refine wp_alloc_any 23 rfl (vs .u8 ZK) zkk ?_
          refine ⟨w1.heap.size, hF.alloc _, ?_, ?_, ?_⟩
          · intro _
            refine ⟨hF.size, (heap_alloc_new w1 _).trans ?_⟩
            have hs : b 10 = false := by
              rcases hbs : b 10 with _ | _
              · rfl
              · rw [hq9 hbs] at hb
                cases hb
            simp [upd, hs]
          · simp [upd]
          · simp [upd, Act.put]
        | 10, ho =>
          injection ho with ho
          subst ho
          simp [Region.binds] at hr
          have d7 : b 7 = true := by simp only [hr]
          have d9 : b 9 = true := by simp only [hr]
          simp only [hr, if_true]
          obtain ⟨k1, k2⟩ := h9 d9
          rw [hb] at k2
          simp only [Bool.false_eq_true, if_false] at k2
          refine wp_store_row 23 (.tmp 6) (.tmp 27) rfl g6 (vs .u8 ZK) rfl rfl 23 _ k2 (key_info k_ZK.out) rfl (vs_all _ _) ?_
          refine ⟨g6, hF.setRow _ (.inr k1), ?_, ?_, ?_⟩
          · intro _
            refine ⟨k1, (setRow_heap _ _ _ _ _ _ k2).trans ?_⟩
            simp [upd]
          · simp [upd, d9]
          · simp [upd, Act.put, hr]
        | 11, ho =>
          injection ho with ho
          subst ho
          simp [Region.binds] at hr
          have d8 : b 8 = true := by simp only [hr]
          simp only [hr, if_true]
          refine wp_quiet_here (.int .i64 30) ?_ (fun w2 hw2 => ?_)
          · go_big_quiet_op
            first
              | (simp [Act.put]; done)
              | exact ⟨_, fun _ _ => rfl, by simp [Act.put]⟩
          refine ⟨g6, hF.trans hw2, ?_, ?_, ?_⟩
          · intro hx
            replace hx : b 9 = true := by simpa [upd] using hx
            obtain ⟨k1', k2⟩ := h9 hx
            refine ⟨k1', (hw2.block _ (heap_lt k2) (fun x => x)).trans ?_⟩
            rw [k2]
            simp [upd]
          · simpa [upd] using hq9
          · simp [upd, Act.put, hr]
        | j + 12, ho => exact absurd ho (by simp)
      intro b a W7 hall hI
      obtain ⟨g6, hF, h9, hq9, rfl⟩ := hI
      have t0 : b 0 = true := hall 0 (by simp)
      have t1 : b 1 = true := hall 1 (by simp)
      have t2 : b 2 = true := hall 2 (by simp)
      have t3 : b 3 = true := hall 3 (by simp)
      have t4 : b 4 = true := hall 4 (by simp)
      have t5 : b 5 = true := hall 5 (by simp)
      have t6 : b 6 = true := hall 6 (by simp)
      have t7 : b 7 = true := hall 7 (by simp)
      have t8 : b 8 = true := hall 8 (by simp)
      have t9 : b 9 = true := hall 9 (by simp)
      have t10 : b 10 = true := hall 10 (by simp)
      have t11 : b 11 = true := hall 11 (by simp)
      simp only [t0, t1, t2, t3, t4, t5, t6, t7, t8, t9, t10, t11, if_true, true_implies] at h9 hq9 ⊢
      have F7 : Hid (Fr (fun _ => False) w W7) := hFr.out.trans hF
      have X7_0 := Lib.hid ((hF.block _ (heap_lt hR.out) (fun x => x)).trans hR.out)
      have X7_1 := Lib.hid ((hF.block _ (heap_lt hQ.out) (fun x => x)).trans hQ.out)
      have X7_2 := Lib.hid h9.2
      have Yg6 : w.heap.size ≤ g6 := Nat.le_trans hFr.out.size h9.1
      clear hall hF h9 hq9 t0 t1 t2 t3 t4 t5 t6 t7 t8 t9 t10 t11 
      go_upto_region 7 with (fail)
      refine wp_region_quiet (C := Calm W7) (by kernel_rfl) (by kernel_rfl) (Calm.start _ _ (Fr.refl _ _)) ?_
      refine BigFrame.wpQuiet_want rfl fun K hK => ?_
      try simp only [Act.put, List.setIfInBounds_toArray, List.set_cons_succ, List.set_cons_zero]
      go_big_quiet_op
      refine hK _ ?_
      refine BigFrame.wpQuiet_want rfl fun K hK => ?_
      try simp only [Act.put, List.setIfInBounds_toArray, List.set_cons_succ, List.set_cons_zero]
      go_big_quiet_op
      first
        | refine ⟨_, fun _ _ => rfl, hK _ ?_⟩
        | refine hK _ ?_
      refine BigFrame.wpQuiet_want rfl fun K hK => ?_
      try simp only [Act.put, List.setIfInBounds_toArray, List.set_cons_succ, List.set_cons_zero]
      go_big_quiet_op
      refine hK _ ?_
      refine BigFrame.wpQuiet_want rfl fun K hK => quiet_load 23 (.tmp 6) rfl (g6) rfl 23 _ (0, 0) _ (fun _ h => Calm.at X7_2.out h) Try.underlying23 rfl (key_info k_ZK.out) (hK _ ?_)
      refine BigFrame.wpQuiet_want rfl fun K hK => quiet_run (.agg (vs .u8 ZK)) (fun _ _ => by rw [HZK.out]; kernel_rfl) (hK _ ?_)
      refine BigFrame.wpQuiet_want rfl fun K hK => ?_
      try simp only [Act.put, List.setIfInBounds_toArray, List.set_cons_succ, List.set_cons_zero]
      go_big_quiet_op
      first
        | refine ⟨_, fun _ _ => rfl, hK _ ?_⟩
        | refine hK _ ?_
      refine BigFrame.wpQuiet_want rfl fun K hK => ?_
      try simp only [Act.put, List.setIfInBounds_toArray, List.set_cons_succ, List.set_cons_zero]
      go_big_quiet_op
      first
        | refine ⟨_, fun _ _ => rfl, hK _ ?_⟩
        | refine hK _ ?_
      refine BigFrame.wpQuiet_want rfl fun K hK => ?_
      try simp only [Act.put, List.setIfInBounds_toArray, List.set_cons_succ, List.set_cons_zero]
      go_big_quiet_op
      refine hK _ ?_
      refine BigFrame.wpQuiet_want rfl fun K hK => quiet_load 23 (.tmp 1) rfl (w.heap.size) rfl 23 _ (0, 0) _ (fun _ h => Calm.at X7_0.out h) Try.underlying23 rfl (key_info k_vk.out) (hK _ ?_)
      refine BigFrame.wpQuiet_want rfl fun K hK => ?_
      try simp only [Act.put, List.setIfInBounds_toArray, List.set_cons_succ, List.set_cons_zero]
      go_big_quiet_op
      refine hK _ ?_
      refine BigFrame.wpQuiet_want rfl fun K hK => ?_
      try simp only [Act.put, List.setIfInBounds_toArray, List.set_cons_succ, List.set_cons_zero]
      go_big_quiet_op
      refine hK _ ?_
      refine BigFrame.wpQuiet_want rfl fun K hK => quiet_kidx (.tmp 38) (.tmp 39) rfl q 3 3 0 rfl (0 : Int) rfl rfl (by decide) (hK _ ?_)
      refine BigFrame.wpQuiet_want rfl fun K hK => quiet_key (.tmp 40) rfl q 0 rfl ZK k_ZK.out (fun _ h => key_range (pre := []) rfl (by simpa using Calm.at X7_1.out h)) (hK _ ?_)
      refine BigFrame.wpQuiet_want rfl fun K hK => ?_
      try simp only [Act.put, List.setIfInBounds_toArray, List.set_cons_succ, List.set_cons_zero]
      go_big_quiet_op
      refine ⟨_, Calm.calls DZ, hK _ ?_⟩
      refine BigFrame.wpQuiet_want rfl fun K hK => quiet_run (.agg (vs .u8 ZK)) (fun _ _ => by rw [HZK.out]; kernel_rfl) (hK _ ?_)
      refine BigFrame.wpQuiet_want rfl fun K hK => ?_
      try simp only [Act.put, List.setIfInBounds_toArray, List.set_cons_succ, List.set_cons_zero]
      go_big_quiet_op
      first
        | refine ⟨_, fun _ _ => rfl, hK _ ?_⟩
        | refine hK _ ?_
      refine BigFrame.wpQuiet_want rfl fun K hK => ?_
      try simp only [Act.put, List.setIfInBounds_toArray, List.set_cons_succ, List.set_cons_zero]
      go_big_quiet_op
      first
        | refine ⟨_, fun _ _ => rfl, hK _ ?_⟩
        | refine hK _ ?_
      refine wpQuiet_nil ?_
      intro w9 hw9
      have F9 : Hid (Fr (fun _ => False) w w9) := F7.out.trans hw9
      have Q9 : Hid (w9.heap[q]? = some (.cells (vs .u8 (ZK ++ (ON ++ LK))) 23 (0, 0))) := Calm.at X7_1.out hw9
      have R9 : Hid (w9.heap[w.heap.size]? = some (.cells (vs .u8 vk) 23 (0, 0))) := Calm.at X7_0.out hw9
      clear hw9
      try simp only [Act.put, List.setIfInBounds_toArray, List.set_cons_succ, List.set_cons_zero]
      go_wp2
      go_roundw
      case rel => exact ⟨1, rfl, by omega, Q9, R9, F9⟩
      case measure => simp [intOf]
    · go_upto_region 6 with (fail)
      have TRACE : True := trivial
      refine wp_region_inv2 (fun b a w' => ∃ g6 : Nat, Fr (fun _ => False) wr w' ∧ (b 9 = true → wr.heap.size ≤ g6 ∧ w'.heap[g6]? = some (.cells (if b 10 = true then vs .u8 ZK else vs .u8 ZK) 23 (0, 0))) ∧ (b 10 = true → b 9 = true) ∧ a = ⟨#[.agg (vs .u8 vk), .pointer (some ⟨w.heap.size, 0, none⟩), u2, .pointer (some ⟨g3, 0, none⟩), .slice (some ⟨q, 0, none⟩) 3 3, .int .i64 1, if b 9 = true then .pointer (some ⟨g6, 0, none⟩) else u6, if b 11 = true then .int .i64 30 else u7, .agg (ec 0), .agg (ec 1), .agg (ec e2), .agg (vs .u8 LK), .agg (vs .u8 ZK), .agg (vs .u8 ON), .agg (vs .u8 LK), .slice (some ⟨q, 0, none⟩) 3 3, .int .i64 1, .bool true, u18, u19, if b 6 = true then .tuple #[.agg (vs .u8 ZK), .int .i64 30] else u20, if b 0 = true then .agg (vs .u8 vk) else u21, if b 1 = true then .slice (some ⟨q, 0, none⟩) 3 3 else u22, if b 2 = true then .int .i64 1 else u23, if b 3 = true then .pointer (some ⟨q, 32, none⟩) else u24, if b 4 = true then .agg (vs .u8 ON) else u25, if b 5 = true then .tuple #[.agg (vs .u8 ZK), .int .i64 30] else u26, if b 7 = true then .agg (vs .u8 ZK) else u27, if b 8 = true then .int .i64 30 else u28, u29, u30, u31, u32, u33, u34, u35, u36, u37, u38, u39, u40, u41, u42, u43, u44, u45, undef], []⟩) (by kernel_rfl) (by kernel_rfl) ?start6y ?step6y ?done6y
      case start6y => exact ⟨0, ⟨rfl, rfl, rfl, Nat.le_refl _, fun _ _ _ => rfl⟩, by simp, by simp, by simp⟩
      case step6y =>
        intro i o b a w1 ho hI hb hr hc
        obtain ⟨g6, hF, h9, hq9, rfl⟩ := hI
        match i, ho with
        | 0, ho =>
          injection ho with ho
          subst ho
          refine wp_quiet_here _ (quiet_load 23 (.tmp 1) rfl (w.heap.size) rfl 23 _ (0, 0) _ (fun _ h => (Fr.block h _ (Nat.lt_of_lt_of_le (heap_lt hR.out) hF.size) (fun x => x)).trans ((hF.block _ (heap_lt hR.out) (fun x => x)).trans hR.out)) Try.underlying23 rfl (key_info k_vk.out) rfl) (fun w2 hw2 => ?_)
          refine ⟨g6, hF.trans hw2, ?_, ?_, ?_⟩
          · intro hx
            replace hx : b 9 = true := by simpa [upd] using hx
            obtain ⟨k1', k2⟩ := h9 hx
            refine ⟨k1', (hw2.block _ (heap_lt k2) (fun x => x)).trans ?_⟩
            rw [k2]
            simp [upd]
          · simpa [upd] using hq9
          · simp [upd, Act.put]
        | 1, ho =>
          injection ho with ho
          subst ho
          refine wp_quiet_here (.slice (some ⟨q, 0, none⟩) 3 3) (BigFrame.quiet_move _ rfl rfl) (fun w2 hw2 => ?_)
          refine ⟨g6, hF.trans hw2, ?_, ?_, ?_⟩
          · intro hx
            replace hx : b 9 = true := by simpa [upd] using hx
            obtain ⟨k1', k2⟩ := h9 hx
            refine ⟨k1', (hw2.block _ (heap_lt k2) (fun x => x)).trans ?_⟩
            rw [k2]
            simp [upd]
          · simpa [upd] using hq9
          · simp [upd, Act.put]
        | 2, ho =>
          injection ho with ho
          subst ho
          refine wp_quiet_here (.int .i64 1) (BigFrame.quiet_move _ rfl rfl) (fun w2 hw2 => ?_)
          refine ⟨g6, hF.trans hw2, ?_, ?_, ?_⟩
          · intro hx
            replace hx : b 9 = true := by simpa [upd] using hx
            obtain ⟨k1', k2⟩ := h9 hx
            refine ⟨k1', (hw2.block _ (heap_lt k2) (fun x => x)).trans ?_⟩
            rw [k2]
            simp [upd]
          · simpa [upd] using hq9
          · simp [upd, Act.put]
        | 3, ho =>
          injection ho with ho
          subst ho
          simp [Region.binds] at hr
          have d1 : b 1 = true := by simp only [hr]
          have d2 : b 2 = true := by simp only [hr]
          simp only [hr, if_true]
          refine wp_quiet_here (.pointer (some ⟨q, 32, none⟩)) (quiet_kidx (.tmp 22) (.tmp 23) rfl q 3 3 1 rfl (1 : Int) rfl rfl (by decide) rfl) (fun w2 hw2 => ?_)
          refine ⟨g6, hF.trans hw2, ?_, ?_, ?_⟩
          · intro hx
            replace hx : b 9 = true := by simpa [upd] using hx
            obtain ⟨k1', k2⟩ := h9 hx
            refine ⟨k1', (hw2.block _ (heap_lt k2) (fun x => x)).trans ?_⟩
            rw [k2]
            simp [upd]
          · simpa [upd] using hq9
          · simp [upd, Act.put, hr]
        | 4, ho =>
          injection ho with ho
          subst ho
          simp [Region.binds] at hr
          have d3 : b 3 = true := by simp only [hr]
          simp only [hr, if_true]
          refine wp_quiet_here _ (quiet_key (.tmp 24) rfl (q) 32 rfl ON k_ON.out (fun _ h => key_range (pre := ZK) k_ZK.out ((Fr.block h _ (Nat.lt_of_lt_of_le (heap_lt hQ.out) hF.size) (fun x => x)).trans ((hF.block _ (heap_lt hQ.out) (fun x => x)).trans hQ.out))) rfl) (fun w2 hw2 => ?_)
          refine ⟨g6, hF.trans hw2, ?_, ?_, ?_⟩
          · intro hx
            replace hx : b 9 = true := by simpa [upd] using hx
            obtain ⟨k1', k2⟩ := h9 hx
            refine ⟨k1', (hw2.block _ (heap_lt k2) (fun x => x)).trans ?_⟩
            rw [k2]
            simp [upd]
          · simpa [upd] using hq9
          · simp [upd, Act.put, hr]
        | 5, ho =>
          injection ho with ho
          subst ho
          simp [Region.binds] at hr
          have d0 : b 0 = true := by simp only [hr]
          have d4 : b 4 = true := by simp only [hr]
          simp only [hr, if_true]
          refine wp_quiet_here (.tuple #[.agg (vs .u8 ZK), .int .i64 30]) ?_ (fun w2 hw2 => ?_)
          · go_big_quiet_op
            exact ⟨_, Calm.calls CO, by simp [Act.put]⟩
          refine ⟨g6, hF.trans hw2, ?_, ?_, ?_⟩
          · intro hx
            replace hx : b 9 = true := by simpa [upd] using hx
            obtain ⟨k1', k2⟩ := h9 hx
            refine ⟨k1', (hw2.block _ (heap_lt k2) (fun x => x)).trans ?_⟩
            rw [k2]
            simp [upd]
          · simpa [upd] using hq9
          · simp [upd, Act.put, hr]
        | 6, ho =>
          injection ho with ho
          subst ho
          simp [Region.binds] at hr
          have d5 : b 5 = true := by simp only [hr]
          simp only [hr, if_true]
          refine wp_quiet_here (.tuple #[.agg (vs .u8 ZK), .int .i64 30]) ?_ (fun w2 hw2 => ?_)
          · go_big_quiet_op
            first
              | (simp [Act.put]; done)
              | exact ⟨_, fun _ _ => rfl, by simp [Act.put]⟩
          refine ⟨g6, hF.trans hw2, ?_, ?_, ?_⟩
          · intro hx
            replace hx : b 9 = true := by simpa [upd] using hx
            obtain ⟨k1', k2⟩ := h9 hx
            refine ⟨k1', (hw2.block _ (heap_lt k2) (fun x => x)).trans ?_⟩
            rw [k2]
            simp [upd]
          · simpa [upd] using hq9
          · simp [upd, Act.put, hr]
        | 7, ho =>
          injection ho with ho
          subst ho
          simp [Region.binds] at hr
          have d6 : b 6 = true := by simp only [hr]
          simp only [hr, if_true]
          refine wp_quiet_here (.agg (vs .u8 ZK)) ?_ (fun w2 hw2 => ?_)
          · go_big_quiet_op
            first
              | (simp [Act.put]; done)
              | exact ⟨_, fun _ _ => rfl, by simp [Act.put]⟩
          refine ⟨g6, hF.trans hw2, ?_, ?_, ?_⟩
          · intro hx
            replace hx : b 9 = true := by simpa [upd] using hx
            obtain ⟨k1', k2⟩ := h9 hx
            refine ⟨k1', (hw2.block _ (heap_lt k2) (fun x => x)).trans ?_⟩
            rw [k2]
            simp [upd]
          · simpa [upd] using hq9
          · simp [upd, Act.put, hr]
        | 8, ho =>
          injection ho with ho
          subst ho
          simp [Region.binds] at hr
          have d6 : b 6 = true := by simp only [hr]
          simp only [hr, if_true]
          refine wp_quiet_here (.int .i64 30) ?_ (fun w2 hw2 => ?_)
          · go_big_quiet_op
            first
              | (simp [Act.put]; done)
              | exact ⟨_, fun _ _ => rfl, by simp [Act.put]⟩
          refine ⟨g6, hF.trans hw2, ?_, ?_, ?_⟩
          · intro hx
            replace hx : b 9 = true := by simpa [upd] using hx
            obtain ⟨k1', k2⟩ := h9 hx
            refine ⟨k1', (hw2.block _ (heap_lt k2) (fun x => x)).trans ?_⟩
            rw [k2]
            simp [upd]
          · simpa [upd] using hq9
          · simp [upd, Act.put, hr]
        | 9, ho =>
          injection ho with ho
          subst ho
          refine wp_alloc_any 23 rfl (vs .u8 ZK) zkk ?_
          refine ⟨w1.heap.size, hF.alloc _, ?_, ?_, ?_⟩
          · intro _
            refine ⟨hF.size, (heap_alloc_new w1 _).trans ?_⟩
            have hs : b 10 = false := by
              rcases hbs : b 10 with _ | _
              · rfl
              · rw [hq9 hbs] at hb
                cases hb
            simp [upd, hs]
          · simp [upd]
          · simp [upd, Act.put]
        | 10, ho =>
          injection ho with ho
          subst ho
          simp [Region.binds] at hr
          have d7 : b 7 = true := by simp only [hr]
          have d9 : b 9 = true := by simp only [hr]
          simp only [hr, if_true]
          obtain ⟨k1, k2⟩ := h9 d9
          rw [hb] at k2
          simp only [Bool.false_eq_true, if_false] at k2
          refine wp_store_row 23 (.tmp 6) (.tmp 27) rfl g6 (vs .u8 ZK) rfl rfl 23 _ k2 (key_info k_ZK.out) rfl (vs_all _ _) ?_
          refine ⟨g6, hF.setRow _ (.inr k1), ?_, ?_, ?_⟩
          · intro _
            refine ⟨k1, (setRow_heap _ _ _ _ _ _ k2).trans ?_⟩
            simp [upd]
          · simp [upd, d9]
          · simp [upd, Act.put, hr]
        | 11, ho =>
          injection ho with ho
          subst ho
          simp [Region.binds] at hr
          have d8 : b 8 = true := by simp only [hr]
          simp only [hr, if_true]
          refine wp_quiet_here (.int .i64 30) ?_ (fun w2 hw2 => ?_)
          · go_big_quiet_op
            first
              | (simp [Act.put]; done)
              | exact ⟨_, fun _ _ => rfl, by simp [Act.put]⟩
          refine ⟨g6, hF.trans hw2, ?_, ?_, ?_⟩
          · intro hx
            replace hx : b 9 = true := by simpa [upd] using hx
            obtain ⟨k1', k2⟩ := h9 hx
            refine ⟨k1', (hw2.block _ (heap_lt k2) (fun x => x)).trans ?_⟩
            rw [k2]
            simp [upd]
          · simpa [upd] using hq9
          · simp [upd, Act.put, hr]
        | j + 12, ho => exact absurd ho (by simp)
      intro b a W7 hall hI
      obtain ⟨g6, hF, h9, hq9, rfl⟩ := hI
      have t0 : b 0 = true := hall 0 (by simp)
      have t1 : b 1 = true := hall 1 (by simp)
      have t2 : b 2 = true := hall 2 (by simp)
      have t3 : b 3 = true := hall 3 (by simp)
      have t4 : b 4 = true := hall 4 (by simp)
      have t5 : b 5 = true := hall 5 (by simp)
      have t6 : b 6 = true := hall 6 (by simp)
      have t7 : b 7 = true := hall 7 (by simp)
      have t8 : b 8 = true := hall 8 (by simp)
      have t9 : b 9 = true := hall 9 (by simp)
      have t10 : b 10 = true := hall 10 (by simp)
      have t11 : b 11 = true := hall 11 (by simp)
      simp only [t0, t1, t2, t3, t4, t5, t6, t7, t8, t9, t10, t11, if_true, true_implies] at h9 hq9 ⊢
      have F7 : Hid (Fr (fun _ => False) w W7) := hFr.out.trans hF
      have X7_0 := Lib.hid ((hF.block _ (heap_lt hR.out) (fun x => x)).trans hR.out)
      have X7_1 := Lib.hid ((hF.block _ (heap_lt hQ.out) (fun x => x)).trans hQ.out)
      have X7_2 := Lib.hid h9.2
      have Yg6 : w.heap.size ≤ g6 := Nat.le_trans hFr.out.size h9.1
      clear hall hF h9 hq9 t0 t1 t2 t3 t4 t5 t6 t7 t8 t9 t10 t11 
      go_upto_region 7 with (fail)
      refine wp_region_quiet (C := Calm W7) (by kernel_rfl) (by kernel_rfl) (Calm.start _ _ (Fr.refl _ _)) ?_
      refine BigFrame.wpQuiet_want rfl fun K hK => ?_
      try simp only [Act.put, List.setIfInBounds_toArray, List.set_cons_succ, List.set_cons_zero]
      go_big_quiet_op
      refine hK _ ?_
      refine BigFrame.wpQuiet_want rfl fun K hK => ?_
      try simp only [Act.put, List.setIfInBounds_toArray, List.set_cons_succ, List.set_cons_zero]
      go_big_quiet_op
      first
        | refine ⟨_, fun _ _ => rfl, hK _ ?_⟩
        | refine hK _ ?_
      refine BigFrame.wpQuiet_want rfl fun K hK => ?_
      try simp only [Act.put, List.setIfInBounds_toArray, List.set_cons_succ, List.set_cons_zero]
      go_big_quiet_op
      refine hK _ ?_
      refine BigFrame.wpQuiet_want rfl fun K hK => quiet_load 23 (.tmp 6) rfl (g6) rfl 23 _ (0, 0) _ (fun _ h => Calm.at X7_2.out h) Try.underlying23 rfl (key_info k_ZK.out) (hK _ ?_)
      refine BigFrame.wpQuiet_want rfl fun K hK => quiet_run (.agg (vs .u8 ZK)) (fun _ _ => by rw [HZK.out]; kernel_rfl) (hK _ ?_)
      refine BigFrame.wpQuiet_want rfl fun K hK => ?_
      try simp only [Act.put, List.setIfInBounds_toArray, List.set_cons_succ, List.set_cons_zero]
      go_big_quiet_op
      first
        | refine ⟨_, fun _ _ => rfl, hK _ ?_⟩
        | refine hK _ ?_
      refine BigFrame.wpQuiet_want rfl fun K hK => ?_
      try simp only [Act.put, List.setIfInBounds_toArray, List.set_cons_succ, List.set_cons_zero]
      go_big_quiet_op
      first
        | refine ⟨_, fun _ _ => rfl, hK _ ?_⟩
        | refine hK _ ?_
      refine BigFrame.wpQuiet_want rfl fun K hK => ?_
      try simp only [Act.put, List.setIfInBounds_toArray, List.set_cons_succ, List.set_cons_zero]
      go_big_quiet_op
      refine hK _ ?_
      refine BigFrame.wpQuiet_want rfl fun K hK => quiet_load 23 (.tmp 1) rfl (w.heap.size) rfl 23 _ (0, 0) _ (fun _ h => Calm.at X7_0.out h) Try.underlying23 rfl (key_info k_vk.out) (hK _ ?_)
      refine BigFrame.wpQuiet_want rfl fun K hK => ?_
      try simp only [Act.put, List.setIfInBounds_toArray, List.set_cons_succ, List.set_cons_zero]
      go_big_quiet_op
      refine hK _ ?_
      refine BigFrame.wpQuiet_want rfl fun K hK => ?_
      try simp only [Act.put, List.setIfInBounds_toArray, List.set_cons_succ, List.set_cons_zero]
      go_big_quiet_op
      refine hK _ ?_
      refine BigFrame.wpQuiet_want rfl fun K hK => quiet_kidx (.tmp 38) (.tmp 39) rfl q 3 3 1 rfl (1 : Int) rfl rfl (by decide) (hK _ ?_)
      refine BigFrame.wpQuiet_want rfl fun K hK => quiet_key (.tmp 40) rfl q 32 rfl ON k_ON.out (fun _ h => key_range (pre := ZK) k_ZK.out (Calm.at X7_1.out h)) (hK _ ?_)
      refine BigFrame.wpQuiet_want rfl fun K hK => ?_
      try simp only [Act.put, List.setIfInBounds_toArray, List.set_cons_succ, List.set_cons_zero]
      go_big_quiet_op
      refine ⟨_, Calm.calls DO, hK _ ?_⟩
      refine BigFrame.wpQuiet_want rfl fun K hK => quiet_run (.agg (vs .u8 ZK)) (fun _ _ => by rw [HZK.out]; kernel_rfl) (hK _ ?_)
      refine BigFrame.wpQuiet_want rfl fun K hK => ?_
      try simp only [Act.put, List.setIfInBounds_toArray, List.set_cons_succ, List.set_cons_zero]
      go_big_quiet_op
      first
        | refine ⟨_, fun _ _ => rfl, hK _ ?_⟩
        | refine hK _ ?_
      refine BigFrame.wpQuiet_want rfl fun K hK => ?_
      try simp only [Act.put, List.setIfInBounds_toArray, List.set_cons_succ, List.set_cons_zero]
      go_big_quiet_op
      first
        | refine ⟨_, fun _ _ => rfl, hK _ ?_⟩
        | refine hK _ ?_
      refine wpQuiet_nil ?_
      intro w9 hw9
      have F9 : Hid (Fr (fun _ => False) w w9) := F7.out.trans hw9
      have Q9 : Hid (w9.heap[q]? = some (.cells (vs .u8 (ZK ++ (ON ++ LK))) 23 (0, 0))) := Calm.at X7_1.out hw9
      have R9 : Hid (w9.heap[w.heap.size]? = some (.cells (vs .u8 vk) 23 (0, 0))) := Calm.at X7_0.out hw9
      clear hw9
      try simp only [Act.put, List.setIfInBounds_toArray, List.set_cons_succ, List.set_cons_zero]
      go_wp2
      go_roundw
      case rel => exact ⟨2, rfl, by omega, Q9, R9, F9⟩
      case measure => simp [intOf]
    · go_upto_region 6 with (fail)
      have TRACE : True := trivial
      refine wp_region_inv2 (fun b a w' => ∃ g6 : Nat, Fr (fun _ => False) wr w' ∧ (b 9 = true → wr.heap.size ≤ g6 ∧ w'.heap[g6]? = some (.cells (if b 10 = true then vs .u8 ZK else vs .u8 ZK) 23 (0, 0))) ∧ (b 10 = true → b 9 = true) ∧ a = ⟨#[.agg (vs .u8 vk), .pointer (some ⟨w.heap.size, 0, none⟩), u2, .pointer (some ⟨g3, 0, none⟩), .slice (some ⟨q, 0, none⟩) 3 3, .int .i64 2, if b 9 = true then .pointer (some ⟨g6, 0, none⟩) else u6, if b 11 = true then .int .i64 30 else u7, .agg (ec 0), .agg (ec 1), .agg (ec e2), .agg (vs .u8 LK), .agg (vs .u8 ZK), .agg (vs .u8 ON), .agg (vs .u8 LK), .slice (some ⟨q, 0, none⟩) 3 3, .int .i64 2, .bool true, u18, u19, if b 6 = true then .tuple #[.agg (vs .u8 ZK), .int .i64 30] else u20, if b 0 = true then .agg (vs .u8 vk) else u21, if b 1 = true then .slice (some ⟨q, 0, none⟩) 3 3 else u22, if b 2 = true then .int .i64 2 else u23, if b 3 = true then .pointer (some ⟨q, 64, none⟩) else u24, if b 4 = true then .agg (vs .u8 LK) else u25, if b 5 = true then .tuple #[.agg (vs .u8 ZK), .int .i64 30] else u26, if b 7 = true then .agg (vs .u8 ZK) else u27, if b 8 = true then .int .i64 30 else u28, u29, u30, u31, u32, u33, u34, u35, u36, u37, u38, u39, u40, u41, u42, u43, u44, u45, undef], []⟩) (by kernel_rfl) (by kernel_rfl) ?start6z ?step6z ?done6z
      case start6z => exact ⟨0, ⟨rfl, rfl, rfl, Nat.le_refl _, fun _ _ _ => rfl⟩, by simp, by simp, by simp⟩
      case step6z =>
        intro i o b a w1 ho hI hb hr hc
        obtain ⟨g6, hF, h9, hq9, rfl⟩ := hI
        match i, ho with
        | 0, ho =>
          injection ho with ho
          subst ho
          refine wp_quiet_here _ (quiet_load 23 (.tmp 1) rfl (w.heap.size) rfl 23 _ (0, 0) _ (fun _ h => (Fr.block h _ (Nat.lt_of_lt_of_le (heap_lt hR.out) hF.size) (fun x => x)).trans ((hF.block _ (heap_lt hR.out) (fun x => x)).trans hR.out)) Try.underlying23 rfl (key_info k_vk.out) rfl) (fun w2 hw2 => ?_)
          refine ⟨g6, hF.trans hw2, ?_, ?_, ?_⟩
          · intro hx
            replace hx : b 9 = true := by simpa [upd] using hx
            obtain ⟨k1', k2⟩ := h9 hx
            refine ⟨k1', (hw2.block _ (heap_lt k2) (fun x => x)).trans ?_⟩
            rw [k2]
            simp [upd]
          · simpa [upd] using hq9
          · simp [upd, Act.put]
        | 1, ho =>
          injection ho with ho
          subst ho
          refine wp_quiet_here (.slice (some ⟨q, 0, none⟩) 3 3) (BigFrame.quiet_move _ rfl rfl) (fun w2 hw2 => ?_)
          refine ⟨g6, hF.trans hw2, ?_, ?_, ?_⟩
          · intro hx
            replace hx : b 9 = true := by simpa [upd] using hx
            obtain ⟨k1', k2⟩ := h9 hx
            refine ⟨k1', (hw2.block _ (heap_lt k2) (fun x => x)).trans ?_⟩
            rw [k2]
            simp [upd]
          · simpa [upd] using hq9
          · simp [upd, Act.put]
        | 2, ho =>
          injection ho with ho
          subst ho
          refine wp_quiet_here (.int .i64 2) (BigFrame.quiet_move _ rfl rfl) (fun w2 hw2 => ?_)
          refine ⟨g6, hF.trans hw2, ?_, ?_, ?_⟩
          · intro hx
            replace hx : b 9 = true := by simpa [upd] using hx
            obtain ⟨k1', k2⟩ := h9 hx
            refine ⟨k1', (hw2.block _ (heap_lt k2) (fun x => x)).trans ?_⟩
            rw [k2]
            simp [upd]
          · simpa [upd] using hq9
          · simp [upd, Act.put]
        | 3, ho =>
          injection ho with ho
          subst ho
          simp [Region.binds] at hr
          have d1 : b 1 = true := by simp only [hr]
          have d2 : b 2 = true := by simp only [hr]
          simp only [hr, if_true]
          refine wp_quiet_here (.pointer (some ⟨q, 64, none⟩)) (quiet_kidx (.tmp 22) (.tmp 23) rfl q 3 3 2 rfl (2 : Int) rfl rfl (by decide) rfl) (fun w2 hw2 => ?_)
          refine ⟨g6, hF.trans hw2, ?_, ?_, ?_⟩
          · intro hx
            replace hx : b 9 = true := by simpa [upd] using hx
            obtain ⟨k1', k2⟩ := h9 hx
            refine ⟨k1', (hw2.block _ (heap_lt k2) (fun x => x)).trans ?_⟩
            rw [k2]
            simp [upd]
          · simpa [upd] using hq9
          · simp [upd, Act.put, hr]
        | 4, ho =>
          injection ho with ho
          subst ho
          simp [Region.binds] at hr
          have d3 : b 3 = true := by simp only [hr]
          simp only [hr, if_true]
          refine wp_quiet_here _ (quiet_key (.tmp 24) rfl (q) 64 rfl LK k_LK.out (fun _ h => key_last k_ZK.out k_ON.out ((Fr.block h _ (Nat.lt_of_lt_of_le (heap_lt hQ.out) hF.size) (fun x => x)).trans ((hF.block _ (heap_lt hQ.out) (fun x => x)).trans hQ.out))) rfl) (fun w2 hw2 => ?_)
          refine ⟨g6, hF.trans hw2, ?_, ?_, ?_⟩
          · intro hx
            replace hx : b 9 = true := by simpa [upd] using hx
            obtain ⟨k1', k2⟩ := h9 hx
            refine ⟨k1', (hw2.block _ (heap_lt k2) (fun x => x)).trans ?_⟩
            rw [k2]
            simp [upd]
          · simpa [upd] using hq9
          · simp [upd, Act.put, hr]
        | 5, ho =>
          injection ho with ho
          subst ho
          simp [Region.binds] at hr
          have d0 : b 0 = true := by simp only [hr]
          have d4 : b 4 = true := by simp only [hr]
          simp only [hr, if_true]
          refine wp_quiet_here (.tuple #[.agg (vs .u8 ZK), .int .i64 30]) ?_ (fun w2 hw2 => ?_)
          · go_big_quiet_op
            exact ⟨_, Calm.calls CL, by simp [Act.put]⟩
          refine ⟨g6, hF.trans hw2, ?_, ?_, ?_⟩
          · intro hx
            replace hx : b 9 = true := by simpa [upd] using hx
            obtain ⟨k1', k2⟩ := h9 hx
            refine ⟨k1', (hw2.block _ (heap_lt k2) (fun x => x)).trans ?_⟩
            rw [k2]
            simp [upd]
          · simpa [upd] using hq9
          · simp [upd, Act.put, hr]
        | 6, ho =>
          injection ho with ho
          subst ho
          simp [Region.binds] at hr
          have d5 : b 5 = true := by simp only [hr]
          simp only [hr, if_true]
          refine wp_quiet_here (.tuple #[.agg (vs .u8 ZK), .int .i64 30]) ?_ (fun w2 hw2 => ?_)
          · go_big_quiet_op
            first
              | (simp [Act.put]; done)
              | exact ⟨_, fun _ _ => rfl, by simp [Act.put]⟩
          refine ⟨g6, hF.trans hw2, ?_, ?_, ?_⟩
          · intro hx
            replace hx : b 9 = true := by simpa [upd] using hx
            obtain ⟨k1', k2⟩ := h9 hx
            refine ⟨k1', (hw2.block _ (heap_lt k2) (fun x => x)).trans ?_⟩
            rw [k2]
            simp [upd]
          · simpa [upd] using hq9
          · simp [upd, Act.put, hr]
        | 7, ho =>
          injection ho with ho
          subst ho
          simp [Region.binds] at hr
          have d6 : b 6 = true := by simp only [hr]
          simp only [hr, if_true]
          refine wp_quiet_here (.agg (vs .u8 ZK)) ?_ (fun w2 hw2 => ?_)
          · go_big_quiet_op
            first
              | (simp [Act.put]; done)
              | exact ⟨_, fun _ _ => rfl, by simp [Act.put]⟩
          refine ⟨g6, hF.trans hw2, ?_, ?_, ?_⟩
          · intro hx
            replace hx : b 9 = true := by simpa [upd] using hx
            obtain ⟨k1', k2⟩ := h9 hx
            refine ⟨k1', (hw2.block _ (heap_lt k2) (fun x => x)).trans ?_⟩
            rw [k2]
            simp [upd]
          · simpa [upd] using hq9
          · simp [upd, Act.put, hr]
        | 8, ho =>
          injection ho with ho
          subst ho
          simp [Region.binds] at hr
          have d6 : b 6 = true := by simp only [hr]
          simp only [hr, if_true]
          refine wp_quiet_here (.int .i64 30) ?_ (fun w2 hw2 => ?_)
          · go_big_quiet_op
            first
              | (simp [Act.put]; done)
              | exact ⟨_, fun _ _ => rfl, by simp [Act.put]⟩
          refine ⟨g6, hF.trans hw2, ?_, ?_, ?_⟩
          · intro hx
            replace hx : b 9 = true := by simpa [upd] using hx
            obtain ⟨k1', k2⟩ := h9 hx
            refine ⟨k1', (hw2.block _ (heap_lt k2) (fun x => x)).trans ?_⟩
            rw [k2]
            simp [upd]
          · simpa [upd] using hq9
          · simp [upd, Act.put, hr]
        | 9, ho =>
          injection ho with ho
          subst ho
          refine wp_alloc_any 23 rfl (vs .u8 ZK) zkk ?_
          refine ⟨w1.heap.size, hF.alloc _, ?_, ?_, ?_⟩
          · intro _
            refine ⟨hF.size, (heap_alloc_new w1 _).trans ?_⟩
            have hs : b 10 = false := by
              rcases hbs : b 10 with _ | _
              · rfl
              · rw [hq9 hbs] at hb
                cases hb
            simp [upd, hs]
          · simp [upd]
          · simp [upd, Act.put]
        | 10, ho =>
          injection ho with ho
          subst ho
          simp [Region.binds] at hr
          have d7 : b 7 = true := by simp only [hr]
          have d9 : b 9 = true := by simp only [hr]
          simp only [hr, if_true]
          obtain ⟨k1, k2⟩ := h9 d9
          rw [hb] at k2
          simp only [Bool.false_eq_true, if_false] at k2
          refine wp_store_row 23 (.tmp 6) (.tmp 27) rfl g6 (vs .u8 ZK) rfl rfl 23 _ k2 (key_info k_ZK.out) rfl (vs_all _ _) ?_
          refine ⟨g6, hF.setRow _ (.inr k1), ?_, ?_, ?_⟩
          · intro _
            refine ⟨k1, (setRow_heap _ _ _ _ _ _ k2).trans ?_⟩
            simp [upd]
          · simp [upd, d9]
          · simp [upd, Act.put, hr]
        | 11, ho =>
          injection ho with ho
          subst ho
          simp [Region.binds] at hr
          have d8 : b 8 = true := by simp only [hr]
          simp only [hr, if_true]
          refine wp_quiet_here (.int .i64 30) ?_ (fun w2 hw2 => ?_)
          · go_big_quiet_op
            first
              | (simp [Act.put]; done)
              | exact ⟨_, fun _ _ => rfl, by simp [Act.put]⟩
          refine ⟨g6, hF.trans hw2, ?_, ?_, ?_⟩
          · intro hx
            replace hx : b 9 = true := by simpa [upd] using hx
            obtain ⟨k1', k2⟩ := h9 hx
            refine ⟨k1', (hw2.block _ (heap_lt k2) (fun x => x)).trans ?_⟩
            rw [k2]
            simp [upd]
          · simpa [upd] using hq9
          · simp [upd, Act.put, hr]
        | j + 12, ho => exact absurd ho (by simp)
      intro b a W7 hall hI
      obtain ⟨g6, hF, h9, hq9, rfl⟩ := hI
      have t0 : b 0 = true := hall 0 (by simp)
      have t1 : b 1 = true := hall 1 (by simp)
      have t2 : b 2 = true := hall 2 (by simp)
      have t3 : b 3 = true := hall 3 (by simp)
      have t4 : b 4 = true := hall 4 (by simp)
      have t5 : b 5 = true := hall 5 (by simp)
      have t6 : b 6 = true := hall 6 (by simp)
      have t7 : b 7 = true := hall 7 (by simp)
      have t8 : b 8 = true := hall 8 (by simp)
      have t9 : b 9 = true := hall 9 (by simp)
      have t10 : b 10 = true := hall 10 (by simp)
      have t11 : b 11 = true := hall 11 (by simp)
      simp only [t0, t1, t2, t3, t4, t5, t6, t7, t8, t9, t10, t11, if_true, true_implies] at h9 hq9 ⊢
      have F7 : Hid (Fr (fun _ => False) w W7) := hFr.out.trans hF
      have X7_0 := Lib.hid ((hF.block _ (heap_lt hR.out) (fun x => x)).trans hR.out)
      have X7_1 := Lib.hid ((hF.block _ (heap_lt hQ.out) (fun x => x)).trans hQ.out)
      have X7_2 := Lib.hid h9.2
      have Yg6 : w.heap.size ≤ g6 := Nat.le_trans hFr.out.size h9.1
      clear hall hF h9 hq9 t0 t1 t2 t3 t4 t5 t6 t7 t8 t9 t10 t11 
      go_upto_region 7 with (fail)
      refine wp_region_quiet (C := Calm W7) (by kernel_rfl) (by kernel_rfl) (Calm.start _ _ (Fr.refl _ _)) ?_
      refine BigFrame.wpQuiet_want rfl fun K hK => ?_
      try simp only [Act.put, List.setIfInBounds_toArray, List.set_cons_succ, List.set_cons_zero]
      go_big_quiet_op
      refine hK _ ?_
      refine BigFrame.wpQuiet_want rfl fun K hK => ?_
      try simp only [Act.put, List.setIfInBounds_toArray, List.set_cons_succ, List.set_cons_zero]
      go_big_quiet_op
      first
        | refine ⟨_, fun _ _ => rfl, hK _ ?_⟩
        | refine hK _ ?_
      refine BigFrame.wpQuiet_want rfl fun K hK => ?_
      try simp only [Act.put, List.setIfInBounds_toArray, List.set_cons_succ, List.set_cons_zero]
      go_big_quiet_op
      refine hK _ ?_
      refine BigFrame.wpQuiet_want rfl fun K hK => quiet_load 23 (.tmp 6) rfl (g6) rfl 23 _ (0, 0) _ (fun _ h => Calm.at X7_2.out h) Try.underlying23 rfl (key_info k_ZK.out) (hK _ ?_)
      refine BigFrame.wpQuiet_want rfl fun K hK => quiet_run (.agg (vs .u8 ZK)) (fun _ _ => by rw [HZK.out]; kernel_rfl) (hK _ ?_)
      refine BigFrame.wpQuiet_want rfl fun K hK => ?_
      try simp only [Act.put, List.setIfInBounds_toArray, List.set_cons_succ, List.set_cons_zero]
      go_big_quiet_op
      first
        | refine ⟨_, fun _ _ => rfl, hK _ ?_⟩
        | refine hK _ ?_
      refine BigFrame.wpQuiet_want rfl fun K hK => ?_
      try simp only [Act.put, List.setIfInBounds_toArray, List.set_cons_succ, List.set_cons_zero]
      go_big_quiet_op
      first
        | refine ⟨_, fun _ _ => rfl, hK _ ?_⟩
        | refine hK _ ?_
      refine BigFrame.wpQuiet_want rfl fun K hK => ?_
      try simp only [Act.put, List.setIfInBounds_toArray, List.set_cons_succ, List.set_cons_zero]
      go_big_quiet_op
      refine hK _ ?_
      refine BigFrame.wpQuiet_want rfl fun K hK => quiet_load 23 (.tmp 1) rfl (w.heap.size) rfl 23 _ (0, 0) _ (fun _ h => Calm.at X7_0.out h) Try.underlying23 rfl (key_info k_vk.out) (hK _ ?_)
      refine BigFrame.wpQuiet_want rfl fun K hK => ?_
      try simp only [Act.put, List.setIfInBounds_toArray, List.set_cons_succ, List.set_cons_zero]
      go_big_quiet_op
      refine hK _ ?_
      refine BigFrame.wpQuiet_want rfl fun K hK => ?_
      try simp only [Act.put, List.setIfInBounds_toArray, List.set_cons_succ, List.set_cons_zero]
      go_big_quiet_op
      refine hK _ ?_
      refine BigFrame.wpQuiet_want rfl fun K hK => quiet_kidx (.tmp 38) (.tmp 39) rfl q 3 3 2 rfl (2 : Int) rfl rfl (by decide) (hK _ ?_)
      refine BigFrame.wpQuiet_want rfl fun K hK => quiet_key (.tmp 40) rfl q 64 rfl LK k_LK.out (fun _ h => key_last k_ZK.out k_ON.out (Calm.at X7_1.out h)) (hK _ ?_)
      refine BigFrame.wpQuiet_want rfl fun K hK => ?_
      try simp only [Act.put, List.setIfInBounds_toArray, List.set_cons_succ, List.set_cons_zero]
      go_big_quiet_op
      refine ⟨_, Calm.calls DL, hK _ ?_⟩
      refine BigFrame.wpQuiet_want rfl fun K hK => quiet_run (.agg (vs .u8 ZK)) (fun _ _ => by rw [HZK.out]; kernel_rfl) (hK _ ?_)
      refine BigFrame.wpQuiet_want rfl fun K hK => ?_
      try simp only [Act.put, List.setIfInBounds_toArray, List.set_cons_succ, List.set_cons_zero]
      go_big_quiet_op
      first
        | refine ⟨_, fun _ _ => rfl, hK _ ?_⟩
        | refine hK _ ?_
      refine BigFrame.wpQuiet_want rfl fun K hK => ?_
      try simp only [Act.put, List.setIfInBounds_toArray, List.set_cons_succ, List.set_cons_zero]
      go_big_quiet_op
      first
        | refine ⟨_, fun _ _ => rfl, hK _ ?_⟩
        | refine hK _ ?_
      refine wpQuiet_nil ?_
      intro w9 hw9
      have F9 : Hid (Fr (fun _ => False) w w9) := F7.out.trans hw9
      have Q9 : Hid (w9.heap[q]? = some (.cells (vs .u8 (ZK ++ (ON ++ LK))) 23 (0, 0))) := Calm.at X7_1.out hw9
      have R9 : Hid (w9.heap[w.heap.size]? = some (.cells (vs .u8 vk) 23 (0, 0))) := Calm.at X7_0.out hw9
      clear hw9
      try simp only [Act.put, List.setIfInBounds_toArray, List.set_cons_succ, List.set_cons_zero]
      go_wp2
      go_roundw
      case rel => exact ⟨3, rfl, by omega, Q9, R9, F9⟩
      case measure => simp [intOf]
    · go_wp2_with (refine (CA _).mono ?_; rintro e w5 ⟨rfl, hf⟩)
      go_wp2
      go_ret
      exact ⟨rfl, hFr.out.trans hf⟩

set_option maxRecDepth 100000 in
theorem law_low_lifted (os : Os) (started : os.Started) (H : Type) (enc : TypeId × Value → H) :
    ReturnsInHanded {} Try.checked os 11 .any (Rows.curveLowSpec.pre6 enc Try.prog Try.f11 Rows.curveLowRow.domain false) (Rows.curveLowSpec.post enc Try.prog Try.f11 false true false false) := by
  refine returnsInHanded_of_change (C := Try.checked) own started (by kernel_rfl) Try.func11
    (ChangeSpec.witness6 (enc := enc) (C := Try.checked) false ⟨#[], #[.agg (vs .u8 (List.replicate 32 0))], []⟩ 8 (by kernel_rfl) (by kernel_rfl) (by kernel_rfl) (by kernel_rfl)) ?_
  intro W base args ds gs before hval0 hW hcnd _
  have hval : ∀ (j : Nat) t v, Try.f11.params[j]? = some t → args[j]? = some v → Value.okWide Try.prog W .any base t v := hval0
  have hW' := hW
  obtain ⟨p, q, hA0, hV, rfl, hfz, hnd⟩ := hW
  have hA : DataW.TrodAll enc Try.prog W 0 (fun _ => true) true Try.f11.params.toList args.toList ds p := hA0
  rw [Try.params11] at hA hval
  obtain ⟨v0, vs0, d0, ds0, p0, q0, hargs, rfl, rfl, h0, r0⟩ := trodAll_cons hA
  obtain ⟨rfl, rfl, rfl⟩ := trodAll_nil r0
  obtain rfl : args = #[v0] := by cases args; simp_all
  obtain ⟨rfl, rfl⟩ := trodVars_none hV
  obtain ⟨l0, rfl, e0, b0⟩ := open_key (hval 0 23 v0 rfl rfl) h0
  clear hA0 hval0
  refine (law_low_any l0 W e0 b0).mono fun e W' ⟨he, hg⟩ => ?_
  subst he
  exact ⟨_, rfl, post_true rfl hW' (by kernel_rfl) rfl rfl hg⟩

theorem curveLow_holds : Rows.CurveLowSaid :=
  OpenClaim.holds_of_wide 11 Try.f11 rfl rfl rfl rfl rfl rfl rfl ⟨rfl, rfl, rfl, rfl, rfl⟩ rfl rfl rfl rfl rfl (by kernel_rfl) Try.func11 (by kernel_rfl)
    (of_decide_eq_true (by kernel_rfl)) (by unfold Func.isWrapper; first | (rw [if_pos (by decide +kernel)]; kernel_rfl) | (rw [if_neg (by decide +kernel)]; exact ⟨rfl, rfl⟩))
    (fun os started H enc _ => law_low_lifted os started H enc)
#print axioms curveLow_holds
end Go.Proofs.Ytbkbodcncjhcmaa
