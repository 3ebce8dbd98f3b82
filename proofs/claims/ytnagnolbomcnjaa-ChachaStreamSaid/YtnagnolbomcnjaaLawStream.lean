/- ChachaStream answers true for all keys, counters, nonces and numbers, and its arguments read behind the call as they did: the given statement ChachaStreamSaid. No condition. -/
import Derived.Test.YtnagnolbomcnjaaBr
namespace Go.Proofs.Ytnagnolbomcnjaa
set_option linter.unusedSimpArgs false
set_option linter.unusedVariables false
set_option linter.unusedVariables false
open Go.ChangeShapes Go.WideShapes Go.ChangeAt Go.RowKit

theorem neg_ms {n : Nat} (hn : n ≤ 140737488355328) {o : Oper} {a : Act} {w : World} {x y : Operand} (ho : o.op = .makeSlice 35 x y) (hx : a.eval x = .int .i64 n) (hy : a.eval y = .int .i64 n) :
    (execOp a.eval o).run Try.prog w = .ok (.value (.slice (some ⟨w.heap.size, 0, none⟩) n n)) (w.alloc (.cells (vs .u8 (List.replicate n 0)) 5)) := by
  unfold execOp
  simp only [ho, hx, hy, Sem.run_bind, run_mk2 n hn w, Result.andThen_ok, Sem.run_pure]
set_option maxRecDepth 100000 in
set_option maxHeartbeats 8000000 in
theorem law_stream_any (vk : List Int) (vc : Int) (vn : List Int) (z : Int) (w : World) (hk : vk.length = 32) (bk : Bys vk) (hc : Wd vc) (hn : vn.length = 12) (bn : Bys vn) (hz : -9223372036854775808 ≤ z ∧ z ≤ 9223372036854775807) :
    Calls Try.prog 9 #[.agg (bg vk vc vn), .int .i64 z] w fun e w' => e = .returned (.bool true) ∧ Fr (fun _ => False) w w' := by
  have HB := Lib.hid (And.intro hk (And.intro bk (And.intro hc (And.intro hn bn))))
  clear hk bk hn bn
  go_enter Try.func9, Try.ntmps9
  go_upto_region 1 with (fail)
  generalize hW : w.alloc (.cells (bg vk vc vn) 31) = W0
  have HW := Lib.hid (calm1a hW)
  have X0 := Lib.hid HW.out.1
  have F0 : Hid (Fr (fun _ => False) w W0) := HW.out.2
  clear hW HW
  go_upto_region 3 with (go_at_call 15; refine (works_is _).mono ?_; rintro e w1 ⟨rfl, hf⟩; replace X0 := Lib.hid (Calm.at X0.out hf); replace F0 := Lib.hid (F0.out.trans hf); clear hf)
  try simp only [Act.put, List.setIfInBounds_toArray, List.set_cons_succ, List.set_cons_zero]
  have HC := Lib.hid hc
  have k_vk := Lib.hid HB.out.1
  have k_vn := Lib.hid HB.out.2.2.2.1
  have CBr : ∀ W, Calls Try.prog 23 #[.int .i64 z, .int .i64 300] W fun e w' => ∃ r : Nat, r < 300 ∧ e = .returned (.int .i64 r) ∧ W = w' := fun W => bring_ex z 300 W hz.1 hz.2 (by decide) (by decide)
  go_upto_region 4 with (go_at_call 23; refine (CBr _).mono ?_; rintro e w' ⟨r, hr, rfl, rfl⟩)
  clear CBr hz
  have HR := Lib.hid hr
  have HM0 : Hid (r ≤ 140737488355328) := by show r ≤ _; omega
  try simp only [Act.put, List.setIfInBounds_toArray, List.set_cons_succ, List.set_cons_zero]
  by_cases hlim : (r : Int) ≤ (4294967296 - vc) * 64
  · have HLIM := Lib.hid hlim
    clear hlim
    refine wp_region_inv2 (fun b a w' => ∃ gm g1 : Nat, Fr (fun _ => False) w1 w' ∧ (b 7 = true → w1.heap.size ≤ gm ∧ Ar w' gm 5 .u8 (List.replicate r 0)) ∧ (b 8 = true → w1.heap.size ≤ g1 ∧ Ar w' g1 5 .u8 (xo vk vc vn (List.replicate r 0))) ∧ a = ⟨#[.agg (bg vk vc vn), .int .i64 r, .pointer (some ⟨w.heap.size, 0, none⟩), undef, .bool false, if b 12 = true then .slice (some ⟨g1, 0, none⟩) r r else undef, if b 13 = true then .int .i64 0 else undef, undef, undef, .bool true, .bool false, .int .i64 z, .int .i64 r, if b 9 = true then .tuple #[.slice (some ⟨g1, 0, none⟩) r r, .int .i64 0] else undef, if b 0 = true then .pointer (some ⟨w.heap.size, 0, none⟩) else undef, if b 1 = true then .agg (vs .u8 vk) else undef, if b 2 = true then .pointer (some ⟨w.heap.size, 32, none⟩) else undef, if b 3 = true then .int .u32 vc else undef, if b 4 = true then .pointer (some ⟨w.heap.size, 33, none⟩) else undef, if b 5 = true then .agg (vs .u8 vn) else undef, if b 6 = true then .int .i64 r else undef, if b 7 = true then .slice (some ⟨gm, 0, none⟩) r r else undef, if b 8 = true then .tuple #[.slice (some ⟨g1, 0, none⟩) r r, .int .i64 0] else undef, if b 10 = true then .slice (some ⟨g1, 0, none⟩) r r else undef, if b 11 = true then .int .i64 0 else undef, undef, undef, undef, undef, undef, undef, undef, undef, undef, undef, undef, undef, undef, undef, undef, undef, undef, undef, undef, undef, undef, undef, undef, undef, undef, undef, undef, undef, undef, undef, undef, undef, undef, undef, undef, undef, undef, undef, undef, undef], []⟩) (by kernel_rfl) (by kernel_rfl) ?start4 ?step4 ?done4
    case start4 => exact ⟨0, 0, ⟨rfl, rfl, rfl, Nat.le_refl _, fun _ _ _ => rfl⟩, fun h => by simp at h, fun h => by simp at h, by simp⟩
    case step4 =>
      intro i5 o5 b a w1 ho hI hb hr hcl
      obtain ⟨gm, g1, hF, h7, h8, rfl⟩ := hI
      match i5, ho with
      | 0, ho =>
        injection ho with ho
        subst ho
        refine wp_quiet_here (.pointer (some ⟨w.heap.size, 0, none⟩)) ?_ (fun w2 hw2 => ?_)
        · simp only [Bool.false_eq_true] 
          go_big_quiet_op
          first
            | (simp [Act.put]; done)
            | exact ⟨_, fun _ _ => rfl, by simp [Act.put]⟩
        refine ⟨gm, g1, hF.trans hw2, ?_, ?_, ?_⟩
        · intro hx
          have hy := h7 (by simpa [upd] using hx)
          exact ⟨hy.1, hy.2.fr hw2 (fun x => x)⟩
        · intro hx
          have hy := h8 (by simpa [upd] using hx)
          exact ⟨hy.1, hy.2.fr hw2 (fun x => x)⟩
        · simp [upd, Act.put]
      | 1, ho =>
        injection ho with ho
        subst ho
        simp [Region.binds] at hr
        have d0 : b 0 = true := by simp only [hr]
        simp only [hr, if_true]
        refine wp_quiet_here (.agg (vs .u8 vk)) (quiet_mid 28 _ (.tmp 14) rfl (w.heap.size) 0 rfl .u8 vk Try.underlying28 rfl (by rw [k_vk.out]; kernel_rfl) (fun _ h => bg_key k_vk.out ((Fr.block h _ (Nat.lt_of_lt_of_le (heap_lt X0.out) hF.size) (fun x => x)).trans ((hF.block _ (heap_lt X0.out) (fun x => x)).trans X0.out))) rfl) (fun w2 hw2 => ?_)
        refine ⟨gm, g1, hF.trans hw2, ?_, ?_, ?_⟩
        · intro hx
          have hy := h7 (by simpa [upd] using hx)
          exact ⟨hy.1, hy.2.fr hw2 (fun x => x)⟩
        · intro hx
          have hy := h8 (by simpa [upd] using hx)
          exact ⟨hy.1, hy.2.fr hw2 (fun x => x)⟩
        · simp [upd, Act.put, hr]
      | 2, ho =>
        injection ho with ho
        subst ho
        refine wp_quiet_here (.pointer (some ⟨w.heap.size, 32, none⟩)) ?_ (fun w2 hw2 => ?_)
        · simp only [Bool.false_eq_true] 
          go_big_quiet_op
          first
            | (simp [Act.put]; done)
            | exact ⟨_, fun _ _ => rfl, by simp [Act.put]⟩
        refine ⟨gm, g1, hF.trans hw2, ?_, ?_, ?_⟩
        · intro hx
          have hy := h7 (by simpa [upd] using hx)
          exact ⟨hy.1, hy.2.fr hw2 (fun x => x)⟩
        · intro hx
          have hy := h8 (by simpa [upd] using hx)
          exact ⟨hy.1, hy.2.fr hw2 (fun x => x)⟩
        · simp [upd, Act.put]
      | 3, ho =>
        injection ho with ho
        subst ho
        simp [Region.binds] at hr
        have d2 : b 2 = true := by simp only [hr]
        simp only [hr, if_true]
        refine wp_quiet_here (.int .u32 vc) (quiet_one 22 .u32 (.tmp 16) rfl (w.heap.size) 32 rfl vc Try.underlying22 (fun _ h => bg_cell k_vk.out ((Fr.block h _ (Nat.lt_of_lt_of_le (heap_lt X0.out) hF.size) (fun x => x)).trans ((hF.block _ (heap_lt X0.out) (fun x => x)).trans X0.out))) rfl) (fun w2 hw2 => ?_)
        refine ⟨gm, g1, hF.trans hw2, ?_, ?_, ?_⟩
        · intro hx
          have hy := h7 (by simpa [upd] using hx)
          exact ⟨hy.1, hy.2.fr hw2 (fun x => x)⟩
        · intro hx
          have hy := h8 (by simpa [upd] using hx)
          exact ⟨hy.1, hy.2.fr hw2 (fun x => x)⟩
        · simp [upd, Act.put, hr]
      | 4, ho =>
        injection ho with ho
        subst ho
        refine wp_quiet_here (.pointer (some ⟨w.heap.size, 33, none⟩)) ?_ (fun w2 hw2 => ?_)
        · simp only [Bool.false_eq_true] 
          go_big_quiet_op
          first
            | (simp [Act.put]; done)
            | exact ⟨_, fun _ _ => rfl, by simp [Act.put]⟩
        refine ⟨gm, g1, hF.trans hw2, ?_, ?_, ?_⟩
        · intro hx
          have hy := h7 (by simpa [upd] using hx)
          exact ⟨hy.1, hy.2.fr hw2 (fun x => x)⟩
        · intro hx
          have hy := h8 (by simpa [upd] using hx)
          exact ⟨hy.1, hy.2.fr hw2 (fun x => x)⟩
        · simp [upd, Act.put]
      | 5, ho =>
        injection ho with ho
        subst ho
        simp [Region.binds] at hr
        have d4 : b 4 = true := by simp only [hr]
        simp only [hr, if_true]
        refine wp_quiet_here (.agg (vs .u8 vn)) (quiet_mid 29 _ (.tmp 18) rfl (w.heap.size) 33 rfl .u8 vn Try.underlying29 rfl (by rw [k_vn.out]; kernel_rfl) (fun _ h => bg_nonce k_vk.out ((Fr.block h _ (Nat.lt_of_lt_of_le (heap_lt X0.out) hF.size) (fun x => x)).trans ((hF.block _ (heap_lt X0.out) (fun x => x)).trans X0.out))) rfl) (fun w2 hw2 => ?_)
        refine ⟨gm, g1, hF.trans hw2, ?_, ?_, ?_⟩
        · intro hx
          have hy := h7 (by simpa [upd] using hx)
          exact ⟨hy.1, hy.2.fr hw2 (fun x => x)⟩
        · intro hx
          have hy := h8 (by simpa [upd] using hx)
          exact ⟨hy.1, hy.2.fr hw2 (fun x => x)⟩
        · simp [upd, Act.put, hr]
      | 6, ho =>
        injection ho with ho
        subst ho
        refine wp_quiet_here (.int .i64 r) (BigFrame.quiet_move _ rfl rfl) (fun w2 hw2 => ?_)
        refine ⟨gm, g1, hF.trans hw2, ?_, ?_, ?_⟩
        · intro hx
          have hy := h7 (by simpa [upd] using hx)
          exact ⟨hy.1, hy.2.fr hw2 (fun x => x)⟩
        · intro hx
          have hy := h8 (by simpa [upd] using hx)
          exact ⟨hy.1, hy.2.fr hw2 (fun x => x)⟩
        · simp [upd, Act.put]
      | 7, ho =>
        injection ho with ho
        subst ho
        simp [Region.binds] at hr
        have d6 : b 6 = true := by simp only [hr]
        simp only [hr, if_true]
        refine wp_value (.slice (some ⟨w1.heap.size, 0, none⟩) _ _) _ (neg_ms HM0.out rfl rfl rfl) ?_
        refine ⟨w1.heap.size, g1, hF.alloc _, ?_, ?_, ?_⟩
        · exact fun _ => ⟨hF.size, heap_alloc_new w1 _⟩
        · intro hx
          have hy := h8 (by simpa [upd] using hx)
          exact ⟨hy.1, hy.2.alloc _⟩
        · simp [upd, Act.put, hr]
      | 8, ho =>
        injection ho with ho
        subst ho
        simp [Region.binds] at hr
        have d1 : b 1 = true := by simp only [hr]
        have d3 : b 3 = true := by simp only [hr]
        have d5 : b 5 = true := by simp only [hr]
        have d7 : b 7 = true := by simp only [hr]
        simp only [hr, if_true]
        have n9 : b 9 = false := by
          rcases hbs : b 9 with _ | _
          · rfl
          · rw [chain hcl 9 8 rfl hbs (by simp [Region.binds])] at hb
            cases hb
        have n10 : b 10 = false := by
          rcases hbs : b 10 with _ | _
          · rfl
          · rw [chain hcl 9 8 rfl (chain hcl 10 9 rfl hbs (by simp [Region.binds])) (by simp [Region.binds])] at hb
            cases hb
        have n12 : b 12 = false := by
          rcases hbs : b 12 with _ | _
          · rfl
          · rw [chain hcl 9 8 rfl (chain hcl 10 9 rfl (chain hcl 12 10 rfl hbs (by simp [Region.binds])) (by simp [Region.binds])) (by simp [Region.binds])] at hb
            cases hb
        refine wp_enter 19 #[.agg (vs .u8 vk), .int .u32 vc, .agg (vs .u8 vn), .slice (some ⟨gm, 0, none⟩) r r] (by kernel_rfl) ((xor_ex vk vc vn gm (some ⟨gm, 0, none⟩) r r (List.replicate r 0) w1 HB.out.1 HB.out.2.1 HC.out HB.out.2.2.2.1 HB.out.2.2.2.2 ((h7 d7).2.sl (noughts r) (by simp) (by have := HR.out; simp only [maxLen]; omega)) HM0.out HLIM.out (fun _ => (h7 d7).2.lt)).mono ?_)
        rintro e w2 ⟨gN, hgN, rfl, haN, hfN⟩
        refine ⟨gm, gN, hF.trans hfN, ?_, ?_, ?_⟩
        · intro hx
          have hy := h7 (by simpa [upd] using hx)
          exact ⟨hy.1, hy.2.fr hfN (fun x => x)⟩
        · exact fun _ => ⟨Nat.le_trans hF.size hgN, haN⟩
        · simp [upd, Act.put, hr, n9, n10, n12]
      | 9, ho =>
        injection ho with ho
        subst ho
        simp [Region.binds] at hr
        have d8 : b 8 = true := by simp only [hr]
        simp only [hr, if_true]
        refine wp_quiet_here (.tuple #[.slice (some ⟨g1, 0, none⟩) r r, .int .i64 0]) (BigFrame.quiet_move _ rfl rfl) (fun w2 hw2 => ?_)
        refine ⟨gm, g1, hF.trans hw2, ?_, ?_, ?_⟩
        · intro hx
          have hy := h7 (by simpa [upd] using hx)
          exact ⟨hy.1, hy.2.fr hw2 (fun x => x)⟩
        · intro hx
          have hy := h8 (by simpa [upd] using hx)
          exact ⟨hy.1, hy.2.fr hw2 (fun x => x)⟩
        · simp [upd, Act.put, hr]
      | 10, ho =>
        injection ho with ho
        subst ho
        simp [Region.binds] at hr
        have d9 : b 9 = true := by simp only [hr]
        simp only [hr, if_true]
        refine wp_quiet_here (.slice (some ⟨g1, 0, none⟩) r r) ?_ (fun w2 hw2 => ?_)
        · go_big_quiet_op
          first
            | (simp [Act.put]; done)
            | exact ⟨_, fun _ _ => rfl, by simp [Act.put]⟩
        refine ⟨gm, g1, hF.trans hw2, ?_, ?_, ?_⟩
        · intro hx
          have hy := h7 (by simpa [upd] using hx)
          exact ⟨hy.1, hy.2.fr hw2 (fun x => x)⟩
        · intro hx
          have hy := h8 (by simpa [upd] using hx)
          exact ⟨hy.1, hy.2.fr hw2 (fun x => x)⟩
        · simp [upd, Act.put, hr]
      | 11, ho =>
        injection ho with ho
        subst ho
        simp [Region.binds] at hr
        have d9 : b 9 = true := by simp only [hr]
        simp only [hr, if_true]
        refine wp_quiet_here (.int .i64 0) ?_ (fun w2 hw2 => ?_)
        · go_big_quiet_op
          first
            | (simp [Act.put]; done)
            | exact ⟨_, fun _ _ => rfl, by simp [Act.put]⟩
        refine ⟨gm, g1, hF.trans hw2, ?_, ?_, ?_⟩
        · intro hx
          have hy := h7 (by simpa [upd] using hx)
          exact ⟨hy.1, hy.2.fr hw2 (fun x => x)⟩
        · intro hx
          have hy := h8 (by simpa [upd] using hx)
          exact ⟨hy.1, hy.2.fr hw2 (fun x => x)⟩
        · simp [upd, Act.put, hr]
      | 12, ho =>
        injection ho with ho
        subst ho
        simp [Region.binds] at hr
        have d10 : b 10 = true := by simp only [hr]
        simp only [hr, if_true]
        refine wp_quiet_here (.slice (some ⟨g1, 0, none⟩) r r) (BigFrame.quiet_assign _ rfl rfl) (fun w2 hw2 => ?_)
        refine ⟨gm, g1, hF.trans hw2, ?_, ?_, ?_⟩
        · intro hx
          have hy := h7 (by simpa [upd] using hx)
          exact ⟨hy.1, hy.2.fr hw2 (fun x => x)⟩
        · intro hx
          have hy := h8 (by simpa [upd] using hx)
          exact ⟨hy.1, hy.2.fr hw2 (fun x => x)⟩
        · simp [upd, Act.put, hr]
      | 13, ho =>
        injection ho with ho
        subst ho
        simp [Region.binds] at hr
        have d11 : b 11 = true := by simp only [hr]
        simp only [hr, if_true]
        refine wp_quiet_here (.int .i64 0) (BigFrame.quiet_assign _ rfl rfl) (fun w2 hw2 => ?_)
        refine ⟨gm, g1, hF.trans hw2, ?_, ?_, ?_⟩
        · intro hx
          have hy := h7 (by simpa [upd] using hx)
          exact ⟨hy.1, hy.2.fr hw2 (fun x => x)⟩
        · intro hx
          have hy := h8 (by simpa [upd] using hx)
          exact ⟨hy.1, hy.2.fr hw2 (fun x => x)⟩
        · simp [upd, Act.put, hr]
      | j + 14, ho => exact absurd ho (by simp)
    intro b a W5 hall hI
    obtain ⟨gm, g1, hF, h7, h8, rfl⟩ := hI
    have t0 : b 0 = true := hall 0 (by simp)
    have t1 : b 1 = true := hall 1 (by simp)
    have t2 : b 2 = true := hall 2 (by simp)
    have t3 : b 3 = true := hall 3 (by simp)
    have t4 : b 4 = true := hall 4 (by simp)
    have t5 : b 5 = true := hall 5 (by simp)
    have t6 : b 6 = true := hall 6 (by simp)
    have t7 : b 7 = true := hall 7 (by simp)
    have t8 : b 8 = true := hall 8 (by simp)
    have t9 : b 9 = true := hall 9 (by simp)
    have t10 : b 10 = true := hall 10 (by simp)
    have t11 : b 11 = true := hall 11 (by simp)
    have t12 : b 12 = true := hall 12 (by simp)
    have t13 : b 13 = true := hall 13 (by simp)
    simp only [t0, t1, t2, t3, t4, t5, t6, t7, t8, t9, t10, t11, t12, t13, if_true]
    have Ygm : Hid (w1.heap.size ≤ gm) := (h7 t7).1
    have Agm := Lib.hid (h7 t7).2
    have Yg1 : Hid (w1.heap.size ≤ g1) := (h8 t8).1
    have Ag1 := Lib.hid (h8 t8).2
    have F5 : Hid (Fr (fun _ => False) w W5) := F0.out.trans hF
    have X5_0 := Lib.hid ((hF.block _ (heap_lt X0.out) (fun x => x)).trans X0.out)
    clear hall hF h7 h8 t0 t1 t2 t3 t4 t5 t6 t7 t8 t9 t10 t11 t12 t13 
    obtain ⟨X, hX⟩ : ∃ X, xo vk vc vn (List.replicate r 0) = X := ⟨_, rfl⟩
    have A9 : Hid (Ar W5 g1 5 .u8 X) := by show _; rw [← hX]; exact Ag1.out
    have HXX : Unit → ∀ i, i < r → X[i]? = some (ks vk vc vn i) := fun _ i hi => by rw [← hX]; exact xo_noughts hi
    have HG1 := Yg1
    clear hX Ag1 Agm Ygm
    have hz : ∀ W : World, (zeroValue 32).run Try.prog W = .ok (.agg (vs .u8 (List.replicate 64 0))) W := zero64
    obtain ⟨Y, hY⟩ : ∃ Y, Y = List.replicate 64 (0 : Int) := ⟨_, rfl⟩
    rw [← hY] at hz
    have lY : Hid ((vs .u8 Y).size = 64) := by show _ = _; rw [vs_size, hY]; rfl
    clear hY
    try simp only [Act.put, List.setIfInBounds_toArray, List.set_cons_succ, List.set_cons_zero]
    have hX5 := X5_0
    go_wp2
    go_loopw [7] (fun u7 wr => ∃ i : Nat, u7 = .int .i64 i ∧ i ≤ r ∧ Hid (Ar wr g1 5 .u8 X) ∧ Hid (wr.heap[w.heap.size]? = some (.cells (bg vk vc vn) 31 (0, 0))) ∧ Hid (Fr (fun _ => False) w wr))
      (fun u7 _ => r - (intOf u7).toNat)
    case atStart => exact ⟨0, rfl, by omega, A9, X5_0, F5⟩
    case round =>
      obtain ⟨i, rfl, hi, hA, X0, hF⟩ := hrel
      by_cases hil : i < r
      · obtain ⟨q, hq⟩ : ∃ q : Nat, i / 64 = q := ⟨_, rfl⟩
        obtain ⟨t, ht⟩ : ∃ t : Nat, i % 64 = t := ⟨_, rfl⟩
        have hXi := HXX () i hil
        obtain ⟨d, hd⟩ : ∃ d, sm vc (q : Int) = d := ⟨_, rfl⟩
        have wd : Wd d := by rw [← hd]; exact sm_wd _ _
        obtain ⟨K, hK⟩ : ∃ K, K = bk64 vk d vn := ⟨_, rfl⟩
        have CB : ∀ W, Calls Try.prog 16 #[.agg (vs .u8 vk), .int .u32 d, .agg (vs .u8 vn)] W fun e w' => e = .returned (.agg (vs .u8 K)) ∧ Fr (fun _ => False) W w' := fun W => by rw [hK]; exact blockK_is vk d vn W HB.out.1 HB.out.2.1 wd HB.out.2.2.2.1 HB.out.2.2.2.2
        have lK : K.length = 64 := by rw [hK]; exact bk64_length HB.out.1 HB.out.2.1 wd HB.out.2.2.2.1 HB.out.2.2.2.2
        have iK : Hid ((Try.prog.info? 32).map (·.size) = some (vs .u8 K).size) := by show _ = _; rw [size64, vs_size, lK]
        have eK : Hid ((vs .u8 Y).size = (vs .u8 K).size) := by show _ = _; rw [lY.out, vs_size, lK]
        obtain ⟨y, hy⟩ : ∃ y, K.getD t 0 = y := ⟨_, rfl⟩
        have t64 : t < 64 := by omega
        have gK := getD_some (l := K) (i := t) (by omega)
        rw [hy] at gK
        have e0 : ks vk vc vn i = y := by
          unfold ks
          rw [hq, ht, hd, ← hK, hy]
        rw [e0] at hXi
        have HKG := Lib.hid gK
        have HXG := Lib.hid hXi
        have j1 : (i : Int).tdiv 64 = q := by rw [Int.tdiv_eq_ediv_of_nonneg (by omega)]; omega
        have j2 : IntKind.i64.wrap (q : Int) = q := by rw [IntKind.wrap_i64]; omega
        have j3 : IntKind.u32.wrap (q : Int) = q := by rw [wrap32]; omega
        have j4 : IntKind.u32.wrap (vc + (q : Int)) = d := by rw [wrap32, ← hd]; rfl
        have j5 : (i : Int).tmod 64 = t := by rw [Int.tmod_eq_emod_of_nonneg (by omega)]; omega
        have j6 : IntKind.i64.wrap (t : Int) = t := by rw [IntKind.wrap_i64]; omega
        have j7 : (i : Int) / 64 = q := by omega
        have hcc := bg_cell HB.out.1 X0.out
        have m1 : (t : Int) < 64 := by omega
        have m2 : (i : Int) < r := by omega
        have m3 : 0 ≤ (t : Int) := by omega
        have m4 : ((t : Int)).toNat = t := by omega
        have m5 : ((i : Int)).toNat = i := by omega
        have m6 : 0 ≤ (i : Int) := by omega
        clear hq ht hd hK lK hy gK hXi e0 wd
        go_upto_region 13 with (first
        | (go_at_call 16; refine (CB _).mono ?_; rintro e w3 ⟨rfl, hf⟩; replace hA : Hid (Ar w3 g1 5 .u8 X) := hA.out.fr hf (fun x => x); replace X0 := Lib.hid (Calm.at X0.out hf); replace hF : Hid (Fr (fun _ => False) w w3) := hF.out.trans hf; clear hf)
        | refine wpList_mid rfl 28 (.tmp 45) rfl (w.heap.size) 0 rfl .u8 vk _ (bg_key HB.out.1 X0.out) Try.underlying28 rfl (by rw [HB.out.1]; kernel_rfl) ?_
        | refine wpList_mid rfl 29 (.tmp 53) rfl (w.heap.size) 33 rfl .u8 vn _ (bg_nonce HB.out.1 X0.out) Try.underlying29 rfl (by rw [HB.out.2.2.2.1]; kernel_rfl) ?_
        | refine wpList_store_row rfl 32 (.tmp 8) (.tmp 55) rfl w3.heap.size (vs .u8 K) rfl rfl 32 (vs .u8 Y) (heap_alloc_new w3 (.cells (vs .u8 Y) 32)) iK.out eK.out (vs_all _ _) ?_)
        obtain ⟨bq, hbq⟩ : ∃ q, q = w3.heap.size := ⟨_, rfl⟩
        have FQ : Fr (fun _ => False) w3 ((w3.alloc (.cells (vs .u8 Y) 32)).setRow w3.heap.size (vs .u8 K)) := ((Fr.refl _ w3).alloc _).setRow _ (.inr (Nat.le_refl _))
        have A3 := Lib.hid (hA.out.fr FQ (fun x => x))
        have X3 := Lib.hid (Calm.at X0.out FQ)
        have F3 := Lib.hid (hF.out.trans FQ)
        have B3 : Hid (Ar ((w3.alloc (.cells (vs .u8 Y) 32)).setRow w3.heap.size (vs .u8 K)) bq 32 .u8 K) := by rw [hbq]; exact (Ar.new w3 32 .u8 Y).row K
        rw [← hbq] at A3 X3 F3 B3 ⊢
        generalize (w3.alloc (.cells (vs .u8 Y) 32)).setRow bq (vs .u8 K) = W9 at *
        have kx := Ar.cell A3.out HXG.out
        have ky := Ar.cell B3.out HKG.out
        clear hA X0 hF FQ hbq CB iK eK B3 j1 j2 j3 j4 hcc
        try simp only [Act.put, List.setIfInBounds_toArray, List.set_cons_succ, List.set_cons_zero]
        go_quiet (fail)
        go_wp2
        go_roundw
        case rel => exact ⟨i + 1, by go_num, by omega, A3, X3, F3.out.drewN _⟩
        case measure => simp [intOf]; omega
      · clear hA X0
        go_wp2
        go_ret
        exact ⟨rfl, hF.out⟩
  · have hlim2 : (4294967296 - vc) * 64 < (r : Int) := by omega
    have CN : ∀ W gm, Calls Try.prog 19 #[.agg (vs .u8 vk), .int .u32 vc, .agg (vs .u8 vn), .slice (some ⟨gm, 0, none⟩) r r] W fun e w' => e = .returned (.tuple #[.slice none 0 0, .int .i64 5]) ∧ Fr (fun _ => False) W w' := fun W gm => xor_no vk vc vn (some ⟨gm, 0, none⟩) r r W hc HM0.out hlim2
    have HLIM := Lib.hid hlim2
    clear hlim hlim2
    refine wp_region_inv2 (fun b a w' => ∃ gm : Nat, Fr (fun _ => False) w1 w' ∧ (b 7 = true → w1.heap.size ≤ gm ∧ Ar w' gm 5 .u8 (List.replicate r 0)) ∧ a = ⟨#[.agg (bg vk vc vn), .int .i64 r, .pointer (some ⟨w.heap.size, 0, none⟩), undef, .bool false, if b 12 = true then .slice none 0 0 else undef, if b 13 = true then .int .i64 5 else undef, undef, undef, .bool true, .bool false, .int .i64 z, .int .i64 r, if b 9 = true then .tuple #[.slice none 0 0, .int .i64 5] else undef, if b 0 = true then .pointer (some ⟨w.heap.size, 0, none⟩) else undef, if b 1 = true then .agg (vs .u8 vk) else undef, if b 2 = true then .pointer (some ⟨w.heap.size, 32, none⟩) else undef, if b 3 = true then .int .u32 vc else undef, if b 4 = true then .pointer (some ⟨w.heap.size, 33, none⟩) else undef, if b 5 = true then .agg (vs .u8 vn) else undef, if b 6 = true then .int .i64 r else undef, if b 7 = true then .slice (some ⟨gm, 0, none⟩) r r else undef, if b 8 = true then .tuple #[.slice none 0 0, .int .i64 5] else undef, if b 10 = true then .slice none 0 0 else undef, if b 11 = true then .int .i64 5 else undef, undef, undef, undef, undef, undef, undef, undef, undef, undef, undef, undef, undef, undef, undef, undef, undef, undef, undef, undef, undef, undef, undef, undef, undef, undef, undef, undef, undef, undef, undef, undef, undef, undef, undef, undef, undef, undef, undef, undef, undef], []⟩) (by kernel_rfl) (by kernel_rfl) ?start4n ?step4n ?done4n
    case start4n => exact ⟨0, ⟨rfl, rfl, rfl, Nat.le_refl _, fun _ _ _ => rfl⟩, fun h => by simp at h, by simp⟩
    case step4n =>
      intro i5 o5 b a w1 ho hI hb hr hcl
      obtain ⟨gm, hF, h7, rfl⟩ := hI
      match i5, ho with
      | 0, ho =>
        injection ho with ho
        subst ho
        refine wp_quiet_here (.pointer (some ⟨w.heap.size, 0, none⟩)) ?_ (fun w2 hw2 => ?_)
        · simp only [Bool.false_eq_true] 
          go_big_quiet_op
          first
            | (simp [Act.put]; done)
            | exact ⟨_, fun _ _ => rfl, by simp [Act.put]⟩
        refine ⟨gm, hF.trans hw2, ?_, ?_⟩
        · intro hx
          have hy := h7 (by simpa [upd] using hx)
          exact ⟨hy.1, hy.2.fr hw2 (fun x => x)⟩
        · simp [upd, Act.put]
      | 1, ho =>
        injection ho with ho
        subst ho
        simp [Region.binds] at hr
        have d0 : b 0 = true := by simp only [hr]
        simp only [hr, if_true]
        refine wp_quiet_here (.agg (vs .u8 vk)) (quiet_mid 28 _ (.tmp 14) rfl (w.heap.size) 0 rfl .u8 vk Try.underlying28 rfl (by rw [k_vk.out]; kernel_rfl) (fun _ h => bg_key k_vk.out ((Fr.block h _ (Nat.lt_of_lt_of_le (heap_lt X0.out) hF.size) (fun x => x)).trans ((hF.block _ (heap_lt X0.out) (fun x => x)).trans X0.out))) rfl) (fun w2 hw2 => ?_)
        refine ⟨gm, hF.trans hw2, ?_, ?_⟩
        · intro hx
          have hy := h7 (by simpa [upd] using hx)
          exact ⟨hy.1, hy.2.fr hw2 (fun x => x)⟩
        · simp [upd, Act.put, hr]
      | 2, ho =>
        injection ho with ho
        subst ho
        refine wp_quiet_here (.pointer (some ⟨w.heap.size, 32, none⟩)) ?_ (fun w2 hw2 => ?_)
        · simp only [Bool.false_eq_true] 
          go_big_quiet_op
          first
            | (simp [Act.put]; done)
            | exact ⟨_, fun _ _ => rfl, by simp [Act.put]⟩
        refine ⟨gm, hF.trans hw2, ?_, ?_⟩
        · intro hx
          have hy := h7 (by simpa [upd] using hx)
          exact ⟨hy.1, hy.2.fr hw2 (fun x => x)⟩
        · simp [upd, Act.put]
      | 3, ho =>
        injection ho with ho
        subst ho
        simp [Region.binds] at hr
        have d2 : b 2 = true := by simp only [hr]
        simp only [hr, if_true]
        refine wp_quiet_here (.int .u32 vc) (quiet_one 22 .u32 (.tmp 16) rfl (w.heap.size) 32 rfl vc Try.underlying22 (fun _ h => bg_cell k_vk.out ((Fr.block h _ (Nat.lt_of_lt_of_le (heap_lt X0.out) hF.size) (fun x => x)).trans ((hF.block _ (heap_lt X0.out) (fun x => x)).trans X0.out))) rfl) (fun w2 hw2 => ?_)
        refine ⟨gm, hF.trans hw2, ?_, ?_⟩
        · intro hx
          have hy := h7 (by simpa [upd] using hx)
          exact ⟨hy.1, hy.2.fr hw2 (fun x => x)⟩
        · simp [upd, Act.put, hr]
      | 4, ho =>
        injection ho with ho
        subst ho
        refine wp_quiet_here (.pointer (some ⟨w.heap.size, 33, none⟩)) ?_ (fun w2 hw2 => ?_)
        · simp only [Bool.false_eq_true] 
          go_big_quiet_op
          first
            | (simp [Act.put]; done)
            | exact ⟨_, fun _ _ => rfl, by simp [Act.put]⟩
        refine ⟨gm, hF.trans hw2, ?_, ?_⟩
        · intro hx
          have hy := h7 (by simpa [upd] using hx)
          exact ⟨hy.1, hy.2.fr hw2 (fun x => x)⟩
        · simp [upd, Act.put]
      | 5, ho =>
        injection ho with ho
        subst ho
        simp [Region.binds] at hr
        have d4 : b 4 = true := by simp only [hr]
        simp only [hr, if_true]
        refine wp_quiet_here (.agg (vs .u8 vn)) (quiet_mid 29 _ (.tmp 18) rfl (w.heap.size) 33 rfl .u8 vn Try.underlying29 rfl (by rw [k_vn.out]; kernel_rfl) (fun _ h => bg_nonce k_vk.out ((Fr.block h _ (Nat.lt_of_lt_of_le (heap_lt X0.out) hF.size) (fun x => x)).trans ((hF.block _ (heap_lt X0.out) (fun x => x)).trans X0.out))) rfl) (fun w2 hw2 => ?_)
        refine ⟨gm, hF.trans hw2, ?_, ?_⟩
        · intro hx
          have hy := h7 (by simpa [upd] using hx)
          exact ⟨hy.1, hy.2.fr hw2 (fun x => x)⟩
        · simp [upd, Act.put, hr]
      | 6, ho =>
        injection ho with ho
        subst ho
        refine wp_quiet_here (.int .i64 r) (BigFrame.quiet_move _ rfl rfl) (fun w2 hw2 => ?_)
        refine ⟨gm, hF.trans hw2, ?_, ?_⟩
        · intro hx
          have hy := h7 (by simpa [upd] using hx)
          exact ⟨hy.1, hy.2.fr hw2 (fun x => x)⟩
        · simp [upd, Act.put]
      | 7, ho =>
        injection ho with ho
        subst ho
        simp [Region.binds] at hr
        have d6 : b 6 = true := by simp only [hr]
        simp only [hr, if_true]
        refine wp_value (.slice (some ⟨w1.heap.size, 0, none⟩) _ _) _ (neg_ms HM0.out rfl rfl rfl) ?_
        refine ⟨w1.heap.size, hF.alloc _, ?_, ?_⟩
        · exact fun _ => ⟨hF.size, heap_alloc_new w1 _⟩
        · simp [upd, Act.put, hr]
      | 8, ho =>
        injection ho with ho
        subst ho
        simp [Region.binds] at hr
        have d1 : b 1 = true := by simp only [hr]
        have d3 : b 3 = true := by simp only [hr]
        have d5 : b 5 = true := by simp only [hr]
        have d7 : b 7 = true := by simp only [hr]
        simp only [hr, if_true]
        refine wp_quiet_here (.tuple #[.slice none 0 0, .int .i64 5]) (quiet_call 19 #[.agg (vs .u8 vk), .int .u32 vc, .agg (vs .u8 vn), .slice (some ⟨gm, 0, none⟩) r r] _ (fun _ => by kernel_rfl) (fun W h => (CN W gm).mono (fun _ _ hh => ⟨hh.1, Fr.trans h hh.2⟩)) rfl) (fun w2 hw2 => ?_)
        refine ⟨gm, hF.trans hw2, ?_, ?_⟩
        · intro hx
          have hy := h7 (by simpa [upd] using hx)
          exact ⟨hy.1, hy.2.fr hw2 (fun x => x)⟩
        · simp [upd, Act.put, hr]
      | 9, ho =>
        injection ho with ho
        subst ho
        simp [Region.binds] at hr
        have d8 : b 8 = true := by simp only [hr]
        simp only [hr, if_true]
        refine wp_quiet_here (.tuple #[.slice none 0 0, .int .i64 5]) (BigFrame.quiet_move _ rfl rfl) (fun w2 hw2 => ?_)
        refine ⟨gm, hF.trans hw2, ?_, ?_⟩
        · intro hx
          have hy := h7 (by simpa [upd] using hx)
          exact ⟨hy.1, hy.2.fr hw2 (fun x => x)⟩
        · simp [upd, Act.put, hr]
      | 10, ho =>
        injection ho with ho
        subst ho
        simp [Region.binds] at hr
        have d9 : b 9 = true := by simp only [hr]
        simp only [hr, if_true]
        refine wp_quiet_here (.slice none 0 0) ?_ (fun w2 hw2 => ?_)
        · go_big_quiet_op
          first
            | (simp [Act.put]; done)
            | exact ⟨_, fun _ _ => rfl, by simp [Act.put]⟩
        refine ⟨gm, hF.trans hw2, ?_, ?_⟩
        · intro hx
          have hy := h7 (by simpa [upd] using hx)
          exact ⟨hy.1, hy.2.fr hw2 (fun x => x)⟩
        · simp [upd, Act.put, hr]
      | 11, ho =>
        injection ho with ho
        subst ho
        simp [Region.binds] at hr
        have d9 : b 9 = true := by simp only [hr]
        simp only [hr, if_true]
        refine wp_quiet_here (.int .i64 5) ?_ (fun w2 hw2 => ?_)
        · go_big_quiet_op
          first
            | (simp [Act.put]; done)
            | exact ⟨_, fun _ _ => rfl, by simp [Act.put]⟩
        refine ⟨gm, hF.trans hw2, ?_, ?_⟩
        · intro hx
          have hy := h7 (by simpa [upd] using hx)
          exact ⟨hy.1, hy.2.fr hw2 (fun x => x)⟩
        · simp [upd, Act.put, hr]
      | 12, ho =>
        injection ho with ho
        subst ho
        simp [Region.binds] at hr
        have d10 : b 10 = true := by simp only [hr]
        simp only [hr, if_true]
        refine wp_quiet_here (.slice none 0 0) (BigFrame.quiet_assign _ rfl rfl) (fun w2 hw2 => ?_)
        refine ⟨gm, hF.trans hw2, ?_, ?_⟩
        · intro hx
          have hy := h7 (by simpa [upd] using hx)
          exact ⟨hy.1, hy.2.fr hw2 (fun x => x)⟩
        · simp [upd, Act.put, hr]
      | 13, ho =>
        injection ho with ho
        subst ho
        simp [Region.binds] at hr
        have d11 : b 11 = true := by simp only [hr]
        simp only [hr, if_true]
        refine wp_quiet_here (.int .i64 5) (BigFrame.quiet_assign _ rfl rfl) (fun w2 hw2 => ?_)
        refine ⟨gm, hF.trans hw2, ?_, ?_⟩
        · intro hx
          have hy := h7 (by simpa [upd] using hx)
          exact ⟨hy.1, hy.2.fr hw2 (fun x => x)⟩
        · simp [upd, Act.put, hr]
      | j + 14, ho => exact absurd ho (by simp)
    intro b a W5 hall hI
    obtain ⟨gm, hF, h7, rfl⟩ := hI
    have t0 : b 0 = true := hall 0 (by simp)
    have t1 : b 1 = true := hall 1 (by simp)
    have t2 : b 2 = true := hall 2 (by simp)
    have t3 : b 3 = true := hall 3 (by simp)
    have t4 : b 4 = true := hall 4 (by simp)
    have t5 : b 5 = true := hall 5 (by simp)
    have t6 : b 6 = true := hall 6 (by simp)
    have t7 : b 7 = true := hall 7 (by simp)
    have t8 : b 8 = true := hall 8 (by simp)
    have t9 : b 9 = true := hall 9 (by simp)
    have t10 : b 10 = true := hall 10 (by simp)
    have t11 : b 11 = true := hall 11 (by simp)
    have t12 : b 12 = true := hall 12 (by simp)
    have t13 : b 13 = true := hall 13 (by simp)
    simp only [t0, t1, t2, t3, t4, t5, t6, t7, t8, t9, t10, t11, t12, t13, if_true]
    have Ygm : Hid (w1.heap.size ≤ gm) := (h7 t7).1
    have Agm := Lib.hid (h7 t7).2
    have F5 : Hid (Fr (fun _ => False) w W5) := F0.out.trans hF
    have X5_0 := Lib.hid ((hF.block _ (heap_lt X0.out) (fun x => x)).trans X0.out)
    clear hall hF h7 t0 t1 t2 t3 t4 t5 t6 t7 t8 t9 t10 t11 t12 t13 
    have hcc := bg_cell HB.out.1 X5_0.out
    have u1 : IntKind.i64.wrap ((r : Int) + 63) = (r : Int) + 63 := by have := HR.out; rw [IntKind.wrap_i64]; omega
    have u2 : IntKind.u64.wrap ((r : Int) + 63) = (r : Int) + 63 := by have := HR.out; rw [IntKind.wrap_u64]; omega
    have u3 : ((r : Int) + 63).tdiv 64 = ((r : Int) + 63) / 64 := Int.tdiv_eq_ediv_of_nonneg (by omega)
    have u4 : IntKind.u64.wrap (((r : Int) + 63) / 64) = ((r : Int) + 63) / 64 := by have := HR.out; rw [IntKind.wrap_u64]; omega
    have u5 : IntKind.u64.wrap vc = vc := by have := HC.out.1; have := HC.out.2; rw [IntKind.wrap_u64]; omega
    have u6 : IntKind.u64.wrap (vc + ((r : Int) + 63) / 64) = vc + ((r : Int) + 63) / 64 := by have := HC.out.1; have := HC.out.2; have := HR.out; rw [IntKind.wrap_u64]; omega
    have u7 : decide (4294967296 < vc + ((r : Int) + 63) / 64) = true := decide_eq_true (by have := HLIM.out; omega)
    try simp only [Act.put, List.setIfInBounds_toArray, List.set_cons_succ, List.set_cons_zero]
    go_wp2
    go_ret
    exact ⟨rfl, F5.out⟩

set_option maxRecDepth 100000 in
theorem law_stream_lifted (os : Os) (started : os.Started) (H : Type) (enc : TypeId × Value → H) :
    ReturnsInHanded {} Try.checked os 9 .any (Rows.chachaStreamSpec.pre6 enc Try.prog Try.f9 Rows.chachaStreamRow.domain false) (Rows.chachaStreamSpec.post enc Try.prog Try.f9 false true false false) := by
  refine returnsInHanded_of_change (C := Try.checked) own started (by kernel_rfl) Try.func9
    (ChangeSpec.witness6 (enc := enc) (C := Try.checked) false ⟨#[], #[.agg (bg (List.replicate 32 0) 0 (List.replicate 12 0)), .int .i64 0], []⟩ 8 (by kernel_rfl) (by kernel_rfl) (by kernel_rfl) (by kernel_rfl)) ?_
  intro W base args ds gs before hval0 hW hcnd _
  have hval : ∀ (j : Nat) t v, Try.f9.params[j]? = some t → args[j]? = some v → Value.okWide Try.prog W .any base t v := hval0
  have hW' := hW
  obtain ⟨p, q, hA0, hV, rfl, hfz, hnd⟩ := hW
  have hA : DataW.TrodAll enc Try.prog W 0 (fun _ => true) true Try.f9.params.toList args.toList ds p := hA0
  rw [Try.params9] at hA hval
  obtain ⟨v0, vs0, d0, ds0, p0, q0, hargs, rfl, rfl, h0, r0⟩ := trodAll_cons hA
  obtain ⟨v1, vs1, d1, ds1, p1, q1, rfl, rfl, rfl, h1, r1⟩ := trodAll_cons r0
  obtain ⟨rfl, rfl, rfl⟩ := trodAll_nil r1
  obtain rfl : args = #[v0, v1] := by cases args; simp_all
  obtain ⟨rfl, rfl⟩ := trodVars_none hV
  obtain ⟨k0, c0, n0, rfl, lk0, bk0, wc0, ln0, bn0⟩ := open_bg (hval 0 31 v0 rfl rfl) h0
  obtain ⟨a1, rfl, rfl, rfl, w1⟩ := open_int Try.underlying3 (hval 1 3 v1 rfl rfl) h1
  clear hA0 hval0
  refine (law_stream_any k0 c0 n0 a1 W lk0 bk0 wc0 ln0 bn0 (bounds_i64 w1)).mono fun e W' ⟨he, hg⟩ => ?_
  subst he
  exact ⟨_, rfl, post_true rfl hW' (by kernel_rfl) rfl rfl hg⟩

theorem chachaStream_holds : Rows.ChachaStreamSaid :=
  OpenClaim.holds_of_wide 9 Try.f9 rfl rfl rfl rfl rfl rfl rfl ⟨rfl, rfl, rfl, rfl, rfl⟩ rfl rfl rfl rfl rfl (by kernel_rfl) Try.func9 (by kernel_rfl)
    (of_decide_eq_true (by kernel_rfl)) (by unfold Func.isWrapper; first | (rw [if_pos (by decide +kernel)]; kernel_rfl) | (rw [if_neg (by decide +kernel)]; exact ⟨rfl, rfl⟩))
    (fun os started H enc _ => law_stream_lifted os started H enc)
#print axioms chachaStream_holds
end Go.Proofs.Ytnagnolbomcnjaa
