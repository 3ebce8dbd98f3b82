/- curve's swap of two points: both exchanged, or not. Its conditions: the points' blocks, elements below p. -/
import Derived.Test.YtbkbodcncjhcmaaPt
namespace Go.Proofs.Ytbkbodcncjhcmaa
set_option linter.unusedSimpArgs false
set_option linter.unusedVariables false
open Go.RowKit

theorem swap_e {u v a b : Int} (bit : Int) (w : World) (hu : El u) (hv : El v) (h : (bit % 2 = 1 ∧ a = v ∧ b = u) ∨ (bit % 2 = 0 ∧ a = u ∧ b = v)) :
    Calls Try.prog 49 #[.agg (ec u), .agg (ec v), .int .i64 bit] w fun e w' => e = .returned (.tuple #[.agg (ec a), .agg (ec b)]) ∧ Fr (fun _ => False) w w' := by
  obtain ⟨a0, a1, a2, a3, hA⟩ := ws_of hu
  obtain ⟨b0, b1, b2, b3, hB⟩ := ws_of hv
  have e1 : Value.agg (ec u) = _ := hA.eq
  have e2 : Value.agg (ec v) = _ := hB.eq
  rcases h with ⟨h, rfl, rfl⟩ | ⟨h, rfl, rfl⟩
  · have := swap_yes bit w hA hB h
    rw [← e1, ← e2] at this
    exact this
  · have := swap_no bit w hA hB h
    rw [← e1, ← e2] at this
    exact this

set_option maxRecDepth 100000 in
set_option maxHeartbeats 8000000 in
theorem cswap_is (gp gq : Nat) (px pz qx qz px' pz' qx' qz' bit : Int) (w : World) (hP : P8 w gp px pz) (hQ : P8 w gq qx qz) (hne : gp ≠ gq) (h1 : El px) (h2 : El pz) (h3 : El qx) (h4 : El qz)
    (h : (bit % 2 = 1 ∧ px' = qx ∧ pz' = qz ∧ qx' = px ∧ qz' = pz) ∨ (bit % 2 = 0 ∧ px' = px ∧ pz' = pz ∧ qx' = qx ∧ qz' = qz)) :
    Calls Try.prog 39 #[.pointer (some ⟨gp, 0, none⟩), .pointer (some ⟨gq, 0, none⟩), .int .i64 bit] w fun e w' => e = .returned (.tuple #[]) ∧ P8 w' gp px' pz' ∧ P8 w' gq qx' qz' ∧ Fr (fun k => k = gp ∨ k = gq) w w' := by
  have C0 : ∀ W, Calls Try.prog 49 #[.agg (ec px), .agg (ec qx), .int .i64 bit] W fun e w' => e = .returned (.tuple #[.agg (ec px'), .agg (ec qx')]) ∧ Fr (fun _ => False) W w' := fun W => swap_e bit W h1 h3 (by
    rcases h with ⟨h, rfl, rfl, rfl, rfl⟩ | ⟨h, rfl, rfl, rfl, rfl⟩
    · exact .inl ⟨h, rfl, rfl⟩
    · exact .inr ⟨h, rfl, rfl⟩)
  have C1 : ∀ W, Calls Try.prog 49 #[.agg (ec pz), .agg (ec qz), .int .i64 bit] W fun e w' => e = .returned (.tuple #[.agg (ec pz'), .agg (ec qz')]) ∧ Fr (fun _ => False) W w' := fun W => swap_e bit W h2 h4 (by
    rcases h with ⟨h, rfl, rfl, rfl, rfl⟩ | ⟨h, rfl, rfl, rfl, rfl⟩
    · exact .inl ⟨h, rfl, rfl⟩
    · exact .inr ⟨h, rfl, rfl⟩)
  have Z0_0 := Lib.hid hP
  have Z0_1 := Lib.hid hQ
  have hne' : gq ≠ gp := fun e => hne e.symm
  clear hP hQ h h1 h2 h3 h4
  go_enter Try.func39, Try.ntmps39
  go_upto_region 0 with (fail)
  refine wp_region_inv2 (fun b a w' => Fr (fun k => k = gp ∨ k = gq) w w' ∧ P8 w' (gp) (if b 17 = true then px' else px) pz ∧ P8 w' (gq) (if b 20 = true then qx' else qx) qz ∧ (b 17 = true → b 5 = true) ∧ (b 20 = true → b 9 = true) ∧ a = ⟨#[.pointer (some ⟨gp, 0, none⟩), .pointer (some ⟨gq, 0, none⟩), .int .i64 bit, undef, undef, undef, if b 12 = true then .tuple #[.agg (ec px'), .agg (ec qx')] else undef, if b 0 = true then .pointer (some ⟨gp, 0, none⟩) else undef, if b 1 = true then .pointer (some ⟨gq, 0, none⟩) else undef, if b 2 = true then .pointer (some ⟨gp, 0, none⟩) else undef, if b 3 = true then .pointer (some ⟨gp, 0, none⟩) else undef, if b 4 = true then .pointer (some ⟨gp, 0, none⟩) else undef, if b 5 = true then .agg (ec px) else undef, if b 6 = true then .pointer (some ⟨gq, 0, none⟩) else undef, if b 7 = true then .pointer (some ⟨gq, 0, none⟩) else undef, if b 8 = true then .pointer (some ⟨gq, 0, none⟩) else undef, if b 9 = true then .agg (ec qx) else undef, if b 10 = true then .int .i64 bit else undef, if b 11 = true then .tuple #[.agg (ec px'), .agg (ec qx')] else undef, if b 13 = true then .agg (ec px') else undef, if b 14 = true then .agg (ec qx') else undef, if b 15 = true then .pointer (some ⟨gp, 0, none⟩) else undef, if b 16 = true then .pointer (some ⟨gp, 0, none⟩) else undef, if b 18 = true then .pointer (some ⟨gq, 0, none⟩) else undef, if b 19 = true then .pointer (some ⟨gq, 0, none⟩) else undef, undef, undef, undef, undef, undef, undef, undef, undef, undef, undef, undef, undef, undef, undef, undef, undef, undef, undef, undef], []⟩) (by kernel_rfl) (by kernel_rfl) ?start0 ?step0 ?done0
  case start0 => exact ⟨⟨rfl, rfl, rfl, Nat.le_refl _, fun _ _ _ => rfl⟩, by simp only [Bool.false_eq_true, if_false]; exact Z0_0.out, by simp only [Bool.false_eq_true, if_false]; exact Z0_1.out, by simp, by simp, by simp⟩
  case step0 =>
    intro i o b a w1 ho hI hb hr hc
    obtain ⟨hF, hP0, hP1, l17_5, l20_9, rfl⟩ := hI
    match i, ho with
    | 0, ho =>
      injection ho with ho
      subst ho
      refine wp_quiet_here (.pointer (some ⟨gp, 0, none⟩)) (BigFrame.quiet_move _ rfl rfl) (fun w2 hw2 => ?_)
      refine ⟨hF.trans hw2.any, ?_, ?_, ?_, ?_, ?_⟩
      · have hh := hP0.fr hw2 (fun x => x)
        simpa [upd] using hh
      · have hh := hP1.fr hw2 (fun x => x)
        simpa [upd] using hh
      · simpa [upd] using l17_5
      · simpa [upd] using l20_9
      · simp [upd, Act.put]
    | 1, ho =>
      injection ho with ho
      subst ho
      refine wp_quiet_here (.pointer (some ⟨gq, 0, none⟩)) (BigFrame.quiet_move _ rfl rfl) (fun w2 hw2 => ?_)
      refine ⟨hF.trans hw2.any, ?_, ?_, ?_, ?_, ?_⟩
      · have hh := hP0.fr hw2 (fun x => x)
        simpa [upd] using hh
      · have hh := hP1.fr hw2 (fun x => x)
        simpa [upd] using hh
      · simpa [upd] using l17_5
      · simpa [upd] using l20_9
      · simp [upd, Act.put]
    | 2, ho =>
      injection ho with ho
      subst ho
      refine wp_quiet_here (.pointer (some ⟨gp, 0, none⟩)) (BigFrame.quiet_move _ rfl rfl) (fun w2 hw2 => ?_)
      refine ⟨hF.trans hw2.any, ?_, ?_, ?_, ?_, ?_⟩
      · have hh := hP0.fr hw2 (fun x => x)
        simpa [upd] using hh
      · have hh := hP1.fr hw2 (fun x => x)
        simpa [upd] using hh
      · simpa [upd] using l17_5
      · simpa [upd] using l20_9
      · simp [upd, Act.put]
    | 3, ho =>
      injection ho with ho
      subst ho
      simp [Region.binds] at hr
      have d2 : b 2 = true := by simp only [hr]
      simp only [hr, if_true]
      refine wp_quiet_here (.pointer (some ⟨gp, 0, none⟩)) ?_ (fun w2 hw2 => ?_)
      · go_big_quiet_op
        first
          | (simp [Act.put]; done)
          | exact ⟨_, fun _ _ => rfl, by simp [Act.put]⟩
      refine ⟨hF.trans hw2.any, ?_, ?_, ?_, ?_, ?_⟩
      · have hh := hP0.fr hw2 (fun x => x)
        simpa [upd] using hh
      · have hh := hP1.fr hw2 (fun x => x)
        simpa [upd] using hh
      · simpa [upd] using l17_5
      · simpa [upd] using l20_9
      · simp [upd, Act.put, hr]
    | 4, ho =>
      injection ho with ho
      subst ho
      simp [Region.binds] at hr
      have d3 : b 3 = true := by simp only [hr]
      simp only [hr, if_true]
      refine wp_quiet_here (.pointer (some ⟨gp, 0, none⟩)) ?_ (fun w2 hw2 => ?_)
      · go_big_quiet_op
        first
          | (simp [Act.put]; done)
          | exact ⟨_, fun _ _ => rfl, by simp [Act.put]⟩
      refine ⟨hF.trans hw2.any, ?_, ?_, ?_, ?_, ?_⟩
      · have hh := hP0.fr hw2 (fun x => x)
        simpa [upd] using hh
      · have hh := hP1.fr hw2 (fun x => x)
        simpa [upd] using hh
      · simpa [upd] using l17_5
      · simpa [upd] using l20_9
      · simp [upd, Act.put, hr]
    | 5, ho =>
      injection ho with ho
      subst ho
      simp [Region.binds] at hr
      have d4 : b 4 = true := by simp only [hr]
      simp only [hr, if_true]
      have hL := hP0
      have hs17 : b 17 = false := by
        rcases hbs : b 17 with _ | _
        · rfl
        · rw [l17_5 hbs] at hb
          cases hb
      simp only [hs17, Bool.false_eq_true, if_false] at hL
      refine wp_quiet_here _ (quiet_half (.tmp 11) rfl (gp) 0 rfl px (fun _ h => (hL.fr h (fun x => x)).r0) rfl) (fun w2 hw2 => ?_)
      refine ⟨hF.trans hw2.any, ?_, ?_, ?_, ?_, ?_⟩
      · have hh := hP0.fr hw2 (fun x => x)
        simpa [upd] using hh
      · have hh := hP1.fr hw2 (fun x => x)
        simpa [upd] using hh
      · simp [upd]
      · simpa [upd] using l20_9
      · simp [upd, Act.put, hr]
    | 6, ho =>
      injection ho with ho
      subst ho
      refine wp_quiet_here (.pointer (some ⟨gq, 0, none⟩)) (BigFrame.quiet_move _ rfl rfl) (fun w2 hw2 => ?_)
      refine ⟨hF.trans hw2.any, ?_, ?_, ?_, ?_, ?_⟩
      · have hh := hP0.fr hw2 (fun x => x)
        simpa [upd] using hh
      · have hh := hP1.fr hw2 (fun x => x)
        simpa [upd] using hh
      · simpa [upd] using l17_5
      · simpa [upd] using l20_9
      · simp [upd, Act.put]
    | 7, ho =>
      injection ho with ho
      subst ho
      simp [Region.binds] at hr
      have d6 : b 6 = true := by simp only [hr]
      simp only [hr, if_true]
      refine wp_quiet_here (.pointer (some ⟨gq, 0, none⟩)) ?_ (fun w2 hw2 => ?_)
      · go_big_quiet_op
        first
          | (simp [Act.put]; done)
          | exact ⟨_, fun _ _ => rfl, by simp [Act.put]⟩
      refine ⟨hF.trans hw2.any, ?_, ?_, ?_, ?_, ?_⟩
      · have hh := hP0.fr hw2 (fun x => x)
        simpa [upd] using hh
      · have hh := hP1.fr hw2 (fun x => x)
        simpa [upd] using hh
      · simpa [upd] using l17_5
      · simpa [upd] using l20_9
      · simp [upd, Act.put, hr]
    | 8, ho =>
      injection ho with ho
      subst ho
      simp [Region.binds] at hr
      have d7 : b 7 = true := by simp only [hr]
      simp only [hr, if_true]
      refine wp_quiet_here (.pointer (some ⟨gq, 0, none⟩)) ?_ (fun w2 hw2 => ?_)
      · go_big_quiet_op
        first
          | (simp [Act.put]; done)
          | exact ⟨_, fun _ _ => rfl, by simp [Act.put]⟩
      refine ⟨hF.trans hw2.any, ?_, ?_, ?_, ?_, ?_⟩
      · have hh := hP0.fr hw2 (fun x => x)
        simpa [upd] using hh
      · have hh := hP1.fr hw2 (fun x => x)
        simpa [upd] using hh
      · simpa [upd] using l17_5
      · simpa [upd] using l20_9
      · simp [upd, Act.put, hr]
    | 9, ho =>
      injection ho with ho
      subst ho
      simp [Region.binds] at hr
      have d8 : b 8 = true := by simp only [hr]
      simp only [hr, if_true]
      have hL := hP1
      have hs20 : b 20 = false := by
        rcases hbs : b 20 with _ | _
        · rfl
        · rw [l20_9 hbs] at hb
          cases hb
      simp only [hs20, Bool.false_eq_true, if_false] at hL
      refine wp_quiet_here _ (quiet_half (.tmp 15) rfl (gq) 0 rfl qx (fun _ h => (hL.fr h (fun x => x)).r0) rfl) (fun w2 hw2 => ?_)
      refine ⟨hF.trans hw2.any, ?_, ?_, ?_, ?_, ?_⟩
      · have hh := hP0.fr hw2 (fun x => x)
        simpa [upd] using hh
      · have hh := hP1.fr hw2 (fun x => x)
        simpa [upd] using hh
      · simpa [upd] using l17_5
      · simp [upd]
      · simp [upd, Act.put, hr]
    | 10, ho =>
      injection ho with ho
      subst ho
      refine wp_quiet_here (.int .i64 bit) (BigFrame.quiet_move _ rfl rfl) (fun w2 hw2 => ?_)
      refine ⟨hF.trans hw2.any, ?_, ?_, ?_, ?_, ?_⟩
      · have hh := hP0.fr hw2 (fun x => x)
        simpa [upd] using hh
      · have hh := hP1.fr hw2 (fun x => x)
        simpa [upd] using hh
      · simpa [upd] using l17_5
      · simpa [upd] using l20_9
      · simp [upd, Act.put]
    | 11, ho =>
      injection ho with ho
      subst ho
      simp [Region.binds] at hr
      have d5 : b 5 = true := by simp only [hr]
      have d9 : b 9 = true := by simp only [hr]
      have d10 : b 10 = true := by simp only [hr]
      simp only [hr, if_true]
      refine wp_quiet_here (.tuple #[.agg (ec px'), .agg (ec qx')]) ?_ (fun w2 hw2 => ?_)
      · go_big_quiet_op
        exact ⟨_, Calm.calls C0, by simp [Act.put]⟩
      refine ⟨hF.trans hw2.any, ?_, ?_, ?_, ?_, ?_⟩
      · have hh := hP0.fr hw2 (fun x => x)
        simpa [upd] using hh
      · have hh := hP1.fr hw2 (fun x => x)
        simpa [upd] using hh
      · simpa [upd] using l17_5
      · simpa [upd] using l20_9
      · simp [upd, Act.put, hr]
    | 12, ho =>
      injection ho with ho
      subst ho
      simp [Region.binds] at hr
      have d11 : b 11 = true := by simp only [hr]
      simp only [hr, if_true]
      refine wp_quiet_here (.tuple #[.agg (ec px'), .agg (ec qx')]) ?_ (fun w2 hw2 => ?_)
      · go_big_quiet_op
        first
          | (simp [Act.put]; done)
          | exact ⟨_, fun _ _ => rfl, by simp [Act.put]⟩
      refine ⟨hF.trans hw2.any, ?_, ?_, ?_, ?_, ?_⟩
      · have hh := hP0.fr hw2 (fun x => x)
        simpa [upd] using hh
      · have hh := hP1.fr hw2 (fun x => x)
        simpa [upd] using hh
      · simpa [upd] using l17_5
      · simpa [upd] using l20_9
      · simp [upd, Act.put, hr]
    | 13, ho =>
      injection ho with ho
      subst ho
      simp [Region.binds] at hr
      have d12 : b 12 = true := by simp only [hr]
      simp only [hr, if_true]
      refine wp_quiet_here (.agg (ec px')) ?_ (fun w2 hw2 => ?_)
      · go_big_quiet_op
        first
          | (simp [Act.put]; done)
          | exact ⟨_, fun _ _ => rfl, by simp [Act.put]⟩
      refine ⟨hF.trans hw2.any, ?_, ?_, ?_, ?_, ?_⟩
      · have hh := hP0.fr hw2 (fun x => x)
        simpa [upd] using hh
      · have hh := hP1.fr hw2 (fun x => x)
        simpa [upd] using hh
      · simpa [upd] using l17_5
      · simpa [upd] using l20_9
      · simp [upd, Act.put, hr]
    | 14, ho =>
      injection ho with ho
      subst ho
      simp [Region.binds] at hr
      have d12 : b 12 = true := by simp only [hr]
      simp only [hr, if_true]
      refine wp_quiet_here (.agg (ec qx')) ?_ (fun w2 hw2 => ?_)
      · go_big_quiet_op
        first
          | (simp [Act.put]; done)
          | exact ⟨_, fun _ _ => rfl, by simp [Act.put]⟩
      refine ⟨hF.trans hw2.any, ?_, ?_, ?_, ?_, ?_⟩
      · have hh := hP0.fr hw2 (fun x => x)
        simpa [upd] using hh
      · have hh := hP1.fr hw2 (fun x => x)
        simpa [upd] using hh
      · simpa [upd] using l17_5
      · simpa [upd] using l20_9
      · simp [upd, Act.put, hr]
    | 15, ho =>
      injection ho with ho
      subst ho
      simp [Region.binds] at hr
      have d0 : b 0 = true := by simp only [hr]
      simp only [hr, if_true]
      refine wp_quiet_here (.pointer (some ⟨gp, 0, none⟩)) ?_ (fun w2 hw2 => ?_)
      · go_big_quiet_op
        first
          | (simp [Act.put]; done)
          | exact ⟨_, fun _ _ => rfl, by simp [Act.put]⟩
      refine ⟨hF.trans hw2.any, ?_, ?_, ?_, ?_, ?_⟩
      · have hh := hP0.fr hw2 (fun x => x)
        simpa [upd] using hh
      · have hh := hP1.fr hw2 (fun x => x)
        simpa [upd] using hh
      · simpa [upd] using l17_5
      · simpa [upd] using l20_9
      · simp [upd, Act.put, hr]
    | 16, ho =>
      injection ho with ho
      subst ho
      simp [Region.binds] at hr
      have d15 : b 15 = true := by simp only [hr]
      simp only [hr, if_true]
      refine wp_quiet_here (.pointer (some ⟨gp, 0, none⟩)) ?_ (fun w2 hw2 => ?_)
      · go_big_quiet_op
        first
          | (simp [Act.put]; done)
          | exact ⟨_, fun _ _ => rfl, by simp [Act.put]⟩
      refine ⟨hF.trans hw2.any, ?_, ?_, ?_, ?_, ?_⟩
      · have hh := hP0.fr hw2 (fun x => x)
        simpa [upd] using hh
      · have hh := hP1.fr hw2 (fun x => x)
        simpa [upd] using hh
      · simpa [upd] using l17_5
      · simpa [upd] using l20_9
      · simp [upd, Act.put, hr]
    | 17, ho =>
      injection ho with ho
      subst ho
      simp [Region.binds] at hr
      have d13 : b 13 = true := by simp only [hr]
      have d16 : b 16 = true := by simp only [hr]
      simp only [hr, if_true]
      refine wp_store_mid 37 (.tmp 22) (.tmp 19) rfl (gp) 0 (ec px') rfl rfl hP0.there0 (ec_info _) (ec_all _) ?_
      refine ⟨hF.setCells _ _ (.inl (by simp)), ?_, ?_, ?_, ?_, ?_⟩
      · have hh := hP0.s0 px'
        simpa [upd] using hh
      · have hh := hP1.far (by assumption) 0 (ec px').toList
        simpa [upd] using hh
      · intro _
        exact (by simp [upd, (chain hc 11 5 rfl (chain hc 12 11 rfl (chain hc 13 12 rfl d13 (by simp [Region.binds])) (by simp [Region.binds])) (by simp [Region.binds]))])
      · simpa [upd] using l20_9
      · simp [upd, Act.put, hr]
    | 18, ho =>
      injection ho with ho
      subst ho
      simp [Region.binds] at hr
      have d1 : b 1 = true := by simp only [hr]
      simp only [hr, if_true]
      refine wp_quiet_here (.pointer (some ⟨gq, 0, none⟩)) ?_ (fun w2 hw2 => ?_)
      · go_big_quiet_op
        first
          | (simp [Act.put]; done)
          | exact ⟨_, fun _ _ => rfl, by simp [Act.put]⟩
      refine ⟨hF.trans hw2.any, ?_, ?_, ?_, ?_, ?_⟩
      · have hh := hP0.fr hw2 (fun x => x)
        simpa [upd] using hh
      · have hh := hP1.fr hw2 (fun x => x)
        simpa [upd] using hh
      · simpa [upd] using l17_5
      · simpa [upd] using l20_9
      · simp [upd, Act.put, hr]
    | 19, ho =>
      injection ho with ho
      subst ho
      simp [Region.binds] at hr
      have d18 : b 18 = true := by simp only [hr]
      simp only [hr, if_true]
      refine wp_quiet_here (.pointer (some ⟨gq, 0, none⟩)) ?_ (fun w2 hw2 => ?_)
      · go_big_quiet_op
        first
          | (simp [Act.put]; done)
          | exact ⟨_, fun _ _ => rfl, by simp [Act.put]⟩
      refine ⟨hF.trans hw2.any, ?_, ?_, ?_, ?_, ?_⟩
      · have hh := hP0.fr hw2 (fun x => x)
        simpa [upd] using hh
      · have hh := hP1.fr hw2 (fun x => x)
        simpa [upd] using hh
      · simpa [upd] using l17_5
      · simpa [upd] using l20_9
      · simp [upd, Act.put, hr]
    | 20, ho =>
      injection ho with ho
      subst ho
      simp [Region.binds] at hr
      have d14 : b 14 = true := by simp only [hr]
      have d19 : b 19 = true := by simp only [hr]
      simp only [hr, if_true]
      refine wp_store_mid 37 (.tmp 24) (.tmp 20) rfl (gq) 0 (ec qx') rfl rfl hP1.there0 (ec_info _) (ec_all _) ?_
      refine ⟨hF.setCells _ _ (.inl (by simp)), ?_, ?_, ?_, ?_, ?_⟩
      · have hh := hP0.far (by assumption) 0 (ec qx').toList
        simpa [upd] using hh
      · have hh := hP1.s0 qx'
        simpa [upd] using hh
      · simpa [upd] using l17_5
      · intro _
        exact (by simp [upd, (chain hc 11 9 rfl (chain hc 12 11 rfl (chain hc 14 12 rfl d14 (by simp [Region.binds])) (by simp [Region.binds])) (by simp [Region.binds]))])
      · simp [upd, Act.put, hr]
    | j + 21, ho => exact absurd ho (by simp)
  intro b a W1 hall hI
  obtain ⟨hF, hP0, hP1, l17_5, l20_9, rfl⟩ := hI
  have t0 : b 0 = true := hall 0 (by simp)
  have t1 : b 1 = true := hall 1 (by simp)
  have t2 : b 2 = true := hall 2 (by simp)
  have t3 : b 3 = true := hall 3 (by simp)
  have t4 : b 4 = true := hall 4 (by simp)
  have t5 : b 5 = true := hall 5 (by simp)
  have t6 : b 6 = true := hall 6 (by simp)
  have t7 : b 7 = true := hall 7 (by simp)
  have t8 : b 8 = true := hall 8 (by simp)
  have t9 : b 9 = true := hall 9 (by simp)
  have t10 : b 10 = true := hall 10 (by simp)
  have t11 : b 11 = true := hall 11 (by simp)
  have t12 : b 12 = true := hall 12 (by simp)
  have t13 : b 13 = true := hall 13 (by simp)
  have t14 : b 14 = true := hall 14 (by simp)
  have t15 : b 15 = true := hall 15 (by simp)
  have t16 : b 16 = true := hall 16 (by simp)
  have t17 : b 17 = true := hall 17 (by simp)
  have t18 : b 18 = true := hall 18 (by simp)
  have t19 : b 19 = true := hall 19 (by simp)
  have t20 : b 20 = true := hall 20 (by simp)
  simp only [t0, t1, t2, t3, t4, t5, t6, t7, t8, t9, t10, t11, t12, t13, t14, t15, t16, t17, t18, t19, t20, if_true, true_implies] at hP0 hP1 l17_5 l20_9 ⊢
  have F1 : Hid (Fr (fun k => k = gp ∨ k = gq) w W1) := hF
  have Z1_0 := Lib.hid hP0
  have Z1_1 := Lib.hid hP1
  clear hall hF hP0 hP1 l17_5 l20_9 t0 t1 t2 t3 t4 t5 t6 t7 t8 t9 t10 t11 t12 t13 t14 t15 t16 t17 t18 t19 t20 Z0_0 Z0_1
  go_upto_region 1 with (fail)
  refine wp_region_inv2 (fun b a w' => Fr (fun k => k = gp ∨ k = gq) W1 w' ∧ P8 w' (gp) px' (if b 17 = true then pz' else pz) ∧ P8 w' (gq) qx' (if b 20 = true then qz' else qz) ∧ (b 17 = true → b 5 = true) ∧ (b 20 = true → b 9 = true) ∧ a = ⟨#[.pointer (some ⟨gp, 0, none⟩), .pointer (some ⟨gq, 0, none⟩), .int .i64 bit, undef, undef, undef, .tuple #[.agg (ec px'), .agg (ec qx')], .pointer (some ⟨gp, 0, none⟩), .pointer (some ⟨gq, 0, none⟩), .pointer (some ⟨gp, 0, none⟩), .pointer (some ⟨gp, 0, none⟩), .pointer (some ⟨gp, 0, none⟩), .agg (ec px), .pointer (some ⟨gq, 0, none⟩), .pointer (some ⟨gq, 0, none⟩), .pointer (some ⟨gq, 0, none⟩), .agg (ec qx), .int .i64 bit, .tuple #[.agg (ec px'), .agg (ec qx')], .agg (ec px'), .agg (ec qx'), .pointer (some ⟨gp, 0, none⟩), .pointer (some ⟨gp, 0, none⟩), .pointer (some ⟨gq, 0, none⟩), .pointer (some ⟨gq, 0, none⟩), if b 12 = true then .tuple #[.agg (ec pz'), .agg (ec qz')] else undef, if b 0 = true then .pointer (some ⟨gp, 0, none⟩) else undef, if b 1 = true then .pointer (some ⟨gq, 0, none⟩) else undef, if b 2 = true then .pointer (some ⟨gp, 0, none⟩) else undef, if b 3 = true then .pointer (some ⟨gp, 0, none⟩) else undef, if b 4 = true then .pointer (some ⟨gp, 4, none⟩) else undef, if b 5 = true then .agg (ec pz) else undef, if b 6 = true then .pointer (some ⟨gq, 0, none⟩) else undef, if b 7 = true then .pointer (some ⟨gq, 0, none⟩) else undef, if b 8 = true then .pointer (some ⟨gq, 4, none⟩) else undef, if b 9 = true then .agg (ec qz) else undef, if b 10 = true then .int .i64 bit else undef, if b 11 = true then .tuple #[.agg (ec pz'), .agg (ec qz')] else undef, if b 13 = true then .agg (ec pz') else undef, if b 14 = true then .agg (ec qz') else undef, if b 15 = true then .pointer (some ⟨gp, 0, none⟩) else undef, if b 16 = true then .pointer (some ⟨gp, 4, none⟩) else undef, if b 18 = true then .pointer (some ⟨gq, 0, none⟩) else undef, if b 19 = true then .pointer (some ⟨gq, 4, none⟩) else undef], []⟩) (by kernel_rfl) (by kernel_rfl) ?start1 ?step1 ?done1
  case start1 => exact ⟨⟨rfl, rfl, rfl, Nat.le_refl _, fun _ _ _ => rfl⟩, by simp only [Bool.false_eq_true, if_false]; exact Z1_0.out, by simp only [Bool.false_eq_true, if_false]; exact Z1_1.out, by simp, by simp, by simp⟩
  case step1 =>
    intro i o b a w1 ho hI hb hr hc
    obtain ⟨hF, hP0, hP1, l17_5, l20_9, rfl⟩ := hI
    match i, ho with
    | 0, ho =>
      injection ho with ho
      subst ho
      refine wp_quiet_here (.pointer (some ⟨gp, 0, none⟩)) (BigFrame.quiet_move _ rfl rfl) (fun w2 hw2 => ?_)
      refine ⟨hF.trans hw2.any, ?_, ?_, ?_, ?_, ?_⟩
      · have hh := hP0.fr hw2 (fun x => x)
        simpa [upd] using hh
      · have hh := hP1.fr hw2 (fun x => x)
        simpa [upd] using hh
      · simpa [upd] using l17_5
      · simpa [upd] using l20_9
      · simp [upd, Act.put]
    | 1, ho =>
      injection ho with ho
      subst ho
      refine wp_quiet_here (.pointer (some ⟨gq, 0, none⟩)) (BigFrame.quiet_move _ rfl rfl) (fun w2 hw2 => ?_)
      refine ⟨hF.trans hw2.any, ?_, ?_, ?_, ?_, ?_⟩
      · have hh := hP0.fr hw2 (fun x => x)
        simpa [upd] using hh
      · have hh := hP1.fr hw2 (fun x => x)
        simpa [upd] using hh
      · simpa [upd] using l17_5
      · simpa [upd] using l20_9
      · simp [upd, Act.put]
    | 2, ho =>
      injection ho with ho
      subst ho
      refine wp_quiet_here (.pointer (some ⟨gp, 0, none⟩)) (BigFrame.quiet_move _ rfl rfl) (fun w2 hw2 => ?_)
      refine ⟨hF.trans hw2.any, ?_, ?_, ?_, ?_, ?_⟩
      · have hh := hP0.fr hw2 (fun x => x)
        simpa [upd] using hh
      · have hh := hP1.fr hw2 (fun x => x)
        simpa [upd] using hh
      · simpa [upd] using l17_5
      · simpa [upd] using l20_9
      · simp [upd, Act.put]
    | 3, ho =>
      injection ho with ho
      subst ho
      simp [Region.binds] at hr
      have d2 : b 2 = true := by simp only [hr]
      simp only [hr, if_true]
      refine wp_quiet_here (.pointer (some ⟨gp, 0, none⟩)) ?_ (fun w2 hw2 => ?_)
      · go_big_quiet_op
        first
          | (simp [Act.put]; done)
          | exact ⟨_, fun _ _ => rfl, by simp [Act.put]⟩
      refine ⟨hF.trans hw2.any, ?_, ?_, ?_, ?_, ?_⟩
      · have hh := hP0.fr hw2 (fun x => x)
        simpa [upd] using hh
      · have hh := hP1.fr hw2 (fun x => x)
        simpa [upd] using hh
      · simpa [upd] using l17_5
      · simpa [upd] using l20_9
      · simp [upd, Act.put, hr]
    | 4, ho =>
      injection ho with ho
      subst ho
      simp [Region.binds] at hr
      have d3 : b 3 = true := by simp only [hr]
      simp only [hr, if_true]
      refine wp_quiet_here (.pointer (some ⟨gp, 4, none⟩)) ?_ (fun w2 hw2 => ?_)
      · go_big_quiet_op
        first
          | (simp [Act.put]; done)
          | exact ⟨_, fun _ _ => rfl, by simp [Act.put]⟩
      refine ⟨hF.trans hw2.any, ?_, ?_, ?_, ?_, ?_⟩
      · have hh := hP0.fr hw2 (fun x => x)
        simpa [upd] using hh
      · have hh := hP1.fr hw2 (fun x => x)
        simpa [upd] using hh
      · simpa [upd] using l17_5
      · simpa [upd] using l20_9
      · simp [upd, Act.put, hr]
    | 5, ho =>
      injection ho with ho
      subst ho
      simp [Region.binds] at hr
      have d4 : b 4 = true := by simp only [hr]
      simp only [hr, if_true]
      have hL := hP0
      have hs17 : b 17 = false := by
        rcases hbs : b 17 with _ | _
        · rfl
        · rw [l17_5 hbs] at hb
          cases hb
      simp only [hs17, Bool.false_eq_true, if_false] at hL
      refine wp_quiet_here _ (quiet_half (.tmp 30) rfl (gp) 4 rfl pz (fun _ h => (hL.fr h (fun x => x)).r1) rfl) (fun w2 hw2 => ?_)
      refine ⟨hF.trans hw2.any, ?_, ?_, ?_, ?_, ?_⟩
      · have hh := hP0.fr hw2 (fun x => x)
        simpa [upd] using hh
      · have hh := hP1.fr hw2 (fun x => x)
        simpa [upd] using hh
      · simp [upd]
      · simpa [upd] using l20_9
      · simp [upd, Act.put, hr]
    | 6, ho =>
      injection ho with ho
      subst ho
      refine wp_quiet_here (.pointer (some ⟨gq, 0, none⟩)) (BigFrame.quiet_move _ rfl rfl) (fun w2 hw2 => ?_)
      refine ⟨hF.trans hw2.any, ?_, ?_, ?_, ?_, ?_⟩
      · have hh := hP0.fr hw2 (fun x => x)
        simpa [upd] using hh
      · have hh := hP1.fr hw2 (fun x => x)
        simpa [upd] using hh
      · simpa [upd] using l17_5
      · simpa [upd] using l20_9
      · simp [upd, Act.put]
    | 7, ho =>
      injection ho with ho
      subst ho
      simp [Region.binds] at hr
      have d6 : b 6 = true := by simp only [hr]
      simp only [hr, if_true]
      refine wp_quiet_here (.pointer (some ⟨gq, 0, none⟩)) ?_ (fun w2 hw2 => ?_)
      · go_big_quiet_op
        first
          | (simp [Act.put]; done)
          | exact ⟨_, fun _ _ => rfl, by simp [Act.put]⟩
      refine ⟨hF.trans hw2.any, ?_, ?_, ?_, ?_, ?_⟩
      · have hh := hP0.fr hw2 (fun x => x)
        simpa [upd] using hh
      · have hh := hP1.fr hw2 (fun x => x)
        simpa [upd] using hh
      · simpa [upd] using l17_5
      · simpa [upd] using l20_9
      · simp [upd, Act.put, hr]
    | 8, ho =>
      injection ho with ho
      subst ho
      simp [Region.binds] at hr
      have d7 : b 7 = true := by simp only [hr]
      simp only [hr, if_true]
      refine wp_quiet_here (.pointer (some ⟨gq, 4, none⟩)) ?_ (fun w2 hw2 => ?_)
      · go_big_quiet_op
        first
          | (simp [Act.put]; done)
          | exact ⟨_, fun _ _ => rfl, by simp [Act.put]⟩
      refine ⟨hF.trans hw2.any, ?_, ?_, ?_, ?_, ?_⟩
      · have hh := hP0.fr hw2 (fun x => x)
        simpa [upd] using hh
      · have hh := hP1.fr hw2 (fun x => x)
        simpa [upd] using hh
      · simpa [upd] using l17_5
      · simpa [upd] using l20_9
      · simp [upd, Act.put, hr]
    | 9, ho =>
      injection ho with ho
      subst ho
      simp [Region.binds] at hr
      have d8 : b 8 = true := by simp only [hr]
      simp only [hr, if_true]
      have hL := hP1
      have hs20 : b 20 = false := by
        rcases hbs : b 20 with _ | _
        · rfl
        · rw [l20_9 hbs] at hb
          cases hb
      simp only [hs20, Bool.false_eq_true, if_false] at hL
      refine wp_quiet_here _ (quiet_half (.tmp 34) rfl (gq) 4 rfl qz (fun _ h => (hL.fr h (fun x => x)).r1) rfl) (fun w2 hw2 => ?_)
      refine ⟨hF.trans hw2.any, ?_, ?_, ?_, ?_, ?_⟩
      · have hh := hP0.fr hw2 (fun x => x)
        simpa [upd] using hh
      · have hh := hP1.fr hw2 (fun x => x)
        simpa [upd] using hh
      · simpa [upd] using l17_5
      · simp [upd]
      · simp [upd, Act.put, hr]
    | 10, ho =>
      injection ho with ho
      subst ho
      refine wp_quiet_here (.int .i64 bit) (BigFrame.quiet_move _ rfl rfl) (fun w2 hw2 => ?_)
      refine ⟨hF.trans hw2.any, ?_, ?_, ?_, ?_, ?_⟩
      · have hh := hP0.fr hw2 (fun x => x)
        simpa [upd] using hh
      · have hh := hP1.fr hw2 (fun x => x)
        simpa [upd] using hh
      · simpa [upd] using l17_5
      · simpa [upd] using l20_9
      · simp [upd, Act.put]
    | 11, ho =>
      injection ho with ho
      subst ho
      simp [Region.binds] at hr
      have d5 : b 5 = true := by simp only [hr]
      have d9 : b 9 = true := by simp only [hr]
      have d10 : b 10 = true := by simp only [hr]
      simp only [hr, if_true]
      refine wp_quiet_here (.tuple #[.agg (ec pz'), .agg (ec qz')]) ?_ (fun w2 hw2 => ?_)
      · go_big_quiet_op
        exact ⟨_, Calm.calls C1, by simp [Act.put]⟩
      refine ⟨hF.trans hw2.any, ?_, ?_, ?_, ?_, ?_⟩
      · have hh := hP0.fr hw2 (fun x => x)
        simpa [upd] using hh
      · have hh := hP1.fr hw2 (fun x => x)
        simpa [upd] using hh
      · simpa [upd] using l17_5
      · simpa [upd] using l20_9
      · simp [upd, Act.put, hr]
    | 12, ho =>
      injection ho with ho
      subst ho
      simp [Region.binds] at hr
      have d11 : b 11 = true := by simp only [hr]
      simp only [hr, if_true]
      refine wp_quiet_here (.tuple #[.agg (ec pz'), .agg (ec qz')]) ?_ (fun w2 hw2 => ?_)
      · go_big_quiet_op
        first
          | (simp [Act.put]; done)
          | exact ⟨_, fun _ _ => rfl, by simp [Act.put]⟩
      refine ⟨hF.trans hw2.any, ?_, ?_, ?_, ?_, ?_⟩
      · have hh := hP0.fr hw2 (fun x => x)
        simpa [upd] using hh
      · have hh := hP1.fr hw2 (fun x => x)
        simpa [upd] using hh
      · simpa [upd] using l17_5
      · simpa [upd] using l20_9
      · simp [upd, Act.put, hr]
    | 13, ho =>
      injection ho with ho
      subst ho
      simp [Region.binds] at hr
      have d12 : b 12 = true := by simp only [hr]
      simp only [hr, if_true]
      refine wp_quiet_here (.agg (ec pz')) ?_ (fun w2 hw2 => ?_)
      · go_big_quiet_op
        first
          | (simp [Act.put]; done)
          | exact ⟨_, fun _ _ => rfl, by simp [Act.put]⟩
      refine ⟨hF.trans hw2.any, ?_, ?_, ?_, ?_, ?_⟩
      · have hh := hP0.fr hw2 (fun x => x)
        simpa [upd] using hh
      · have hh := hP1.fr hw2 (fun x => x)
        simpa [upd] using hh
      · simpa [upd] using l17_5
      · simpa [upd] using l20_9
      · simp [upd, Act.put, hr]
    | 14, ho =>
      injection ho with ho
      subst ho
      simp [Region.binds] at hr
      have d12 : b 12 = true := by simp only [hr]
      simp only [hr, if_true]
      refine wp_quiet_here (.agg (ec qz')) ?_ (fun w2 hw2 => ?_)
      · go_big_quiet_op
        first
          | (simp [Act.put]; done)
          | exact ⟨_, fun _ _ => rfl, by simp [Act.put]⟩
      refine ⟨hF.trans hw2.any, ?_, ?_, ?_, ?_, ?_⟩
      · have hh := hP0.fr hw2 (fun x => x)
        simpa [upd] using hh
      · have hh := hP1.fr hw2 (fun x => x)
        simpa [upd] using hh
      · simpa [upd] using l17_5
      · simpa [upd] using l20_9
      · simp [upd, Act.put, hr]
    | 15, ho =>
      injection ho with ho
      subst ho
      simp [Region.binds] at hr
      have d0 : b 0 = true := by simp only [hr]
      simp only [hr, if_true]
      refine wp_quiet_here (.pointer (some ⟨gp, 0, none⟩)) ?_ (fun w2 hw2 => ?_)
      · go_big_quiet_op
        first
          | (simp [Act.put]; done)
          | exact ⟨_, fun _ _ => rfl, by simp [Act.put]⟩
      refine ⟨hF.trans hw2.any, ?_, ?_, ?_, ?_, ?_⟩
      · have hh := hP0.fr hw2 (fun x => x)
        simpa [upd] using hh
      · have hh := hP1.fr hw2 (fun x => x)
        simpa [upd] using hh
      · simpa [upd] using l17_5
      · simpa [upd] using l20_9
      · simp [upd, Act.put, hr]
    | 16, ho =>
      injection ho with ho
      subst ho
      simp [Region.binds] at hr
      have d15 : b 15 = true := by simp only [hr]
      simp only [hr, if_true]
      refine wp_quiet_here (.pointer (some ⟨gp, 4, none⟩)) ?_ (fun w2 hw2 => ?_)
      · go_big_quiet_op
        first
          | (simp [Act.put]; done)
          | exact ⟨_, fun _ _ => rfl, by simp [Act.put]⟩
      refine ⟨hF.trans hw2.any, ?_, ?_, ?_, ?_, ?_⟩
      · have hh := hP0.fr hw2 (fun x => x)
        simpa [upd] using hh
      · have hh := hP1.fr hw2 (fun x => x)
        simpa [upd] using hh
      · simpa [upd] using l17_5
      · simpa [upd] using l20_9
      · simp [upd, Act.put, hr]
    | 17, ho =>
      injection ho with ho
      subst ho
      simp [Region.binds] at hr
      have d13 : b 13 = true := by simp only [hr]
      have d16 : b 16 = true := by simp only [hr]
      simp only [hr, if_true]
      refine wp_store_mid 37 (.tmp 41) (.tmp 38) rfl (gp) 4 (ec pz') rfl rfl hP0.there1 (ec_info _) (ec_all _) ?_
      refine ⟨hF.setCells _ _ (.inl (by simp)), ?_, ?_, ?_, ?_, ?_⟩
      · have hh := hP0.s1 pz'
        simpa [upd] using hh
      · have hh := hP1.far (by assumption) 4 (ec pz').toList
        simpa [upd] using hh
      · intro _
        exact (by simp [upd, (chain hc 11 5 rfl (chain hc 12 11 rfl (chain hc 13 12 rfl d13 (by simp [Region.binds])) (by simp [Region.binds])) (by simp [Region.binds]))])
      · simpa [upd] using l20_9
      · simp [upd, Act.put, hr]
    | 18, ho =>
      injection ho with ho
      subst ho
      simp [Region.binds] at hr
      have d1 : b 1 = true := by simp only [hr]
      simp only [hr, if_true]
      refine wp_quiet_here (.pointer (some ⟨gq, 0, none⟩)) ?_ (fun w2 hw2 => ?_)
      · go_big_quiet_op
        first
          | (simp [Act.put]; done)
          | exact ⟨_, fun _ _ => rfl, by simp [Act.put]⟩
      refine ⟨hF.trans hw2.any, ?_, ?_, ?_, ?_, ?_⟩
      · have hh := hP0.fr hw2 (fun x => x)
        simpa [upd] using hh
      · have hh := hP1.fr hw2 (fun x => x)
        simpa [upd] using hh
      · simpa [upd] using l17_5
      · simpa [upd] using l20_9
      · simp [upd, Act.put, hr]
    | 19, ho =>
      injection ho with ho
      subst ho
      simp [Region.binds] at hr
      have d18 : b 18 = true := by simp only [hr]
      simp only [hr, if_true]
      refine wp_quiet_here (.pointer (some ⟨gq, 4, none⟩)) ?_ (fun w2 hw2 => ?_)
      · go_big_quiet_op
        first
          | (simp [Act.put]; done)
          | exact ⟨_, fun _ _ => rfl, by simp [Act.put]⟩
      refine ⟨hF.trans hw2.any, ?_, ?_, ?_, ?_, ?_⟩
      · have hh := hP0.fr hw2 (fun x => x)
        simpa [upd] using hh
      · have hh := hP1.fr hw2 (fun x => x)
        simpa [upd] using hh
      · simpa [upd] using l17_5
      · simpa [upd] using l20_9
      · simp [upd, Act.put, hr]
    | 20, ho =>
      injection ho with ho
      subst ho
      simp [Region.binds] at hr
      have d14 : b 14 = true := by simp only [hr]
      have d19 : b 19 = true := by simp only [hr]
      simp only [hr, if_true]
      refine wp_store_mid 37 (.tmp 43) (.tmp 39) rfl (gq) 4 (ec qz') rfl rfl hP1.there1 (ec_info _) (ec_all _) ?_
      refine ⟨hF.setCells _ _ (.inl (by simp)), ?_, ?_, ?_, ?_, ?_⟩
      · have hh := hP0.far (by assumption) 4 (ec qz').toList
        simpa [upd] using hh
      · have hh := hP1.s1 qz'
        simpa [upd] using hh
      · simpa [upd] using l17_5
      · intro _
        exact (by simp [upd, (chain hc 11 9 rfl (chain hc 12 11 rfl (chain hc 14 12 rfl d14 (by simp [Region.binds])) (by simp [Region.binds])) (by simp [Region.binds]))])
      · simp [upd, Act.put, hr]
    | j + 21, ho => exact absurd ho (by simp)
  intro b a W2 hall hI
  obtain ⟨hF, hP0, hP1, l17_5, l20_9, rfl⟩ := hI
  have t0 : b 0 = true := hall 0 (by simp)
  have t1 : b 1 = true := hall 1 (by simp)
  have t2 : b 2 = true := hall 2 (by simp)
  have t3 : b 3 = true := hall 3 (by simp)
  have t4 : b 4 = true := hall 4 (by simp)
  have t5 : b 5 = true := hall 5 (by simp)
  have t6 : b 6 = true := hall 6 (by simp)
  have t7 : b 7 = true := hall 7 (by simp)
  have t8 : b 8 = true := hall 8 (by simp)
  have t9 : b 9 = true := hall 9 (by simp)
  have t10 : b 10 = true := hall 10 (by simp)
  have t11 : b 11 = true := hall 11 (by simp)
  have t12 : b 12 = true := hall 12 (by simp)
  have t13 : b 13 = true := hall 13 (by simp)
  have t14 : b 14 = true := hall 14 (by simp)
  have t15 : b 15 = true := hall 15 (by simp)
  have t16 : b 16 = true := hall 16 (by simp)
  have t17 : b 17 = true := hall 17 (by simp)
  have t18 : b 18 = true := hall 18 (by simp)
  have t19 : b 19 = true := hall 19 (by simp)
  have t20 : b 20 = true := hall 20 (by simp)
  simp only [t0, t1, t2, t3, t4, t5, t6, t7, t8, t9, t10, t11, t12, t13, t14, t15, t16, t17, t18, t19, t20, if_true, true_implies] at hP0 hP1 l17_5 l20_9 ⊢
  have F2 : Hid (Fr (fun k => k = gp ∨ k = gq) w W2) := F1.out.trans hF
  have Z2_0 := Lib.hid hP0
  have Z2_1 := Lib.hid hP1
  clear hall hF hP0 hP1 l17_5 l20_9 t0 t1 t2 t3 t4 t5 t6 t7 t8 t9 t10 t11 t12 t13 t14 t15 t16 t17 t18 t19 t20 Z1_0 Z1_1 F1
  go_wp2
  go_end0
  exact ⟨rfl, Z2_0.out, Z2_1.out, F2.out⟩
end Go.Proofs.Ytbkbodcncjhcmaa
