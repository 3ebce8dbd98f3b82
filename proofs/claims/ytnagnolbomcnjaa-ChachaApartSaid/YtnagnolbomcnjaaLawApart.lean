/- ChachaApart answers true for all keys, counters, nonces and bytes, and its arguments read behind the call as they did: the given statement ChachaApartSaid. No condition. -/
import Derived.Test.YtnagnolbomcnjaaXe
namespace Go.Proofs.Ytnagnolbomcnjaa
set_option linter.unusedSimpArgs false
set_option linter.unusedVariables false
set_option linter.unusedVariables false
open Go.ChangeShapes Go.WideShapes Go.ChangeAt Go.RowKit

theorem x8_both {p q s : Int} (hp : 0 ≤ p ∧ p ≤ 255) (hq : 0 ≤ q ∧ q ≤ 255) (hs : 0 ≤ s ∧ s ≤ 255) : x8 (x8 p s) (x8 q s) = x8 p q := by
  obtain ⟨p, rfl⟩ := Int.eq_ofNat_of_zero_le hp.1
  obtain ⟨q, rfl⟩ := Int.eq_ofNat_of_zero_le hq.1
  obtain ⟨s, rfl⟩ := Int.eq_ofNat_of_zero_le hs.1
  have h1 : p ^^^ s < 2 ^ 8 := Nat.xor_lt_two_pow (by omega) (by omega)
  have h2 : q ^^^ s < 2 ^ 8 := Nat.xor_lt_two_pow (by omega) (by omega)
  rw [x8_nat p s (by omega) (by omega), x8_nat q s (by omega) (by omega), x8_nat _ _ (by omega) (by omega), x8_nat p q (by omega) (by omega)]
  have e : (p ^^^ s) ^^^ (q ^^^ s) = p ^^^ q := by
    rw [Nat.xor_comm q s, ← Nat.xor_assoc, Nat.xor_assoc p s s, Nat.xor_self, Nat.xor_zero]
  rw [e]
set_option maxRecDepth 100000 in
set_option maxHeartbeats 8000000 in
theorem law_apart_any (vk : List Int) (vc : Int) (vn : List Int) (gb1 : Nat) (A1 : Option Addr) (m1 cap1 : Nat) (l1 : List Int) (gb2 : Nat) (A2 : Option Addr) (m2 cap2 : Nat) (l2 : List Int) (w : World) (hk : vk.length = 32) (bk : Bys vk) (hc : Wd vc) (hn : vn.length = 12) (bn : Bys vn) (hs1 : Sl w gb1 (.slice A1 m1 cap1) l1) (hm1 : m1 ≤ 140737488351232) (hg1 : l1 ≠ [] → gb1 < w.heap.size) (hs2 : Sl w gb2 (.slice A2 m2 cap2) l2) (hm2 : m2 ≤ 140737488351232) (hg2 : l2 ≠ [] → gb2 < w.heap.size) :
    Calls Try.prog 10 #[.agg (bg vk vc vn), .slice A1 m1 cap1, .slice A2 m2 cap2] w fun e w' => e = .returned (.bool true) ∧ Fr (fun _ => False) w w' := by
  have HB := Lib.hid (And.intro hk (And.intro bk (And.intro hc (And.intro hn bn))))
  have HS1 := Lib.hid hs1
  have HL1 := Lib.hid hs1.len
  have HY1 : Hid (Bys l1) := hs1.1
  have HG1 : Hid (0 < m1 → gb1 < w.heap.size) := Lib.hid (fun h => hg1 (by intro e; have := hs1.len; rw [e] at this; simp at this; omega))
  have HM1 := Lib.hid hm1
  clear hs1 hg1
  have HS2 := Lib.hid hs2
  have HL2 := Lib.hid hs2.len
  have HY2 : Hid (Bys l2) := hs2.1
  have HG2 : Hid (0 < m2 → gb2 < w.heap.size) := Lib.hid (fun h => hg2 (by intro e; have := hs2.len; rw [e] at this; simp at this; omega))
  have HM2 := Lib.hid hm2
  clear hs2 hg2
  clear hk bk hn bn
  go_enter Try.func10, Try.ntmps10
  go_upto_region 1 with (fail)
  generalize hW : w.alloc (.cells (bg vk vc vn) 31) = W0
  have HW := Lib.hid (calm1a hW)
  have X0 := Lib.hid HW.out.1
  have F0 : Hid (Fr (fun _ => False) w W0) := HW.out.2
  clear hW HW
  go_upto_region 3 with (go_at_call 15; refine (works_is _).mono ?_; rintro e w1 ⟨rfl, hf⟩; replace X0 := Lib.hid (Calm.at X0.out hf); replace F0 := Lib.hid (F0.out.trans hf); clear hf)
  try simp only [Act.put, List.setIfInBounds_toArray, List.set_cons_succ, List.set_cons_zero]
  obtain ⟨M, hM⟩ : ∃ M, M = min m1 m2 := ⟨_, rfl⟩
  have u2 : (if (m2 : Int) < (m1 : Int) then (m2 : Int) else (m1 : Int)) = (M : Int) := by
    rw [hM]
    split <;> omega
  have u3 : (if m2 < m1 then (m2 : Int) else (m1 : Int)) = (M : Int) := by
    rw [hM]
    split <;> omega
  have HMM := Lib.hid hM
  have c1 : (M : Int) ≤ cap1 := by obtain ⟨_, _, _, e, q1, _, _⟩ := HS1.out; injection e with e1 e2 e3; have := HL1.out; omega
  have c2 : (M : Int) ≤ cap2 := by obtain ⟨_, _, _, e, q1, _, _⟩ := HS2.out; injection e with e1 e2 e3; have := HL2.out; omega
  clear hM
  have kM1 : M ≤ m1 := by have := HMM.out; omega
  have kM2 : M ≤ m2 := by have := HMM.out; omega
  go_upto_region 4 with (fail)
  have HM0 : Hid (M ≤ 140737488355328) := by show M ≤ _; have := HM1.out; omega
  have HT1 : Hid (Sl w1 gb1 (.slice A1 M cap1) (l1.take M)) := Lib.hid ((HS1.out.fr F0.out (fun _ x => x)).take M (by rw [HL1.out]; exact kM1))
  have HT2 : Hid (Sl w1 gb2 (.slice A2 M cap2) (l2.take M)) := Lib.hid ((HS2.out.fr F0.out (fun _ x => x)).take M (by rw [HL2.out]; exact kM2))
  have HG3 : Hid (0 < M → gb1 < w.heap.size) := Lib.hid (fun h => HG1.out (by omega))
  have HG4 : Hid (0 < M → gb2 < w.heap.size) := Lib.hid (fun h => HG2.out (by omega))
  have HLM1 : Hid ((l1.take M).length = M) := by show _ = _; rw [List.length_take, HL1.out]; omega
  have HLM2 : Hid ((l2.take M).length = M) := by show _ = _; rw [List.length_take, HL2.out]; omega
  have HKM := Lib.hid (And.intro kM1 kM2)
  have HC := Lib.hid hc
  clear kM1 kM2 u2 u3
  have k_vk := Lib.hid HB.out.1
  have k_vn := Lib.hid HB.out.2.2.2.1
  by_cases hlim : (M : Int) ≤ (4294967296 - vc) * 64
  · have HLIM := Lib.hid hlim
    clear hlim
    refine wp_region_inv2 (fun b a w' => ∃ g1 : Nat, Fr (fun _ => False) w1 w' ∧ (b 9 = true → w1.heap.size ≤ g1 ∧ Ar w' g1 5 .u8 (xo vk vc vn (l1.take M))) ∧ a = ⟨#[.agg (bg vk vc vn), .slice A1 m1 cap1, .slice A2 m2 cap2, .pointer (some ⟨w.heap.size, 0, none⟩), undef, undef, .bool false, .int .i64 M, if b 13 = true then .slice (some ⟨g1, 0, none⟩) M M else undef, if b 14 = true then .int .i64 0 else undef, undef, undef, undef, .bool true, .bool false, .slice A1 m1 cap1, .int .i64 m1, .slice A2 m2 cap2, .int .i64 m2, .int .i64 M, if b 10 = true then .tuple #[.slice (some ⟨g1, 0, none⟩) M M, .int .i64 0] else undef, if b 0 = true then .pointer (some ⟨w.heap.size, 0, none⟩) else undef, if b 1 = true then .agg (vs .u8 vk) else undef, if b 2 = true then .pointer (some ⟨w.heap.size, 32, none⟩) else undef, if b 3 = true then .int .u32 vc else undef, if b 4 = true then .pointer (some ⟨w.heap.size, 33, none⟩) else undef, if b 5 = true then .agg (vs .u8 vn) else undef, if b 6 = true then .slice A1 m1 cap1 else undef, if b 7 = true then .int .i64 M else undef, if b 8 = true then .slice A1 M cap1 else undef, if b 9 = true then .tuple #[.slice (some ⟨g1, 0, none⟩) M M, .int .i64 0] else undef, if b 11 = true then .slice (some ⟨g1, 0, none⟩) M M else undef, if b 12 = true then .int .i64 0 else undef, undef, undef, undef, undef, undef, undef, undef, undef, undef, undef, undef, undef, undef, undef, undef, undef, undef, undef, undef, undef, undef, undef, undef, undef, undef, undef, undef, undef, undef, undef, undef, undef, undef, undef, undef, undef, undef, undef, undef, undef, undef, undef, undef, undef, undef, undef, undef, undef], []⟩) (by kernel_rfl) (by kernel_rfl) ?start4 ?step4 ?done4
    case start4 => exact ⟨0, ⟨rfl, rfl, rfl, Nat.le_refl _, fun _ _ _ => rfl⟩, fun h => by simp at h, by simp⟩
    case step4 =>
      intro i5 o5 b a w1 ho hI hb hr hcl
      obtain ⟨g1, hF, h9, rfl⟩ := hI
      match i5, ho with
      | 0, ho =>
        injection ho with ho
        subst ho
        refine wp_quiet_here (.pointer (some ⟨w.heap.size, 0, none⟩)) ?_ (fun w2 hw2 => ?_)
        · simp only [Bool.false_eq_true] 
          go_big_quiet_op
          first
            | (simp [Act.put]; done)
            | exact ⟨_, fun _ _ => rfl, by simp [Act.put]⟩
        refine ⟨g1, hF.trans hw2, ?_, ?_⟩
        · intro hx
          have hy := h9 (by simpa [upd] using hx)
          exact ⟨hy.1, hy.2.fr hw2 (fun x => x)⟩
        · simp [upd, Act.put]
      | 1, ho =>
        injection ho with ho
        subst ho
        simp [Region.binds] at hr
        have d0 : b 0 = true := by simp only [hr]
        simp only [hr, if_true]
        refine wp_quiet_here (.agg (vs .u8 vk)) (quiet_mid 28 _ (.tmp 21) rfl (w.heap.size) 0 rfl .u8 vk Try.underlying28 rfl (by rw [k_vk.out]; kernel_rfl) (fun _ h => bg_key k_vk.out ((Fr.block h _ (Nat.lt_of_lt_of_le (heap_lt X0.out) hF.size) (fun x => x)).trans ((hF.block _ (heap_lt X0.out) (fun x => x)).trans X0.out))) rfl) (fun w2 hw2 => ?_)
        refine ⟨g1, hF.trans hw2, ?_, ?_⟩
        · intro hx
          have hy := h9 (by simpa [upd] using hx)
          exact ⟨hy.1, hy.2.fr hw2 (fun x => x)⟩
        · simp [upd, Act.put, hr]
      | 2, ho =>
        injection ho with ho
        subst ho
        refine wp_quiet_here (.pointer (some ⟨w.heap.size, 32, none⟩)) ?_ (fun w2 hw2 => ?_)
        · simp only [Bool.false_eq_true] 
          go_big_quiet_op
          first
            | (simp [Act.put]; done)
            | exact ⟨_, fun _ _ => rfl, by simp [Act.put]⟩
        refine ⟨g1, hF.trans hw2, ?_, ?_⟩
        · intro hx
          have hy := h9 (by simpa [upd] using hx)
          exact ⟨hy.1, hy.2.fr hw2 (fun x => x)⟩
        · simp [upd, Act.put]
      | 3, ho =>
        injection ho with ho
        subst ho
        simp [Region.binds] at hr
        have d2 : b 2 = true := by simp only [hr]
        simp only [hr, if_true]
        refine wp_quiet_here (.int .u32 vc) (quiet_one 22 .u32 (.tmp 23) rfl (w.heap.size) 32 rfl vc Try.underlying22 (fun _ h => bg_cell k_vk.out ((Fr.block h _ (Nat.lt_of_lt_of_le (heap_lt X0.out) hF.size) (fun x => x)).trans ((hF.block _ (heap_lt X0.out) (fun x => x)).trans X0.out))) rfl) (fun w2 hw2 => ?_)
        refine ⟨g1, hF.trans hw2, ?_, ?_⟩
        · intro hx
          have hy := h9 (by simpa [upd] using hx)
          exact ⟨hy.1, hy.2.fr hw2 (fun x => x)⟩
        · simp [upd, Act.put, hr]
      | 4, ho =>
        injection ho with ho
        subst ho
        refine wp_quiet_here (.pointer (some ⟨w.heap.size, 33, none⟩)) ?_ (fun w2 hw2 => ?_)
        · simp only [Bool.false_eq_true] 
          go_big_quiet_op
          first
            | (simp [Act.put]; done)
            | exact ⟨_, fun _ _ => rfl, by simp [Act.put]⟩
        refine ⟨g1, hF.trans hw2, ?_, ?_⟩
        · intro hx
          have hy := h9 (by simpa [upd] using hx)
          exact ⟨hy.1, hy.2.fr hw2 (fun x => x)⟩
        · simp [upd, Act.put]
      | 5, ho =>
        injection ho with ho
        subst ho
        simp [Region.binds] at hr
        have d4 : b 4 = true := by simp only [hr]
        simp only [hr, if_true]
        refine wp_quiet_here (.agg (vs .u8 vn)) (quiet_mid 29 _ (.tmp 25) rfl (w.heap.size) 33 rfl .u8 vn Try.underlying29 rfl (by rw [k_vn.out]; kernel_rfl) (fun _ h => bg_nonce k_vk.out ((Fr.block h _ (Nat.lt_of_lt_of_le (heap_lt X0.out) hF.size) (fun x => x)).trans ((hF.block _ (heap_lt X0.out) (fun x => x)).trans X0.out))) rfl) (fun w2 hw2 => ?_)
        refine ⟨g1, hF.trans hw2, ?_, ?_⟩
        · intro hx
          have hy := h9 (by simpa [upd] using hx)
          exact ⟨hy.1, hy.2.fr hw2 (fun x => x)⟩
        · simp [upd, Act.put, hr]
      | 6, ho =>
        injection ho with ho
        subst ho
        refine wp_quiet_here (.slice A1 m1 cap1) (BigFrame.quiet_move _ rfl rfl) (fun w2 hw2 => ?_)
        refine ⟨g1, hF.trans hw2, ?_, ?_⟩
        · intro hx
          have hy := h9 (by simpa [upd] using hx)
          exact ⟨hy.1, hy.2.fr hw2 (fun x => x)⟩
        · simp [upd, Act.put]
      | 7, ho =>
        injection ho with ho
        subst ho
        refine wp_quiet_here (.int .i64 M) (BigFrame.quiet_move _ rfl rfl) (fun w2 hw2 => ?_)
        refine ⟨g1, hF.trans hw2, ?_, ?_⟩
        · intro hx
          have hy := h9 (by simpa [upd] using hx)
          exact ⟨hy.1, hy.2.fr hw2 (fun x => x)⟩
        · simp [upd, Act.put]
      | 8, ho =>
        injection ho with ho
        subst ho
        simp [Region.binds] at hr
        have d6 : b 6 = true := by simp only [hr]
        have d7 : b 7 = true := by simp only [hr]
        simp only [hr, if_true]
        refine wp_quiet_here (.slice A1 M cap1) ?_ (fun w2 hw2 => ?_)
        · go_big_quiet_op
          first
            | (simp [Act.put]; done)
            | exact ⟨_, fun _ _ => rfl, by simp [Act.put]⟩
        refine ⟨g1, hF.trans hw2, ?_, ?_⟩
        · intro hx
          have hy := h9 (by simpa [upd] using hx)
          exact ⟨hy.1, hy.2.fr hw2 (fun x => x)⟩
        · simp [upd, Act.put, hr]
      | 9, ho =>
        injection ho with ho
        subst ho
        simp [Region.binds] at hr
        have d1 : b 1 = true := by simp only [hr]
        have d3 : b 3 = true := by simp only [hr]
        have d5 : b 5 = true := by simp only [hr]
        have d8 : b 8 = true := by simp only [hr]
        simp only [hr, if_true]
        have n10 : b 10 = false := by
          rcases hbs : b 10 with _ | _
          · rfl
          · rw [chain hcl 10 9 rfl hbs (by simp [Region.binds])] at hb
            cases hb
        have n11 : b 11 = false := by
          rcases hbs : b 11 with _ | _
          · rfl
          · rw [chain hcl 10 9 rfl (chain hcl 11 10 rfl hbs (by simp [Region.binds])) (by simp [Region.binds])] at hb
            cases hb
        have n13 : b 13 = false := by
          rcases hbs : b 13 with _ | _
          · rfl
          · rw [chain hcl 10 9 rfl (chain hcl 11 10 rfl (chain hcl 13 11 rfl hbs (by simp [Region.binds])) (by simp [Region.binds])) (by simp [Region.binds])] at hb
            cases hb
        refine wp_enter 19 #[.agg (vs .u8 vk), .int .u32 vc, .agg (vs .u8 vn), .slice A1 M cap1] (by kernel_rfl) ((xor_ex vk vc vn gb1 A1 M cap1 (l1.take M) w1 HB.out.1 HB.out.2.1 HC.out HB.out.2.2.2.1 HB.out.2.2.2.2 (HT1.out.fr hF (fun _ x => x)) HM0.out HLIM.out (fun h => Nat.lt_of_lt_of_le (HG3.out h) (Nat.le_trans F0.out.size hF.size))).mono ?_)
        rintro e w2 ⟨gN, hgN, rfl, haN, hfN⟩
        refine ⟨gN, hF.trans hfN, ?_, ?_⟩
        · exact fun _ => ⟨Nat.le_trans hF.size hgN, haN⟩
        · simp [upd, Act.put, hr, n10, n11, n13]
      | 10, ho =>
        injection ho with ho
        subst ho
        simp [Region.binds] at hr
        have d9 : b 9 = true := by simp only [hr]
        simp only [hr, if_true]
        refine wp_quiet_here (.tuple #[.slice (some ⟨g1, 0, none⟩) M M, .int .i64 0]) (BigFrame.quiet_move _ rfl rfl) (fun w2 hw2 => ?_)
        refine ⟨g1, hF.trans hw2, ?_, ?_⟩
        · intro hx
          have hy := h9 (by simpa [upd] using hx)
          exact ⟨hy.1, hy.2.fr hw2 (fun x => x)⟩
        · simp [upd, Act.put, hr]
      | 11, ho =>
        injection ho with ho
        subst ho
        simp [Region.binds] at hr
        have d10 : b 10 = true := by simp only [hr]
        simp only [hr, if_true]
        refine wp_quiet_here (.slice (some ⟨g1, 0, none⟩) M M) ?_ (fun w2 hw2 => ?_)
        · go_big_quiet_op
          first
            | (simp [Act.put]; done)
            | exact ⟨_, fun _ _ => rfl, by simp [Act.put]⟩
        refine ⟨g1, hF.trans hw2, ?_, ?_⟩
        · intro hx
          have hy := h9 (by simpa [upd] using hx)
          exact ⟨hy.1, hy.2.fr hw2 (fun x => x)⟩
        · simp [upd, Act.put, hr]
      | 12, ho =>
        injection ho with ho
        subst ho
        simp [Region.binds] at hr
        have d10 : b 10 = true := by simp only [hr]
        simp only [hr, if_true]
        refine wp_quiet_here (.int .i64 0) ?_ (fun w2 hw2 => ?_)
        · go_big_quiet_op
          first
            | (simp [Act.put]; done)
            | exact ⟨_, fun _ _ => rfl, by simp [Act.put]⟩
        refine ⟨g1, hF.trans hw2, ?_, ?_⟩
        · intro hx
          have hy := h9 (by simpa [upd] using hx)
          exact ⟨hy.1, hy.2.fr hw2 (fun x => x)⟩
        · simp [upd, Act.put, hr]
      | 13, ho =>
        injection ho with ho
        subst ho
        simp [Region.binds] at hr
        have d11 : b 11 = true := by simp only [hr]
        simp only [hr, if_true]
        refine wp_quiet_here (.slice (some ⟨g1, 0, none⟩) M M) (BigFrame.quiet_assign _ rfl rfl) (fun w2 hw2 => ?_)
        refine ⟨g1, hF.trans hw2, ?_, ?_⟩
        · intro hx
          have hy := h9 (by simpa [upd] using hx)
          exact ⟨hy.1, hy.2.fr hw2 (fun x => x)⟩
        · simp [upd, Act.put, hr]
      | 14, ho =>
        injection ho with ho
        subst ho
        simp [Region.binds] at hr
        have d12 : b 12 = true := by simp only [hr]
        simp only [hr, if_true]
        refine wp_quiet_here (.int .i64 0) (BigFrame.quiet_assign _ rfl rfl) (fun w2 hw2 => ?_)
        refine ⟨g1, hF.trans hw2, ?_, ?_⟩
        · intro hx
          have hy := h9 (by simpa [upd] using hx)
          exact ⟨hy.1, hy.2.fr hw2 (fun x => x)⟩
        · simp [upd, Act.put, hr]
      | j + 15, ho => exact absurd ho (by simp)
    intro b a W5 hall hI
    obtain ⟨g1, hF, h9, rfl⟩ := hI
    have t0 : b 0 = true := hall 0 (by simp)
    have t1 : b 1 = true := hall 1 (by simp)
    have t2 : b 2 = true := hall 2 (by simp)
    have t3 : b 3 = true := hall 3 (by simp)
    have t4 : b 4 = true := hall 4 (by simp)
    have t5 : b 5 = true := hall 5 (by simp)
    have t6 : b 6 = true := hall 6 (by simp)
    have t7 : b 7 = true := hall 7 (by simp)
    have t8 : b 8 = true := hall 8 (by simp)
    have t9 : b 9 = true := hall 9 (by simp)
    have t10 : b 10 = true := hall 10 (by simp)
    have t11 : b 11 = true := hall 11 (by simp)
    have t12 : b 12 = true := hall 12 (by simp)
    have t13 : b 13 = true := hall 13 (by simp)
    have t14 : b 14 = true := hall 14 (by simp)
    simp only [t0, t1, t2, t3, t4, t5, t6, t7, t8, t9, t10, t11, t12, t13, t14, if_true]
    have Yg1 : Hid (w1.heap.size ≤ g1) := (h9 t9).1
    have Ag1 := Lib.hid (h9 t9).2
    have F5 : Hid (Fr (fun _ => False) w W5) := F0.out.trans hF
    have X5_0 := Lib.hid ((hF.block _ (heap_lt X0.out) (fun x => x)).trans X0.out)
    clear hall hF h9 t0 t1 t2 t3 t4 t5 t6 t7 t8 t9 t10 t11 t12 t13 t14 
    replace HT2 : Hid (Sl W5 gb2 (.slice A2 M cap2) (l2.take M)) := Lib.hid ((HS2.out.fr F5.out (fun _ x => x)).take M (by rw [HL2.out]; exact HKM.out.2))
    go_upto_region 5 with (fail)
    refine wp_region_inv2 (fun b a w' => ∃ g2 : Nat, Fr (fun _ => False) W5 w' ∧ (b 9 = true → W5.heap.size ≤ g2 ∧ Ar w' g2 5 .u8 (xo vk vc vn (l2.take M))) ∧ a = ⟨#[.agg (bg vk vc vn), .slice A1 m1 cap1, .slice A2 m2 cap2, .pointer (some ⟨w.heap.size, 0, none⟩), undef, undef, .bool false, .int .i64 M, .slice (some ⟨g1, 0, none⟩) M M, .int .i64 0, if b 13 = true then .slice (some ⟨g2, 0, none⟩) M M else undef, if b 14 = true then .int .i64 0 else undef, undef, .bool true, .bool false, .slice A1 m1 cap1, .int .i64 m1, .slice A2 m2 cap2, .int .i64 m2, .int .i64 M, .tuple #[.slice (some ⟨g1, 0, none⟩) M M, .int .i64 0], .pointer (some ⟨w.heap.size, 0, none⟩), .agg (vs .u8 vk), .pointer (some ⟨w.heap.size, 32, none⟩), .int .u32 vc, .pointer (some ⟨w.heap.size, 33, none⟩), .agg (vs .u8 vn), .slice A1 m1 cap1, .int .i64 M, .slice A1 M cap1, .tuple #[.slice (some ⟨g1, 0, none⟩) M M, .int .i64 0], .slice (some ⟨g1, 0, none⟩) M M, .int .i64 0, if b 10 = true then .tuple #[.slice (some ⟨g2, 0, none⟩) M M, .int .i64 0] else undef, if b 0 = true then .pointer (some ⟨w.heap.size, 0, none⟩) else undef, if b 1 = true then .agg (vs .u8 vk) else undef, if b 2 = true then .pointer (some ⟨w.heap.size, 32, none⟩) else undef, if b 3 = true then .int .u32 vc else undef, if b 4 = true then .pointer (some ⟨w.heap.size, 33, none⟩) else undef, if b 5 = true then .agg (vs .u8 vn) else undef, if b 6 = true then .slice A2 m2 cap2 else undef, if b 7 = true then .int .i64 M else undef, if b 8 = true then .slice A2 M cap2 else undef, if b 9 = true then .tuple #[.slice (some ⟨g2, 0, none⟩) M M, .int .i64 0] else undef, if b 11 = true then .slice (some ⟨g2, 0, none⟩) M M else undef, if b 12 = true then .int .i64 0 else undef, undef, undef, undef, undef, undef, undef, undef, undef, undef, undef, undef, undef, undef, undef, undef, undef, undef, undef, undef, undef, undef, undef, undef, undef, undef, undef, undef, undef, undef, undef, undef, undef, undef, undef, undef], []⟩) (by kernel_rfl) (by kernel_rfl) ?start5 ?step5 ?done5
    case start5 => exact ⟨0, ⟨rfl, rfl, rfl, Nat.le_refl _, fun _ _ _ => rfl⟩, fun h => by simp at h, by simp⟩
    case step5 =>
      intro i5 o5 b a w1 ho hI hb hr hcl
      obtain ⟨g2, hF, h9, rfl⟩ := hI
      match i5, ho with
      | 0, ho =>
        injection ho with ho
        subst ho
        refine wp_quiet_here (.pointer (some ⟨w.heap.size, 0, none⟩)) ?_ (fun w2 hw2 => ?_)
        · simp only [Bool.false_eq_true] 
          go_big_quiet_op
          first
            | (simp [Act.put]; done)
            | exact ⟨_, fun _ _ => rfl, by simp [Act.put]⟩
        refine ⟨g2, hF.trans hw2, ?_, ?_⟩
        · intro hx
          have hy := h9 (by simpa [upd] using hx)
          exact ⟨hy.1, hy.2.fr hw2 (fun x => x)⟩
        · simp [upd, Act.put]
      | 1, ho =>
        injection ho with ho
        subst ho
        simp [Region.binds] at hr
        have d0 : b 0 = true := by simp only [hr]
        simp only [hr, if_true]
        refine wp_quiet_here (.agg (vs .u8 vk)) (quiet_mid 28 _ (.tmp 34) rfl (w.heap.size) 0 rfl .u8 vk Try.underlying28 rfl (by rw [k_vk.out]; kernel_rfl) (fun _ h => bg_key k_vk.out ((Fr.block h _ (Nat.lt_of_lt_of_le (heap_lt X5_0.out) hF.size) (fun x => x)).trans ((hF.block _ (heap_lt X5_0.out) (fun x => x)).trans X5_0.out))) rfl) (fun w2 hw2 => ?_)
        refine ⟨g2, hF.trans hw2, ?_, ?_⟩
        · intro hx
          have hy := h9 (by simpa [upd] using hx)
          exact ⟨hy.1, hy.2.fr hw2 (fun x => x)⟩
        · simp [upd, Act.put, hr]
      | 2, ho =>
        injection ho with ho
        subst ho
        refine wp_quiet_here (.pointer (some ⟨w.heap.size, 32, none⟩)) ?_ (fun w2 hw2 => ?_)
        · simp only [Bool.false_eq_true] 
          go_big_quiet_op
          first
            | (simp [Act.put]; done)
            | exact ⟨_, fun _ _ => rfl, by simp [Act.put]⟩
        refine ⟨g2, hF.trans hw2, ?_, ?_⟩
        · intro hx
          have hy := h9 (by simpa [upd] using hx)
          exact ⟨hy.1, hy.2.fr hw2 (fun x => x)⟩
        · simp [upd, Act.put]
      | 3, ho =>
        injection ho with ho
        subst ho
        simp [Region.binds] at hr
        have d2 : b 2 = true := by simp only [hr]
        simp only [hr, if_true]
        refine wp_quiet_here (.int .u32 vc) (quiet_one 22 .u32 (.tmp 36) rfl (w.heap.size) 32 rfl vc Try.underlying22 (fun _ h => bg_cell k_vk.out ((Fr.block h _ (Nat.lt_of_lt_of_le (heap_lt X5_0.out) hF.size) (fun x => x)).trans ((hF.block _ (heap_lt X5_0.out) (fun x => x)).trans X5_0.out))) rfl) (fun w2 hw2 => ?_)
        refine ⟨g2, hF.trans hw2, ?_, ?_⟩
        · intro hx
          have hy := h9 (by simpa [upd] using hx)
          exact ⟨hy.1, hy.2.fr hw2 (fun x => x)⟩
        · simp [upd, Act.put, hr]
      | 4, ho =>
        injection ho with ho
        subst ho
        refine wp_quiet_here (.pointer (some ⟨w.heap.size, 33, none⟩)) ?_ (fun w2 hw2 => ?_)
        · simp only [Bool.false_eq_true] 
          go_big_quiet_op
          first
            | (simp [Act.put]; done)
            | exact ⟨_, fun _ _ => rfl, by simp [Act.put]⟩
        refine ⟨g2, hF.trans hw2, ?_, ?_⟩
        · intro hx
          have hy := h9 (by simpa [upd] using hx)
          exact ⟨hy.1, hy.2.fr hw2 (fun x => x)⟩
        · simp [upd, Act.put]
      | 5, ho =>
        injection ho with ho
        subst ho
        simp [Region.binds] at hr
        have d4 : b 4 = true := by simp only [hr]
        simp only [hr, if_true]
        refine wp_quiet_here (.agg (vs .u8 vn)) (quiet_mid 29 _ (.tmp 38) rfl (w.heap.size) 33 rfl .u8 vn Try.underlying29 rfl (by rw [k_vn.out]; kernel_rfl) (fun _ h => bg_nonce k_vk.out ((Fr.block h _ (Nat.lt_of_lt_of_le (heap_lt X5_0.out) hF.size) (fun x => x)).trans ((hF.block _ (heap_lt X5_0.out) (fun x => x)).trans X5_0.out))) rfl) (fun w2 hw2 => ?_)
        refine ⟨g2, hF.trans hw2, ?_, ?_⟩
        · intro hx
          have hy := h9 (by simpa [upd] using hx)
          exact ⟨hy.1, hy.2.fr hw2 (fun x => x)⟩
        · simp [upd, Act.put, hr]
      | 6, ho =>
        injection ho with ho
        subst ho
        refine wp_quiet_here (.slice A2 m2 cap2) (BigFrame.quiet_move _ rfl rfl) (fun w2 hw2 => ?_)
        refine ⟨g2, hF.trans hw2, ?_, ?_⟩
        · intro hx
          have hy := h9 (by simpa [upd] using hx)
          exact ⟨hy.1, hy.2.fr hw2 (fun x => x)⟩
        · simp [upd, Act.put]
      | 7, ho =>
        injection ho with ho
        subst ho
        refine wp_quiet_here (.int .i64 M) (BigFrame.quiet_move _ rfl rfl) (fun w2 hw2 => ?_)
        refine ⟨g2, hF.trans hw2, ?_, ?_⟩
        · intro hx
          have hy := h9 (by simpa [upd] using hx)
          exact ⟨hy.1, hy.2.fr hw2 (fun x => x)⟩
        · simp [upd, Act.put]
      | 8, ho =>
        injection ho with ho
        subst ho
        simp [Region.binds] at hr
        have d6 : b 6 = true := by simp only [hr]
        have d7 : b 7 = true := by simp only [hr]
        simp only [hr, if_true]
        refine wp_quiet_here (.slice A2 M cap2) ?_ (fun w2 hw2 => ?_)
        · go_big_quiet_op
          first
            | (simp [Act.put]; done)
            | exact ⟨_, fun _ _ => rfl, by simp [Act.put]⟩
        refine ⟨g2, hF.trans hw2, ?_, ?_⟩
        · intro hx
          have hy := h9 (by simpa [upd] using hx)
          exact ⟨hy.1, hy.2.fr hw2 (fun x => x)⟩
        · simp [upd, Act.put, hr]
      | 9, ho =>
        injection ho with ho
        subst ho
        simp [Region.binds] at hr
        have d1 : b 1 = true := by simp only [hr]
        have d3 : b 3 = true := by simp only [hr]
        have d5 : b 5 = true := by simp only [hr]
        have d8 : b 8 = true := by simp only [hr]
        simp only [hr, if_true]
        have n10 : b 10 = false := by
          rcases hbs : b 10 with _ | _
          · rfl
          · rw [chain hcl 10 9 rfl hbs (by simp [Region.binds])] at hb
            cases hb
        have n11 : b 11 = false := by
          rcases hbs : b 11 with _ | _
          · rfl
          · rw [chain hcl 10 9 rfl (chain hcl 11 10 rfl hbs (by simp [Region.binds])) (by simp [Region.binds])] at hb
            cases hb
        have n13 : b 13 = false := by
          rcases hbs : b 13 with _ | _
          · rfl
          · rw [chain hcl 10 9 rfl (chain hcl 11 10 rfl (chain hcl 13 11 rfl hbs (by simp [Region.binds])) (by simp [Region.binds])) (by simp [Region.binds])] at hb
            cases hb
        refine wp_enter 19 #[.agg (vs .u8 vk), .int .u32 vc, .agg (vs .u8 vn), .slice A2 M cap2] (by kernel_rfl) ((xor_ex vk vc vn gb2 A2 M cap2 (l2.take M) w1 HB.out.1 HB.out.2.1 HC.out HB.out.2.2.2.1 HB.out.2.2.2.2 (HT2.out.fr hF (fun _ x => x)) HM0.out HLIM.out (fun h => Nat.lt_of_lt_of_le (HG4.out h) (Nat.le_trans F5.out.size hF.size))).mono ?_)
        rintro e w2 ⟨gN, hgN, rfl, haN, hfN⟩
        refine ⟨gN, hF.trans hfN, ?_, ?_⟩
        · exact fun _ => ⟨Nat.le_trans hF.size hgN, haN⟩
        · simp [upd, Act.put, hr, n10, n11, n13]
      | 10, ho =>
        injection ho with ho
        subst ho
        simp [Region.binds] at hr
        have d9 : b 9 = true := by simp only [hr]
        simp only [hr, if_true]
        refine wp_quiet_here (.tuple #[.slice (some ⟨g2, 0, none⟩) M M, .int .i64 0]) (BigFrame.quiet_move _ rfl rfl) (fun w2 hw2 => ?_)
        refine ⟨g2, hF.trans hw2, ?_, ?_⟩
        · intro hx
          have hy := h9 (by simpa [upd] using hx)
          exact ⟨hy.1, hy.2.fr hw2 (fun x => x)⟩
        · simp [upd, Act.put, hr]
      | 11, ho =>
        injection ho with ho
        subst ho
        simp [Region.binds] at hr
        have d10 : b 10 = true := by simp only [hr]
        simp only [hr, if_true]
        refine wp_quiet_here (.slice (some ⟨g2, 0, none⟩) M M) ?_ (fun w2 hw2 => ?_)
        · go_big_quiet_op
          first
            | (simp [Act.put]; done)
            | exact ⟨_, fun _ _ => rfl, by simp [Act.put]⟩
        refine ⟨g2, hF.trans hw2, ?_, ?_⟩
        · intro hx
          have hy := h9 (by simpa [upd] using hx)
          exact ⟨hy.1, hy.2.fr hw2 (fun x => x)⟩
        · simp [upd, Act.put, hr]
      | 12, ho =>
        injection ho with ho
        subst ho
        simp [Region.binds] at hr
        have d10 : b 10 = true := by simp only [hr]
        simp only [hr, if_true]
        refine wp_quiet_here (.int .i64 0) ?_ (fun w2 hw2 => ?_)
        · go_big_quiet_op
          first
            | (simp [Act.put]; done)
            | exact ⟨_, fun _ _ => rfl, by simp [Act.put]⟩
        refine ⟨g2, hF.trans hw2, ?_, ?_⟩
        · intro hx
          have hy := h9 (by simpa [upd] using hx)
          exact ⟨hy.1, hy.2.fr hw2 (fun x => x)⟩
        · simp [upd, Act.put, hr]
      | 13, ho =>
        injection ho with ho
        subst ho
        simp [Region.binds] at hr
        have d11 : b 11 = true := by simp only [hr]
        simp only [hr, if_true]
        refine wp_quiet_here (.slice (some ⟨g2, 0, none⟩) M M) (BigFrame.quiet_assign _ rfl rfl) (fun w2 hw2 => ?_)
        refine ⟨g2, hF.trans hw2, ?_, ?_⟩
        · intro hx
          have hy := h9 (by simpa [upd] using hx)
          exact ⟨hy.1, hy.2.fr hw2 (fun x => x)⟩
        · simp [upd, Act.put, hr]
      | 14, ho =>
        injection ho with ho
        subst ho
        simp [Region.binds] at hr
        have d12 : b 12 = true := by simp only [hr]
        simp only [hr, if_true]
        refine wp_quiet_here (.int .i64 0) (BigFrame.quiet_assign _ rfl rfl) (fun w2 hw2 => ?_)
        refine ⟨g2, hF.trans hw2, ?_, ?_⟩
        · intro hx
          have hy := h9 (by simpa [upd] using hx)
          exact ⟨hy.1, hy.2.fr hw2 (fun x => x)⟩
        · simp [upd, Act.put, hr]
      | j + 15, ho => exact absurd ho (by simp)
    intro b a W6 hall hI
    obtain ⟨g2, hF, h9, rfl⟩ := hI
    have t0 : b 0 = true := hall 0 (by simp)
    have t1 : b 1 = true := hall 1 (by simp)
    have t2 : b 2 = true := hall 2 (by simp)
    have t3 : b 3 = true := hall 3 (by simp)
    have t4 : b 4 = true := hall 4 (by simp)
    have t5 : b 5 = true := hall 5 (by simp)
    have t6 : b 6 = true := hall 6 (by simp)
    have t7 : b 7 = true := hall 7 (by simp)
    have t8 : b 8 = true := hall 8 (by simp)
    have t9 : b 9 = true := hall 9 (by simp)
    have t10 : b 10 = true := hall 10 (by simp)
    have t11 : b 11 = true := hall 11 (by simp)
    have t12 : b 12 = true := hall 12 (by simp)
    have t13 : b 13 = true := hall 13 (by simp)
    have t14 : b 14 = true := hall 14 (by simp)
    simp only [t0, t1, t2, t3, t4, t5, t6, t7, t8, t9, t10, t11, t12, t13, t14, if_true]
    have Yg2 : Hid (W5.heap.size ≤ g2) := (h9 t9).1
    have Ag2 := Lib.hid (h9 t9).2
    have Ag1_ := Lib.hid (Ag1.out.fr hF (fun x => x))
    have F6 : Hid (Fr (fun _ => False) w W6) := F5.out.trans hF
    have X6_0 := Lib.hid ((hF.block _ (heap_lt X5_0.out) (fun x => x)).trans X5_0.out)
    clear hall hF h9 t0 t1 t2 t3 t4 t5 t6 t7 t8 t9 t10 t11 t12 t13 t14 Ag1
    obtain ⟨X1, hX1⟩ : ∃ X, xo vk vc vn (l1.take M) = X := ⟨_, rfl⟩
    obtain ⟨X2, hX2⟩ : ∃ X, xo vk vc vn (l2.take M) = X := ⟨_, rfl⟩
    have A9 : Hid (Ar W6 g1 5 .u8 X1) := by show _; rw [← hX1]; exact Ag1_.out
    have B9 : Hid (Ar W6 g2 5 .u8 X2) := by show _; rw [← hX2]; exact Ag2.out
    have HXX : Unit → ∀ i, i < M → X1[i]? = some (x8 (l1.getD i 0) (ks vk vc vn i)) ∧ X2[i]? = some (x8 (l2.getD i 0) (ks vk vc vn i)) := fun _ i hi => by
      rw [← hX1, ← hX2, xo_get (by rw [HLM1.out]; exact hi), xo_get (by rw [HLM2.out]; exact hi)]
      simp [List.getD_eq_getElem?_getD, List.getElem?_take, hi]
    clear hX1 hX2 Ag1_ Ag2 Yg1 Yg2 HT2 X6_0
    try simp only [Act.put, List.setIfInBounds_toArray, List.set_cons_succ, List.set_cons_zero]
    go_wp2
    go_loopw [12] (fun u12 wr => ∃ i : Nat, u12 = .int .i64 i ∧ i ≤ M ∧ Hid (Ar wr g1 5 .u8 X1) ∧ Hid (Ar wr g2 5 .u8 X2) ∧ Hid (Fr (fun _ => False) w wr))
      (fun u12 _ => M - (intOf u12).toNat)
    case atStart => exact ⟨0, rfl, by omega, A9, B9, F6⟩
    case round =>
      obtain ⟨i, rfl, hi, hA, hB, hF⟩ := hrel
      by_cases hil : i < M
      · have hcl1 := ((HS1.out.fr hF.out (fun _ x => x)).at_ (by have := HKM.out.1; omega))
        have hcl2 := ((HS2.out.fr hF.out (fun _ x => x)).at_ (by have := HKM.out.2; omega))
        obtain ⟨o1, rfl, hcl1⟩ := hcl1
        obtain ⟨o2, rfl, hcl2⟩ := hcl2
        have k1 := hcl1 i (by have := HKM.out.1; omega)
        have k2 := hcl2 i (by have := HKM.out.2; omega)
        obtain ⟨p1, hp1⟩ : ∃ p, l1.getD i 0 = p := ⟨_, rfl⟩
        obtain ⟨p2, hp2⟩ : ∃ p, l2.getD i 0 = p := ⟨_, rfl⟩
        obtain ⟨x1, hx1⟩ : ∃ p, x8 p1 (ks vk vc vn i) = p := ⟨_, rfl⟩
        obtain ⟨x2, hx2⟩ : ∃ p, x8 p2 (ks vk vc vn i) = p := ⟨_, rfl⟩
        obtain ⟨y, hy⟩ : ∃ y, bits .xor .u8 p1 p2 = y := ⟨_, rfl⟩
        have hXi := HXX () i hil
        have b1 : 0 ≤ p1 ∧ p1 ≤ 255 := by rw [← hp1]; exact HY1.out _ (List.mem_of_getElem? (getD_some (by rw [HL1.out]; have := HKM.out.1; omega)))
        have b2 : 0 ≤ p2 ∧ p2 ≤ 255 := by rw [← hp2]; exact HY2.out _ (List.mem_of_getElem? (getD_some (by rw [HL2.out]; have := HKM.out.2; omega)))
        rw [hp1, hp2, hx1, hx2] at hXi
        rw [hp1] at k1
        rw [hp2] at k2
        have hyy : bits .xor .u8 x1 x2 = y := by rw [← hx1, ← hx2, ← hy]; exact x8_both b1 b2 (ks_by vk vc vn i)
        have kx := Ar.cell hA.out hXi.1
        have ky := Ar.cell hB.out hXi.2
        have j1 : (i : Int) < m1 := by have := HKM.out.1; omega
        have j2 : (i : Int) < m2 := by have := HKM.out.2; omega
        have j3 : (i : Int) < M := by omega
        have j4 : ((i : Int)).toNat = i := by omega
        have j5 : 0 ≤ (i : Int) := by omega
        clear hcl1 hcl2 hp1 hp2 hx1 hx2 hXi b1 b2
        go_wp2
        go_quiet (fail)
        go_wp2
        go_roundw
        case rel => exact ⟨i + 1, by go_num, by omega, hA, hB, hF.out.drewN _⟩
        case measure => simp [intOf]; omega
      · clear hA hB
        go_wp2
        go_ret
        exact ⟨rfl, hF.out⟩
  · have hlim2 : (4294967296 - vc) * 64 < (M : Int) := by omega
    have CN1 : ∀ W, Calls Try.prog 19 #[.agg (vs .u8 vk), .int .u32 vc, .agg (vs .u8 vn), .slice A1 M cap1] W fun e w' => e = .returned (.tuple #[.slice none 0 0, .int .i64 5]) ∧ Fr (fun _ => False) W w' := fun W => xor_no vk vc vn A1 M cap1 W hc (by have := HM1.out; have := HKM.out; omega) hlim2
    have CN2 : ∀ W, Calls Try.prog 19 #[.agg (vs .u8 vk), .int .u32 vc, .agg (vs .u8 vn), .slice A2 M cap2] W fun e w' => e = .returned (.tuple #[.slice none 0 0, .int .i64 5]) ∧ Fr (fun _ => False) W w' := fun W => xor_no vk vc vn A2 M cap2 W hc (by have := HM1.out; have := HKM.out; omega) hlim2
    clear hlim hlim2 hc
    refine wp_region_quiet (C := Calm w1) (by kernel_rfl) (by kernel_rfl) (Calm.start _ _ (Fr.refl _ _)) ?_
    refine BigFrame.wpQuiet_want rfl fun K hK => ?_
    try simp only [Act.put, List.setIfInBounds_toArray, List.set_cons_succ, List.set_cons_zero]
    go_big_quiet_op
    first
      | refine ⟨_, fun _ _ => rfl, hK _ ?_⟩
      | refine hK _ ?_
    refine BigFrame.wpQuiet_want rfl fun K hK => quiet_mid 28 _ (.tmp 21) rfl (w.heap.size) 0 rfl .u8 vk Try.underlying28 rfl (by rw [k_vk.out]; kernel_rfl) (fun _ h => bg_key k_vk.out (Calm.at X0.out h)) (hK _ ?_)
    refine BigFrame.wpQuiet_want rfl fun K hK => ?_
    try simp only [Act.put, List.setIfInBounds_toArray, List.set_cons_succ, List.set_cons_zero]
    go_big_quiet_op
    first
      | refine ⟨_, fun _ _ => rfl, hK _ ?_⟩
      | refine hK _ ?_
    refine BigFrame.wpQuiet_want rfl fun K hK => quiet_one 22 .u32 (.tmp 23) rfl (w.heap.size) 32 rfl vc Try.underlying22 (fun _ h => bg_cell k_vk.out (Calm.at X0.out h)) (hK _ ?_)
    refine BigFrame.wpQuiet_want rfl fun K hK => ?_
    try simp only [Act.put, List.setIfInBounds_toArray, List.set_cons_succ, List.set_cons_zero]
    go_big_quiet_op
    first
      | refine ⟨_, fun _ _ => rfl, hK _ ?_⟩
      | refine hK _ ?_
    refine BigFrame.wpQuiet_want rfl fun K hK => quiet_mid 29 _ (.tmp 25) rfl (w.heap.size) 33 rfl .u8 vn Try.underlying29 rfl (by rw [k_vn.out]; kernel_rfl) (fun _ h => bg_nonce k_vk.out (Calm.at X0.out h)) (hK _ ?_)
    refine BigFrame.wpQuiet_want rfl fun K hK => ?_
    try simp only [Act.put, List.setIfInBounds_toArray, List.set_cons_succ, List.set_cons_zero]
    go_big_quiet_op
    refine hK _ ?_
    refine BigFrame.wpQuiet_want rfl fun K hK => ?_
    try simp only [Act.put, List.setIfInBounds_toArray, List.set_cons_succ, List.set_cons_zero]
    go_big_quiet_op
    refine hK _ ?_
    refine BigFrame.wpQuiet_want rfl fun K hK => ?_
    try simp only [Act.put, List.setIfInBounds_toArray, List.set_cons_succ, List.set_cons_zero]
    go_big_quiet_op
    first
      | refine ⟨_, fun _ _ => rfl, hK _ ?_⟩
      | refine hK _ ?_
    refine BigFrame.wpQuiet_want rfl fun K hK => ?_
    try simp only [Act.put, List.setIfInBounds_toArray, List.set_cons_succ, List.set_cons_zero]
    go_big_quiet_op
    refine ⟨_, Calm.calls CN1, hK _ ?_⟩
    refine BigFrame.wpQuiet_want rfl fun K hK => ?_
    try simp only [Act.put, List.setIfInBounds_toArray, List.set_cons_succ, List.set_cons_zero]
    go_big_quiet_op
    refine hK _ ?_
    refine BigFrame.wpQuiet_want rfl fun K hK => ?_
    try simp only [Act.put, List.setIfInBounds_toArray, List.set_cons_succ, List.set_cons_zero]
    go_big_quiet_op
    first
      | refine ⟨_, fun _ _ => rfl, hK _ ?_⟩
      | refine hK _ ?_
    refine BigFrame.wpQuiet_want rfl fun K hK => ?_
    try simp only [Act.put, List.setIfInBounds_toArray, List.set_cons_succ, List.set_cons_zero]
    go_big_quiet_op
    first
      | refine ⟨_, fun _ _ => rfl, hK _ ?_⟩
      | refine hK _ ?_
    refine BigFrame.wpQuiet_want rfl fun K hK => ?_
    try simp only [Act.put, List.setIfInBounds_toArray, List.set_cons_succ, List.set_cons_zero]
    go_big_quiet_op
    refine hK _ ?_
    refine BigFrame.wpQuiet_want rfl fun K hK => ?_
    try simp only [Act.put, List.setIfInBounds_toArray, List.set_cons_succ, List.set_cons_zero]
    go_big_quiet_op
    refine hK _ ?_
    refine wpQuiet_nil ?_
    intro w9 hw9
    have F9 : Hid (Fr (fun _ => False) w w9) := F0.out.trans hw9
    have G9 := Lib.hid hw9
    clear hw9
    try simp only [Act.put, List.setIfInBounds_toArray, List.set_cons_succ, List.set_cons_zero]
    have X9 := Lib.hid ((G9.out.block _ (heap_lt X0.out) (fun x => x)).trans X0.out)
    go_upto_region 5 with (fail)
    refine wp_region_quiet (C := Calm w9) (by kernel_rfl) (by kernel_rfl) (Calm.start _ _ (Fr.refl _ _)) ?_
    refine BigFrame.wpQuiet_want rfl fun K hK => ?_
    try simp only [Act.put, List.setIfInBounds_toArray, List.set_cons_succ, List.set_cons_zero]
    go_big_quiet_op
    first
      | refine ⟨_, fun _ _ => rfl, hK _ ?_⟩
      | refine hK _ ?_
    refine BigFrame.wpQuiet_want rfl fun K hK => quiet_mid 28 _ (.tmp 34) rfl (w.heap.size) 0 rfl .u8 vk Try.underlying28 rfl (by rw [k_vk.out]; kernel_rfl) (fun _ h => bg_key k_vk.out (Calm.at X9.out h)) (hK _ ?_)
    refine BigFrame.wpQuiet_want rfl fun K hK => ?_
    try simp only [Act.put, List.setIfInBounds_toArray, List.set_cons_succ, List.set_cons_zero]
    go_big_quiet_op
    first
      | refine ⟨_, fun _ _ => rfl, hK _ ?_⟩
      | refine hK _ ?_
    refine BigFrame.wpQuiet_want rfl fun K hK => quiet_one 22 .u32 (.tmp 36) rfl (w.heap.size) 32 rfl vc Try.underlying22 (fun _ h => bg_cell k_vk.out (Calm.at X9.out h)) (hK _ ?_)
    refine BigFrame.wpQuiet_want rfl fun K hK => ?_
    try simp only [Act.put, List.setIfInBounds_toArray, List.set_cons_succ, List.set_cons_zero]
    go_big_quiet_op
    first
      | refine ⟨_, fun _ _ => rfl, hK _ ?_⟩
      | refine hK _ ?_
    refine BigFrame.wpQuiet_want rfl fun K hK => quiet_mid 29 _ (.tmp 38) rfl (w.heap.size) 33 rfl .u8 vn Try.underlying29 rfl (by rw [k_vn.out]; kernel_rfl) (fun _ h => bg_nonce k_vk.out (Calm.at X9.out h)) (hK _ ?_)
    refine BigFrame.wpQuiet_want rfl fun K hK => ?_
    try simp only [Act.put, List.setIfInBounds_toArray, List.set_cons_succ, List.set_cons_zero]
    go_big_quiet_op
    refine hK _ ?_
    refine BigFrame.wpQuiet_want rfl fun K hK => ?_
    try simp only [Act.put, List.setIfInBounds_toArray, List.set_cons_succ, List.set_cons_zero]
    go_big_quiet_op
    refine hK _ ?_
    refine BigFrame.wpQuiet_want rfl fun K hK => ?_
    try simp only [Act.put, List.setIfInBounds_toArray, List.set_cons_succ, List.set_cons_zero]
    go_big_quiet_op
    first
      | refine ⟨_, fun _ _ => rfl, hK _ ?_⟩
      | refine hK _ ?_
    refine BigFrame.wpQuiet_want rfl fun K hK => ?_
    try simp only [Act.put, List.setIfInBounds_toArray, List.set_cons_succ, List.set_cons_zero]
    go_big_quiet_op
    refine ⟨_, Calm.calls CN2, hK _ ?_⟩
    refine BigFrame.wpQuiet_want rfl fun K hK => ?_
    try simp only [Act.put, List.setIfInBounds_toArray, List.set_cons_succ, List.set_cons_zero]
    go_big_quiet_op
    refine hK _ ?_
    refine BigFrame.wpQuiet_want rfl fun K hK => ?_
    try simp only [Act.put, List.setIfInBounds_toArray, List.set_cons_succ, List.set_cons_zero]
    go_big_quiet_op
    first
      | refine ⟨_, fun _ _ => rfl, hK _ ?_⟩
      | refine hK _ ?_
    refine BigFrame.wpQuiet_want rfl fun K hK => ?_
    try simp only [Act.put, List.setIfInBounds_toArray, List.set_cons_succ, List.set_cons_zero]
    go_big_quiet_op
    first
      | refine ⟨_, fun _ _ => rfl, hK _ ?_⟩
      | refine hK _ ?_
    refine BigFrame.wpQuiet_want rfl fun K hK => ?_
    try simp only [Act.put, List.setIfInBounds_toArray, List.set_cons_succ, List.set_cons_zero]
    go_big_quiet_op
    refine hK _ ?_
    refine BigFrame.wpQuiet_want rfl fun K hK => ?_
    try simp only [Act.put, List.setIfInBounds_toArray, List.set_cons_succ, List.set_cons_zero]
    go_big_quiet_op
    refine hK _ ?_
    refine wpQuiet_nil ?_
    intro w8 hw8
    have F8 : Hid (Fr (fun _ => False) w w8) := F9.out.trans hw8
    clear hw8
    try simp only [Act.put, List.setIfInBounds_toArray, List.set_cons_succ, List.set_cons_zero]
    go_wp2
    go_loopw [12] (fun u12 wr => u12 = .int .i64 0 ∧ Hid (Fr (fun _ => False) w wr)) (fun _ _ => 0)
    case atStart => exact ⟨rfl, F8⟩
    case round =>
      obtain ⟨rfl, hF⟩ := hrel
      go_wp2
      go_ret
      exact ⟨rfl, hF.out⟩

set_option maxRecDepth 100000 in
theorem law_apart_lifted (os : Os) (started : os.Started) (H : Type) (enc : TypeId × Value → H) :
    ReturnsInHanded {} Try.checked os 10 .any (Rows.chachaApartSpec.pre6 enc Try.prog Try.f10 Rows.chachaApartRow.domain false) (Rows.chachaApartSpec.post enc Try.prog Try.f10 false true false false) := by
  refine returnsInHanded_of_change_sized (C := Try.checked) own started (by kernel_rfl) Try.func10
    (ChangeSpec.witness6 (enc := enc) (C := Try.checked) false ⟨#[], #[.agg (bg (List.replicate 32 0) 0 (List.replicate 12 0)), .slice none 0 0, .slice none 0 0], []⟩ 8 (by kernel_rfl) (by kernel_rfl) (by kernel_rfl) (by kernel_rfl)) ?_
  intro W base args ds gs before hval0 hW hcnd hsz0 _
  have hsz : (DataW.weightsEach Try.prog (Try.f10.params.toList ++ Rows.chachaApartSpec.plain.varTypes Try.prog) (ds ++ gs)).all (· ≤ reachBytes) = true := hsz0
  clear hsz0
  have hval : ∀ (j : Nat) t v, Try.f10.params[j]? = some t → args[j]? = some v → Value.okWide Try.prog W .any base t v := hval0
  have hW' := hW
  obtain ⟨p, q, hA0, hV, rfl, hfz, hnd⟩ := hW
  have hA : DataW.TrodAll enc Try.prog W 0 (fun _ => true) true Try.f10.params.toList args.toList ds p := hA0
  rw [Try.params10] at hA hval hsz
  obtain ⟨v0, vs0, d0, ds0, p0, q0, hargs, rfl, rfl, h0, r0⟩ := trodAll_cons hA
  obtain ⟨v1, vs1, d1, ds1, p1, q1, rfl, rfl, rfl, h1, r1⟩ := trodAll_cons r0
  obtain ⟨v2, vs2, d2, ds2, p2, q2, rfl, rfl, rfl, h2, r2⟩ := trodAll_cons r1
  obtain ⟨rfl, rfl, rfl⟩ := trodAll_nil r2
  obtain rfl : args = #[v0, v1, v2] := by cases args; simp_all
  obtain ⟨rfl, rfl⟩ := trodVars_none hV
  have hlt1 : ∀ x ∈ p1, x.block < W.heap.size := fun x hx => hW'.lt x (by simp [hx])
  have hlt2 : ∀ x ∈ p2, x.block < W.heap.size := fun x hx => hW'.lt x (by simp [hx])
  obtain ⟨k0, c0, n0, rfl, lk0, bk0, wc0, ln0, bn0⟩ := open_bg (hval 0 31 v0 rfl rfl) h0
  obtain ⟨A1, m1, s1, g1, l1, rfl, hs1, hg1⟩ := open_sl (hval 1 35 v1 rfl rfl) h1 hlt1
  have hn1 : m1 ≤ 140737488351232 := by
    rcases open_len h1 with e | ⟨el, sp, rfl, hle⟩
    · omega
    · have := sized_slice hsz (j := 1) (t := 35) (e := 5) rfl rfl Try.underlying35
      rw [Try.bytes5] at this
      simp only [reachBytes] at this
      omega
  obtain ⟨A2, m2, s2, g2, l2, rfl, hs2, hg2⟩ := open_sl (hval 2 35 v2 rfl rfl) h2 hlt2
  have hn2 : m2 ≤ 140737488351232 := by
    rcases open_len h2 with e | ⟨el, sp, rfl, hle⟩
    · omega
    · have := sized_slice hsz (j := 2) (t := 35) (e := 5) rfl rfl Try.underlying35
      rw [Try.bytes5] at this
      simp only [reachBytes] at this
      omega
  clear hA0 hval0
  refine (law_apart_any k0 c0 n0 g1 A1 m1 s1 l1 g2 A2 m2 s2 l2 W lk0 bk0 wc0 ln0 bn0 hs1 hn1 hg1 hs2 hn2 hg2).mono fun e W' ⟨he, hg⟩ => ?_
  subst he
  exact ⟨_, rfl, post_true rfl hW' (by kernel_rfl) rfl rfl hg⟩

theorem chachaApart_holds : Rows.ChachaApartSaid :=
  OpenClaim.holds_of_wide 10 Try.f10 rfl rfl rfl rfl rfl rfl rfl ⟨rfl, rfl, rfl, rfl, rfl⟩ rfl rfl rfl rfl rfl (by kernel_rfl) Try.func10 (by kernel_rfl)
    (of_decide_eq_true (by kernel_rfl)) (by unfold Func.isWrapper; first | (rw [if_pos (by decide +kernel)]; kernel_rfl) | (rw [if_neg (by decide +kernel)]; exact ⟨rfl, rfl⟩))
    (fun os started H enc _ => law_apart_lifted os started H enc)
#print axioms chachaApart_holds
end Go.Proofs.Ytnagnolbomcnjaa
