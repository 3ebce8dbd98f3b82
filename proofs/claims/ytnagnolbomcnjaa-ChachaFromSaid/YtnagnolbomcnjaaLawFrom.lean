/- ChachaFrom answers true for all keys, counters, nonces, bytes and numbers, and its arguments read behind the call as they did: the given statement ChachaFromSaid. No condition. -/
import Derived.Test.YtnagnolbomcnjaaBr
namespace Go.Proofs.Ytnagnolbomcnjaa
set_option linter.unusedSimpArgs false
set_option linter.unusedVariables false
set_option linter.unusedVariables false
open Go.ChangeShapes Go.WideShapes Go.ChangeAt Go.RowKit

set_option maxRecDepth 100000 in
set_option maxHeartbeats 8000000 in
theorem law_from_any (vk : List Int) (vc : Int) (vn : List Int) (gb : Nat) (A : Option Addr) (m cap : Nat) (l : List Int) (z : Int) (w : World) (hk : vk.length = 32) (bk : Bys vk) (hc : Wd vc) (hn : vn.length = 12) (bn : Bys vn) (hs : Sl w gb (.slice A m cap) l) (hm : m ≤ 140737488351232) (hg : l ≠ [] → gb < w.heap.size) (hz : -9223372036854775808 ≤ z ∧ z ≤ 9223372036854775807) :
    Calls Try.prog 11 #[.agg (bg vk vc vn), .slice A m cap, .int .i64 z] w fun e w' => e = .returned (.bool true) ∧ Fr (fun _ => False) w w' := by
  have HB := Lib.hid (And.intro hk (And.intro bk (And.intro hc (And.intro hn bn))))
  have HS := Lib.hid hs
  have HL := Lib.hid hs.len
  have HY : Hid (Bys l) := hs.1
  have HG : Hid (0 < m → gb < w.heap.size) := Lib.hid (fun h => hg (by intro e; have := hs.len; rw [e] at this; simp at this; omega))
  have HM := Lib.hid hm
  clear hs hg
  clear hk bk hn bn
  go_enter Try.func11, Try.ntmps11
  go_upto_region 1 with (fail)
  generalize hW : w.alloc (.cells (bg vk vc vn) 31) = W0
  have HW := Lib.hid (calm1a hW)
  have X0 := Lib.hid HW.out.1
  have F0 : Hid (Fr (fun _ => False) w W0) := HW.out.2
  clear hW HW
  go_upto_region 3 with (go_at_call 15; refine (works_is _).mono ?_; rintro e w1 ⟨rfl, hf⟩; replace X0 := Lib.hid (Calm.at X0.out hf); replace F0 := Lib.hid (F0.out.trans hf); clear hf)
  try simp only [Act.put, List.setIfInBounds_toArray, List.set_cons_succ, List.set_cons_zero]
  have hcap : m ≤ maxLen := by have := HM.out; simp only [maxLen]; omega
  have hcc2 : m ≤ cap ∧ cap ≤ maxLen := by obtain ⟨_, _, _, e, q1, q2, _⟩ := HS.out; injection e with e1 e2 e3; have := HL.out; exact ⟨by omega, by omega⟩
  have HC := Lib.hid hc
  have k_vk := Lib.hid HB.out.1
  have k_vn := Lib.hid HB.out.2.2.2.1
  have d1 : (m : Int).tdiv 64 = ((m / 64 : Nat) : Int) := by rw [Int.tdiv_eq_ediv_of_nonneg (by omega)]; omega
  have d2 : IntKind.i64.wrap ((m / 64 : Nat) : Int) = ((m / 64 : Nat) : Int) := by rw [IntKind.wrap_i64]; omega
  have d3 : IntKind.i64.wrap (((m / 64 : Nat) : Int) + 1) = ((m / 64 + 1 : Nat) : Int) := by rw [IntKind.wrap_i64]; omega
  obtain ⟨M, hM⟩ : ∃ M : Nat, m / 64 = M := ⟨_, rfl⟩
  rw [hM] at d1 d2 d3
  have e4 : IntKind.i64.wrap ((m : Int) / 64) = M := by rw [IntKind.wrap_i64]; omega
  have e5 : (m : Int) / 64 = M := by omega
  have CBr : ∀ W, Calls Try.prog 23 #[.int .i64 z, .int .i64 ((M : Int) + 1)] W fun e w' => ∃ r : Nat, r < M + 1 ∧ e = .returned (.int .i64 r) ∧ W = w' := fun W => bring_ex z (M + 1) W hz.1 hz.2 (by omega) (by have := HM.out; omega)
  have d5 : IntKind.i64.wrap ((M : Int) + 1) = (M : Int) + 1 := by rw [IntKind.wrap_i64]; omega
  have HMM := Lib.hid hM
  clear hM d3
  go_upto_region 4 with (go_at_call 23; refine (CBr _).mono ?_; rintro e w' ⟨r, hr, rfl, rfl⟩)
  clear CBr d1 d2 e4 e5 d5
  have hr64 : 64 * r ≤ m := by have := HMM.out; omega
  have HR := Lib.hid hr64
  clear hr hr64 HMM
  try simp only [Act.put, List.setIfInBounds_toArray, List.set_cons_succ, List.set_cons_zero]
  have hcc := bg_cell HB.out.1 X0.out
  by_cases hlim : (m : Int) ≤ (4294967296 - vc) * 64
  · have HLIM := Lib.hid hlim
    obtain ⟨X, hX⟩ : ∃ X, xo vk vc vn l = X := ⟨_, rfl⟩
    have HX1 : Hid (X.length = m) := by show _ = _; rw [← hX, xo_length, HL.out]
    have HXB : Hid (Bys X) := by show Bys X; rw [← hX]; exact xo_bys' HY.out
    have HX0 : Unit → xo vk vc vn l = X := fun _ => hX
    clear hX
    go_upto_region 5 with (first
    | (go_at_call 19; refine (xor_ex vk vc vn gb A m cap l _ HB.out.1 HB.out.2.1 HC.out HB.out.2.2.2.1 HB.out.2.2.2.2 (HS.out.fr F0.out (fun _ x => x)) (by have := HM.out; omega) HLIM.out (fun h => Nat.lt_of_lt_of_le (HG.out h) F0.out.size)).mono ?_; rintro e w2 ⟨g1, hg1, rfl, ha, hf⟩; replace X0 := Lib.hid (Calm.at X0.out hf); replace F0 := Lib.hid (F0.out.trans hf); have AX : Hid (Ar w2 g1 5 .u8 X) := by { show _; rw [← HX0 ()]; exact ha }; clear hf ha hg1)
    | refine wpList_mid rfl 28 (.tmp 20) rfl (w.heap.size) 0 rfl .u8 vk _ (bg_key HB.out.1 X0.out) Try.underlying28 rfl (by rw [HB.out.1]; kernel_rfl) ?_
    | refine wpList_mid rfl 29 (.tmp 24) rfl (w.heap.size) 33 rfl .u8 vn _ (bg_nonce HB.out.1 X0.out) Try.underlying29 rfl (by rw [HB.out.2.2.2.1]; kernel_rfl) ?_)
    try simp only [Act.put, List.setIfInBounds_toArray, List.set_cons_succ, List.set_cons_zero]
    have v1 : IntKind.i64.wrap (64 * (r : Int)) = 64 * r := by have := HR.out; have := HM.out; rw [IntKind.wrap_i64]; omega
    clear hcc
    by_cases hrm : 64 * r = m
    · have e1 : decide (64 * (r : Int) = (m : Int)) = true := decide_eq_true (by omega)
      have e2 : ((64 * (r : Int)) == (m : Int)) = true := by simp; omega
      have e3 : 64 * (r : Int) = (m : Int) := by omega
      clear hlim
      go_wp2
      go_ret
      exact ⟨rfl, F0.out⟩
    · have e2 : ((64 * (r : Int)) == (m : Int)) = false := by simp; omega
      have e3 : ¬ (64 * (r : Int) = (m : Int)) := by omega
      have hm0 : 0 < m := by have := HR.out; omega
      obtain ⟨o, rfl, hcl1⟩ := (HS.out.fr F0.out (fun _ x => x)).at_ hm0
      clear hcl1
      have HG2 : Hid (gb < w.heap.size) := HG.out hm0
      have v2 : IntKind.u32.wrap (r : Int) = r := by have := HR.out; have := HM.out; have := HC.out.1; rw [wrap32]; omega
      obtain ⟨d, hd⟩ : ∃ d, sm vc (r : Int) = d := ⟨_, rfl⟩
      have v3 : IntKind.u32.wrap (vc + (r : Int)) = d := by rw [wrap32, ← hd]; rfl
      have HD : Unit → sm vc (r : Int) = d := fun _ => hd
      have wd : Hid (Wd d) := by show Wd d; rw [← hd]; exact sm_wd _ _
      obtain ⟨K, hK⟩ : ∃ K : Nat, m - 64 * r = K := ⟨_, rfl⟩
      have hK0 : 0 < K := by have := HR.out; omega
      have HK : Hid (64 * r + K = m) := by show _ = _; have := HR.out; omega
      have lim2 : Hid ((K : Int) ≤ (4294967296 - d) * 64) := by
        show _ ≤ _
        have h1 := HLIM.out
        have h2 := HK.out
        have h3 := HC.out.1
        have h4 : d = vc + r := by rw [← hd]; unfold sm; omega
        rw [h4]
        omega
      have hdr := (HS.out.fr F0.out (fun _ x => x)).drop (64 * r) (by rw [HL.out]; exact HR.out)
      rw [if_neg (by have := hcc2.1; have := HK.out; omega), HL.out, hK] at hdr
      have HDR : Hid (Sl w2 gb (.slice (some ⟨gb, o + 64 * r, none⟩) K (cap - 64 * r)) (l.drop (64 * r))) := by
        show Sl _ _ _ _
        rw [Option.map_some, Addr_add_none] at hdr
        exact hdr
      have hXd : Unit → xo vk d vn (l.drop (64 * r)) = X.drop (64 * r) := fun _ => by rw [← HD (), xo_drop, HX0 ()]
      have q1 : (m : Int) - 64 * (r : Int) = K := by have := HK.out; omega
      have q2 : m - 64 * r = K := hK
      have q3 : 0 ≤ 64 * (r : Int) := by omega
      have q4 : 64 * (r : Int) ≤ m := by have := HR.out; omega
      have q5 : (64 * (r : Int)).toNat = 64 * r := by omega
      have q6 : ¬ cap = 64 * r := by have := hcc2.1; have := HK.out; omega
      have q7 : ¬ m = 64 * r := by have := HK.out; omega
      have HK2 : Hid (K ≤ 140737488355328 ∧ 0 < K) := by have := HM.out; have := HK.out; exact ⟨by omega, hK0⟩
      clear hdr hd hlim hrm hm0 hK hK0
      go_upto_region 7 with (fail)
      refine wp_region_inv2 (fun b a w' => ∃ g2 : Nat, Fr (fun _ => False) w2 w' ∧ (b 13 = true → w2.heap.size ≤ g2 ∧ Ar w' g2 5 .u8 (xo vk d vn (l.drop (64 * r)))) ∧ a = ⟨#[.agg (bg vk vc vn), .slice (some ⟨gb, o, none⟩) m cap, .int .i64 r, .pointer (some ⟨w.heap.size, 0, none⟩), undef, undef, .bool false, .slice (some ⟨g1, 0, none⟩) m m, .int .i64 0, if b 17 = true then .slice (some ⟨g2, 0, none⟩) K K else undef, if b 18 = true then .int .i64 0 else undef, .bool true, .bool false, .int .i64 z, .slice (some ⟨gb, o, none⟩) m cap, .int .i64 m, .int .i64 M, .int .i64 ((M : Int) + 1), .int .i64 r, .tuple #[.slice (some ⟨g1, 0, none⟩) m m, .int .i64 0], .pointer (some ⟨w.heap.size, 0, none⟩), .agg (vs .u8 vk), .pointer (some ⟨w.heap.size, 32, none⟩), .int .u32 vc, .pointer (some ⟨w.heap.size, 33, none⟩), .agg (vs .u8 vn), .slice (some ⟨gb, o, none⟩) m cap, .tuple #[.slice (some ⟨g1, 0, none⟩) m m, .int .i64 0], .slice (some ⟨g1, 0, none⟩) m m, .int .i64 0, .int .i64 0, .bool false, .bool false, .int .i64 r, .int .i64 (64 * (r : Int)), .slice (some ⟨gb, o, none⟩) m cap, .int .i64 m, .bool false, .bool false, undef, undef, undef, undef, undef, undef, if b 14 = true then .tuple #[.slice (some ⟨g2, 0, none⟩) K K, .int .i64 0] else undef, if b 0 = true then .pointer (some ⟨w.heap.size, 0, none⟩) else undef, if b 1 = true then .agg (vs .u8 vk) else undef, if b 2 = true then .pointer (some ⟨w.heap.size, 32, none⟩) else undef, if b 3 = true then .int .u32 vc else undef, if b 4 = true then .int .i64 r else undef, if b 5 = true then .int .u32 r else undef, if b 6 = true then .int .u32 d else undef, if b 7 = true then .pointer (some ⟨w.heap.size, 33, none⟩) else undef, if b 8 = true then .agg (vs .u8 vn) else undef, if b 9 = true then .slice (some ⟨gb, o, none⟩) m cap else undef, if b 10 = true then .int .i64 r else undef, if b 11 = true then .int .i64 (64 * (r : Int)) else undef, if b 12 = true then .slice (some ⟨gb, o + 64 * r, none⟩) K (cap - 64 * r) else undef, if b 13 = true then .tuple #[.slice (some ⟨g2, 0, none⟩) K K, .int .i64 0] else undef, if b 15 = true then .slice (some ⟨g2, 0, none⟩) K K else undef, if b 16 = true then .int .i64 0 else undef, undef, undef, undef, undef, undef, undef, undef, undef, undef, undef, undef, undef, undef, undef, undef, undef, undef], []⟩) (by kernel_rfl) (by kernel_rfl) ?start7 ?step7 ?done7
      case start7 => exact ⟨0, ⟨rfl, rfl, rfl, Nat.le_refl _, fun _ _ _ => rfl⟩, fun h => by simp at h, by simp⟩
      case step7 =>
        intro i5 o5 b a w1 ho hI hb hr hcl
        obtain ⟨g2, hF, h13, rfl⟩ := hI
        match i5, ho with
        | 0, ho =>
          injection ho with ho
          subst ho
          refine wp_quiet_here (.pointer (some ⟨w.heap.size, 0, none⟩)) ?_ (fun w2 hw2 => ?_)
          · simp only [Bool.false_eq_true] 
            go_big_quiet_op
            first
              | (simp [Act.put]; done)
              | exact ⟨_, fun _ _ => rfl, by simp [Act.put]⟩
          refine ⟨g2, hF.trans hw2, ?_, ?_⟩
          · intro hx
            have hy := h13 (by simpa [upd] using hx)
            exact ⟨hy.1, hy.2.fr hw2 (fun x => x)⟩
          · simp [upd, Act.put]
        | 1, ho =>
          injection ho with ho
          subst ho
          simp [Region.binds] at hr
          have d0 : b 0 = true := by simp only [hr]
          simp only [hr, if_true]
          refine wp_quiet_here (.agg (vs .u8 vk)) (quiet_mid 28 _ (.tmp 46) rfl (w.heap.size) 0 rfl .u8 vk Try.underlying28 rfl (by rw [k_vk.out]; kernel_rfl) (fun _ h => bg_key k_vk.out ((Fr.block h _ (Nat.lt_of_lt_of_le (heap_lt X0.out) hF.size) (fun x => x)).trans ((hF.block _ (heap_lt X0.out) (fun x => x)).trans X0.out))) rfl) (fun w2 hw2 => ?_)
          refine ⟨g2, hF.trans hw2, ?_, ?_⟩
          · intro hx
            have hy := h13 (by simpa [upd] using hx)
            exact ⟨hy.1, hy.2.fr hw2 (fun x => x)⟩
          · simp [upd, Act.put, hr]
        | 2, ho =>
          injection ho with ho
          subst ho
          refine wp_quiet_here (.pointer (some ⟨w.heap.size, 32, none⟩)) ?_ (fun w2 hw2 => ?_)
          · simp only [Bool.false_eq_true] 
            go_big_quiet_op
            first
              | (simp [Act.put]; done)
              | exact ⟨_, fun _ _ => rfl, by simp [Act.put]⟩
          refine ⟨g2, hF.trans hw2, ?_, ?_⟩
          · intro hx
            have hy := h13 (by simpa [upd] using hx)
            exact ⟨hy.1, hy.2.fr hw2 (fun x => x)⟩
          · simp [upd, Act.put]
        | 3, ho =>
          injection ho with ho
          subst ho
          simp [Region.binds] at hr
          have d2 : b 2 = true := by simp only [hr]
          simp only [hr, if_true]
          refine wp_quiet_here (.int .u32 vc) (quiet_one 22 .u32 (.tmp 48) rfl (w.heap.size) 32 rfl vc Try.underlying22 (fun _ h => bg_cell k_vk.out ((Fr.block h _ (Nat.lt_of_lt_of_le (heap_lt X0.out) hF.size) (fun x => x)).trans ((hF.block _ (heap_lt X0.out) (fun x => x)).trans X0.out))) rfl) (fun w2 hw2 => ?_)
          refine ⟨g2, hF.trans hw2, ?_, ?_⟩
          · intro hx
            have hy := h13 (by simpa [upd] using hx)
            exact ⟨hy.1, hy.2.fr hw2 (fun x => x)⟩
          · simp [upd, Act.put, hr]
        | 4, ho =>
          injection ho with ho
          subst ho
          refine wp_quiet_here (.int .i64 r) (BigFrame.quiet_move _ rfl rfl) (fun w2 hw2 => ?_)
          refine ⟨g2, hF.trans hw2, ?_, ?_⟩
          · intro hx
            have hy := h13 (by simpa [upd] using hx)
            exact ⟨hy.1, hy.2.fr hw2 (fun x => x)⟩
          · simp [upd, Act.put]
        | 5, ho =>
          injection ho with ho
          subst ho
          simp [Region.binds] at hr
          have d4 : b 4 = true := by simp only [hr]
          simp only [hr, if_true]
          refine wp_quiet_here (.int .u32 r) ?_ (fun w2 hw2 => ?_)
          · go_big_quiet_op
            first
              | (simp [Act.put]; done)
              | exact ⟨_, fun _ _ => rfl, by simp [Act.put]⟩
          refine ⟨g2, hF.trans hw2, ?_, ?_⟩
          · intro hx
            have hy := h13 (by simpa [upd] using hx)
            exact ⟨hy.1, hy.2.fr hw2 (fun x => x)⟩
          · simp [upd, Act.put, hr]
        | 6, ho =>
          injection ho with ho
          subst ho
          simp [Region.binds] at hr
          have d3 : b 3 = true := by simp only [hr]
          have d5 : b 5 = true := by simp only [hr]
          simp only [hr, if_true]
          refine wp_quiet_here (.int .u32 d) ?_ (fun w2 hw2 => ?_)
          · go_big_quiet_op
            first
              | (simp [Act.put]; done)
              | exact ⟨_, fun _ _ => rfl, by simp [Act.put]⟩
          refine ⟨g2, hF.trans hw2, ?_, ?_⟩
          · intro hx
            have hy := h13 (by simpa [upd] using hx)
            exact ⟨hy.1, hy.2.fr hw2 (fun x => x)⟩
          · simp [upd, Act.put, hr]
        | 7, ho =>
          injection ho with ho
          subst ho
          refine wp_quiet_here (.pointer (some ⟨w.heap.size, 33, none⟩)) ?_ (fun w2 hw2 => ?_)
          · simp only [Bool.false_eq_true] 
            go_big_quiet_op
            first
              | (simp [Act.put]; done)
              | exact ⟨_, fun _ _ => rfl, by simp [Act.put]⟩
          refine ⟨g2, hF.trans hw2, ?_, ?_⟩
          · intro hx
            have hy := h13 (by simpa [upd] using hx)
            exact ⟨hy.1, hy.2.fr hw2 (fun x => x)⟩
          · simp [upd, Act.put]
        | 8, ho =>
          injection ho with ho
          subst ho
          simp [Region.binds] at hr
          have d7 : b 7 = true := by simp only [hr]
          simp only [hr, if_true]
          refine wp_quiet_here (.agg (vs .u8 vn)) (quiet_mid 29 _ (.tmp 53) rfl (w.heap.size) 33 rfl .u8 vn Try.underlying29 rfl (by rw [k_vn.out]; kernel_rfl) (fun _ h => bg_nonce k_vk.out ((Fr.block h _ (Nat.lt_of_lt_of_le (heap_lt X0.out) hF.size) (fun x => x)).trans ((hF.block _ (heap_lt X0.out) (fun x => x)).trans X0.out))) rfl) (fun w2 hw2 => ?_)
          refine ⟨g2, hF.trans hw2, ?_, ?_⟩
          · intro hx
            have hy := h13 (by simpa [upd] using hx)
            exact ⟨hy.1, hy.2.fr hw2 (fun x => x)⟩
          · simp [upd, Act.put, hr]
        | 9, ho =>
          injection ho with ho
          subst ho
          refine wp_quiet_here (.slice (some ⟨gb, o, none⟩) m cap) (BigFrame.quiet_move _ rfl rfl) (fun w2 hw2 => ?_)
          refine ⟨g2, hF.trans hw2, ?_, ?_⟩
          · intro hx
            have hy := h13 (by simpa [upd] using hx)
            exact ⟨hy.1, hy.2.fr hw2 (fun x => x)⟩
          · simp [upd, Act.put]
        | 10, ho =>
          injection ho with ho
          subst ho
          refine wp_quiet_here (.int .i64 r) (BigFrame.quiet_move _ rfl rfl) (fun w2 hw2 => ?_)
          refine ⟨g2, hF.trans hw2, ?_, ?_⟩
          · intro hx
            have hy := h13 (by simpa [upd] using hx)
            exact ⟨hy.1, hy.2.fr hw2 (fun x => x)⟩
          · simp [upd, Act.put]
        | 11, ho =>
          injection ho with ho
          subst ho
          simp [Region.binds] at hr
          have d10 : b 10 = true := by simp only [hr]
          simp only [hr, if_true]
          refine wp_quiet_here (.int .i64 (64 * (r : Int))) ?_ (fun w2 hw2 => ?_)
          · go_big_quiet_op
            first
              | (simp [Act.put]; done)
              | exact ⟨_, fun _ _ => rfl, by simp [Act.put]⟩
          refine ⟨g2, hF.trans hw2, ?_, ?_⟩
          · intro hx
            have hy := h13 (by simpa [upd] using hx)
            exact ⟨hy.1, hy.2.fr hw2 (fun x => x)⟩
          · simp [upd, Act.put, hr]
        | 12, ho =>
          injection ho with ho
          subst ho
          simp [Region.binds] at hr
          have d9 : b 9 = true := by simp only [hr]
          have d11 : b 11 = true := by simp only [hr]
          simp only [hr, if_true]
          refine wp_quiet_here (.slice (some ⟨gb, o + 64 * r, none⟩) K (cap - 64 * r)) ?_ (fun w2 hw2 => ?_)
          · go_big_quiet_op
            first
              | (simp [Act.put]; done)
              | exact ⟨_, fun _ _ => rfl, by simp [Act.put]⟩
          refine ⟨g2, hF.trans hw2, ?_, ?_⟩
          · intro hx
            have hy := h13 (by simpa [upd] using hx)
            exact ⟨hy.1, hy.2.fr hw2 (fun x => x)⟩
          · simp [upd, Act.put, hr]
        | 13, ho =>
          injection ho with ho
          subst ho
          simp [Region.binds] at hr
          have d1 : b 1 = true := by simp only [hr]
          have d6 : b 6 = true := by simp only [hr]
          have d8 : b 8 = true := by simp only [hr]
          have d12 : b 12 = true := by simp only [hr]
          simp only [hr, if_true]
          have n14 : b 14 = false := by
            rcases hbs : b 14 with _ | _
            · rfl
            · rw [chain hcl 14 13 rfl hbs (by simp [Region.binds])] at hb
              cases hb
          have n15 : b 15 = false := by
            rcases hbs : b 15 with _ | _
            · rfl
            · rw [chain hcl 14 13 rfl (chain hcl 15 14 rfl hbs (by simp [Region.binds])) (by simp [Region.binds])] at hb
              cases hb
          have n17 : b 17 = false := by
            rcases hbs : b 17 with _ | _
            · rfl
            · rw [chain hcl 14 13 rfl (chain hcl 15 14 rfl (chain hcl 17 15 rfl hbs (by simp [Region.binds])) (by simp [Region.binds])) (by simp [Region.binds])] at hb
              cases hb
          refine wp_enter 19 #[.agg (vs .u8 vk), .int .u32 d, .agg (vs .u8 vn), .slice (some ⟨gb, o + 64 * r, none⟩) K (cap - 64 * r)] (by kernel_rfl) ((xor_ex vk d vn gb (some ⟨gb, o + 64 * r, none⟩) K (cap - 64 * r) (l.drop (64 * r)) w1 HB.out.1 HB.out.2.1 wd.out HB.out.2.2.2.1 HB.out.2.2.2.2 (HDR.out.fr hF (fun _ x => x)) HK2.out.1 lim2.out (fun _ => Nat.lt_of_lt_of_le HG2.out (Nat.le_trans F0.out.size hF.size))).mono ?_)
          rintro e w2 ⟨gN, hgN, rfl, haN, hfN⟩
          refine ⟨gN, hF.trans hfN, ?_, ?_⟩
          · exact fun _ => ⟨Nat.le_trans hF.size hgN, haN⟩
          · simp [upd, Act.put, hr, n14, n15, n17]
        | 14, ho =>
          injection ho with ho
          subst ho
          simp [Region.binds] at hr
          have d13 : b 13 = true := by simp only [hr]
          simp only [hr, if_true]
          refine wp_quiet_here (.tuple #[.slice (some ⟨g2, 0, none⟩) K K, .int .i64 0]) (BigFrame.quiet_move _ rfl rfl) (fun w2 hw2 => ?_)
          refine ⟨g2, hF.trans hw2, ?_, ?_⟩
          · intro hx
            have hy := h13 (by simpa [upd] using hx)
            exact ⟨hy.1, hy.2.fr hw2 (fun x => x)⟩
          · simp [upd, Act.put, hr]
        | 15, ho =>
          injection ho with ho
          subst ho
          simp [Region.binds] at hr
          have d14 : b 14 = true := by simp only [hr]
          simp only [hr, if_true]
          refine wp_quiet_here (.slice (some ⟨g2, 0, none⟩) K K) ?_ (fun w2 hw2 => ?_)
          · go_big_quiet_op
            first
              | (simp [Act.put]; done)
              | exact ⟨_, fun _ _ => rfl, by simp [Act.put]⟩
          refine ⟨g2, hF.trans hw2, ?_, ?_⟩
          · intro hx
            have hy := h13 (by simpa [upd] using hx)
            exact ⟨hy.1, hy.2.fr hw2 (fun x => x)⟩
          · simp [upd, Act.put, hr]
        | 16, ho =>
          injection ho with ho
          subst ho
          simp [Region.binds] at hr
          have d14 : b 14 = true := by simp only [hr]
          simp only [hr, if_true]
          refine wp_quiet_here (.int .i64 0) ?_ (fun w2 hw2 => ?_)
          · go_big_quiet_op
            first
              | (simp [Act.put]; done)
              | exact ⟨_, fun _ _ => rfl, by simp [Act.put]⟩
          refine ⟨g2, hF.trans hw2, ?_, ?_⟩
          · intro hx
            have hy := h13 (by simpa [upd] using hx)
            exact ⟨hy.1, hy.2.fr hw2 (fun x => x)⟩
          · simp [upd, Act.put, hr]
        | 17, ho =>
          injection ho with ho
          subst ho
          simp [Region.binds] at hr
          have d15 : b 15 = true := by simp only [hr]
          simp only [hr, if_true]
          refine wp_quiet_here (.slice (some ⟨g2, 0, none⟩) K K) (BigFrame.quiet_assign _ rfl rfl) (fun w2 hw2 => ?_)
          refine ⟨g2, hF.trans hw2, ?_, ?_⟩
          · intro hx
            have hy := h13 (by simpa [upd] using hx)
            exact ⟨hy.1, hy.2.fr hw2 (fun x => x)⟩
          · simp [upd, Act.put, hr]
        | 18, ho =>
          injection ho with ho
          subst ho
          simp [Region.binds] at hr
          have d16 : b 16 = true := by simp only [hr]
          simp only [hr, if_true]
          refine wp_quiet_here (.int .i64 0) (BigFrame.quiet_assign _ rfl rfl) (fun w2 hw2 => ?_)
          refine ⟨g2, hF.trans hw2, ?_, ?_⟩
          · intro hx
            have hy := h13 (by simpa [upd] using hx)
            exact ⟨hy.1, hy.2.fr hw2 (fun x => x)⟩
          · simp [upd, Act.put, hr]
        | j + 19, ho => exact absurd ho (by simp)
      intro b a W8 hall hI
      obtain ⟨g2, hF, h13, rfl⟩ := hI
      have t0 : b 0 = true := hall 0 (by simp)
      have t1 : b 1 = true := hall 1 (by simp)
      have t2 : b 2 = true := hall 2 (by simp)
      have t3 : b 3 = true := hall 3 (by simp)
      have t4 : b 4 = true := hall 4 (by simp)
      have t5 : b 5 = true := hall 5 (by simp)
      have t6 : b 6 = true := hall 6 (by simp)
      have t7 : b 7 = true := hall 7 (by simp)
      have t8 : b 8 = true := hall 8 (by simp)
      have t9 : b 9 = true := hall 9 (by simp)
      have t10 : b 10 = true := hall 10 (by simp)
      have t11 : b 11 = true := hall 11 (by simp)
      have t12 : b 12 = true := hall 12 (by simp)
      have t13 : b 13 = true := hall 13 (by simp)
      have t14 : b 14 = true := hall 14 (by simp)
      have t15 : b 15 = true := hall 15 (by simp)
      have t16 : b 16 = true := hall 16 (by simp)
      have t17 : b 17 = true := hall 17 (by simp)
      have t18 : b 18 = true := hall 18 (by simp)
      simp only [t0, t1, t2, t3, t4, t5, t6, t7, t8, t9, t10, t11, t12, t13, t14, t15, t16, t17, t18, if_true]
      have Yg2 : Hid (w2.heap.size ≤ g2) := (h13 t13).1
      have Ag2 := Lib.hid (h13 t13).2
      have AX_ := Lib.hid (AX.out.fr hF (fun x => x))
      have F8 : Hid (Fr (fun _ => False) w W8) := F0.out.trans hF
      have X8_0 := Lib.hid ((hF.block _ (heap_lt X0.out) (fun x => x)).trans X0.out)
      clear hall hF h13 t0 t1 t2 t3 t4 t5 t6 t7 t8 t9 t10 t11 t12 t13 t14 t15 t16 t17 t18 AX
      have hx9 := (AX_.out.sl HXB.out HX1.out hcap).drop (64 * r) (by rw [HX1.out]; exact HR.out)
      rw [if_neg q7, HX1.out, q2, Option.map_some, Addr_add_none, Nat.zero_add] at hx9
      have HX9 := Lib.hid hx9
      have hy9 : Hid (Sl W8 g2 (.slice (some ⟨g2, 0, none⟩) K K) (X.drop (64 * r))) := by
        show Sl _ _ _ _
        have h := Ag2.out
        rw [hXd ()] at h
        exact h.sl (HXB.out.drop _) (by rw [List.length_drop, HX1.out]; exact q2) (by have := hcap; omega)
      clear hx9 e2 e3 hcc2
      try simp only [Act.put, List.setIfInBounds_toArray, List.set_cons_succ, List.set_cons_zero]
      go_wp2_with (go_at_call 21; refine (eqBytes_any g1 g2 _ _ _ _ _ _ (X.drop (64 * r)) (X.drop (64 * r)) _ HX9.out hy9.out).mono ?_; rintro e w4 ⟨rfl, nq, rfl⟩)
      go_ret
      exact ⟨by simp, F8.out.drewN _⟩
  · have hlim2 : (4294967296 - vc) * 64 < (m : Int) := by omega
    go_upto_region 5 with (first
    | (go_at_call 19; refine (xor_no vk vc vn A m cap _ hc (by have := HM.out; omega) hlim2).mono ?_; rintro e w2 ⟨rfl, hf⟩; replace X0 := Lib.hid (Calm.at X0.out hf); replace F0 := Lib.hid (F0.out.trans hf); clear hf)
    | refine wpList_mid rfl 28 (.tmp 20) rfl (w.heap.size) 0 rfl .u8 vk _ (bg_key HB.out.1 X0.out) Try.underlying28 rfl (by rw [HB.out.1]; kernel_rfl) ?_
    | refine wpList_mid rfl 29 (.tmp 24) rfl (w.heap.size) 33 rfl .u8 vn _ (bg_nonce HB.out.1 X0.out) Try.underlying29 rfl (by rw [HB.out.2.2.2.1]; kernel_rfl) ?_)
    try simp only [Act.put, List.setIfInBounds_toArray, List.set_cons_succ, List.set_cons_zero]
    go_wp2
    go_ret
    exact ⟨rfl, F0.out⟩

set_option maxRecDepth 100000 in
theorem law_from_lifted (os : Os) (started : os.Started) (H : Type) (enc : TypeId × Value → H) :
    ReturnsInHanded {} Try.checked os 11 .any (Rows.chachaFromSpec.pre6 enc Try.prog Try.f11 Rows.chachaFromRow.domain false) (Rows.chachaFromSpec.post enc Try.prog Try.f11 false true false false) := by
  refine returnsInHanded_of_change_sized (C := Try.checked) own started (by kernel_rfl) Try.func11
    (ChangeSpec.witness6 (enc := enc) (C := Try.checked) false ⟨#[], #[.agg (bg (List.replicate 32 0) 0 (List.replicate 12 0)), .slice none 0 0, .int .i64 0], []⟩ 8 (by kernel_rfl) (by kernel_rfl) (by kernel_rfl) (by kernel_rfl)) ?_
  intro W base args ds gs before hval0 hW hcnd hsz0 _
  have hsz : (DataW.weightsEach Try.prog (Try.f11.params.toList ++ Rows.chachaFromSpec.plain.varTypes Try.prog) (ds ++ gs)).all (· ≤ reachBytes) = true := hsz0
  clear hsz0
  have hval : ∀ (j : Nat) t v, Try.f11.params[j]? = some t → args[j]? = some v → Value.okWide Try.prog W .any base t v := hval0
  have hW' := hW
  obtain ⟨p, q, hA0, hV, rfl, hfz, hnd⟩ := hW
  have hA : DataW.TrodAll enc Try.prog W 0 (fun _ => true) true Try.f11.params.toList args.toList ds p := hA0
  rw [Try.params11] at hA hval hsz
  obtain ⟨v0, vs0, d0, ds0, p0, q0, hargs, rfl, rfl, h0, r0⟩ := trodAll_cons hA
  obtain ⟨v1, vs1, d1, ds1, p1, q1, rfl, rfl, rfl, h1, r1⟩ := trodAll_cons r0
  obtain ⟨v2, vs2, d2, ds2, p2, q2, rfl, rfl, rfl, h2, r2⟩ := trodAll_cons r1
  obtain ⟨rfl, rfl, rfl⟩ := trodAll_nil r2
  obtain rfl : args = #[v0, v1, v2] := by cases args; simp_all
  obtain ⟨rfl, rfl⟩ := trodVars_none hV
  have hlt1 : ∀ x ∈ p1, x.block < W.heap.size := fun x hx => hW'.lt x (by simp [hx])
  obtain ⟨k0, c0, n0, rfl, lk0, bk0, wc0, ln0, bn0⟩ := open_bg (hval 0 31 v0 rfl rfl) h0
  obtain ⟨A1, m1, s1, g1, l1, rfl, hs1, hg1⟩ := open_sl (hval 1 35 v1 rfl rfl) h1 hlt1
  have hn1 : m1 ≤ 140737488351232 := by
    rcases open_len h1 with e | ⟨el, sp, rfl, hle⟩
    · omega
    · have := sized_slice hsz (j := 1) (t := 35) (e := 5) rfl rfl Try.underlying35
      rw [Try.bytes5] at this
      simp only [reachBytes] at this
      omega
  obtain ⟨a2, rfl, rfl, rfl, w2⟩ := open_int Try.underlying3 (hval 2 3 v2 rfl rfl) h2
  clear hA0 hval0
  refine (law_from_any k0 c0 n0 g1 A1 m1 s1 l1 a2 W lk0 bk0 wc0 ln0 bn0 hs1 hn1 hg1 (bounds_i64 w2)).mono fun e W' ⟨he, hg⟩ => ?_
  subst he
  exact ⟨_, rfl, post_true rfl hW' (by kernel_rfl) rfl rfl hg⟩

theorem chachaFrom_holds : Rows.ChachaFromSaid :=
  OpenClaim.holds_of_wide 11 Try.f11 rfl rfl rfl rfl rfl rfl rfl ⟨rfl, rfl, rfl, rfl, rfl⟩ rfl rfl rfl rfl rfl (by kernel_rfl) Try.func11 (by kernel_rfl)
    (of_decide_eq_true (by kernel_rfl)) (by unfold Func.isWrapper; first | (rw [if_pos (by decide +kernel)]; kernel_rfl) | (rw [if_neg (by decide +kernel)]; exact ⟨rfl, rfl⟩))
    (fun os started H enc _ => law_from_lifted os started H enc)
#print axioms chachaFrom_holds
end Go.Proofs.Ytnagnolbomcnjaa
