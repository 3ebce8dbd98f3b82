/- CurveNames answers true: the given statement CurveNamesSaid. No condition. -/
import Derived.Test.YtbkbodcncjhcmaaLawX
import Derived.Test.YtbkbodcncjhcmaaLawLow
import Derived.Test.YtbkbodcncjhcmaaLawNumber
namespace Go.Proofs.Ytbkbodcncjhcmaa
set_option linter.unusedSimpArgs false
set_option linter.unusedVariables false
open Go.ChangeShapes Go.WideShapes Go.ChangeAt Go.RowKit

def kK : List Int := [165, 70, 227, 107, 240, 82, 124, 157, 59, 22, 21, 75, 130, 70, 94, 221, 98, 20, 76, 10, 193, 252, 90, 24, 80, 106, 34, 68, 186, 68, 154, 196]
def uK : List Int := [230, 219, 104, 103, 88, 48, 48, 219, 53, 148, 193, 164, 36, 177, 95, 124, 114, 102, 36, 236, 38, 179, 53, 59, 16, 169, 3, 166, 208, 171, 28, 76]
def rK : List Int := [195, 218, 85, 55, 157, 233, 198, 144, 142, 148, 234, 77, 242, 141, 8, 79, 50, 236, 207, 3, 73, 28, 113, 247, 84, 180, 7, 85, 119, 162, 133, 82]
def nK : List Int := [66, 44, 142, 122, 98, 39, 215, 188, 161, 53, 11, 62, 43, 183, 39, 159, 120, 151, 184, 123, 182, 133, 75, 120, 60, 96, 232, 3, 17, 174, 48, 121]
theorem xv_r : xv kK uK = rK := by
  rw [xv_ev]
  decide +kernel
theorem xv_n : xv nine nine = nK := by
  rw [xv_ev]
  decide +kernel
theorem hx_r : hx rK = { data := #[99, 51, 100, 97, 53, 53, 51, 55, 57, 100, 101, 57, 99, 54, 57, 48, 56, 101, 57, 52, 101, 97, 52, 100, 102, 50, 56, 100, 48, 56, 52, 102, 51, 50, 101, 99, 99, 102, 48, 51, 52, 57, 49, 99, 55, 49, 102, 55, 53, 52, 98, 52, 48, 55, 53, 53, 55, 55, 97, 50, 56, 53, 53, 50] } := by decide +kernel
theorem hx_n : hx nK = { data := #[52, 50, 50, 99, 56, 101, 55, 97, 54, 50, 50, 55, 100, 55, 98, 99, 97, 49, 51, 53, 48, 98, 51, 101, 50, 98, 98, 55, 50, 55, 57, 102, 55, 56, 57, 55, 98, 56, 55, 98, 98, 54, 56, 53, 52, 98, 55, 56, 51, 99, 54, 48, 101, 56, 48, 51, 49, 49, 97, 101, 51, 48, 55, 57] } := by decide +kernel
theorem bys_k : Bys kK := by unfold Bys; decide
theorem bys_u : Bys uK := by unfold Bys; decide
theorem bys_r : Bys rK := by unfold Bys; decide
theorem bys_n : Bys nK := by unfold Bys; decide
theorem bys_9 : Bys nine := by unfold Bys; decide

set_option maxRecDepth 100000 in
set_option maxHeartbeats 16000000 in
theorem law_names_any (w : World) : Calls Try.prog 12 #[] w fun e w' => e = .returned (.bool true) ∧ Fr (fun _ => False) w w' := by
  obtain ⟨KK, hKK⟩ : ∃ K, K = kK := ⟨_, rfl⟩
  obtain ⟨UU, hUU⟩ : ∃ K, K = uK := ⟨_, rfl⟩
  obtain ⟨RR, hRR⟩ : ∃ K, K = rK := ⟨_, rfl⟩
  obtain ⟨NI, hNI⟩ : ∃ K, K = nine := ⟨_, rfl⟩
  have HKK : Hid (KK = kK) := hKK
  have HUU : Hid (UU = uK) := hUU
  have HNI : Hid (NI = nine) := hNI
  have k_KK : Hid (KK.length = 32) := by show _ = _; rw [hKK]; rfl
  have k_UU : Hid (UU.length = 32) := by show _ = _; rw [hUU]; rfl
  have k_RR : Hid (RR.length = 32) := by show _ = _; rw [hRR]; rfl
  have k_NI : Hid (NI.length = 32) := by show _ = _; rw [hNI]; rfl
  have CR : ∀ W, Calls Try.prog 15 #[.agg (vs .u8 KK), .agg (vs .u8 UU)] W fun e w' => e = .returned (.agg (vs .u8 RR)) ∧ Fr (fun _ => False) W w' := fun W => by rw [hKK, hUU, hRR, ← xv_r]; exact x_is kK uK W rfl bys_k rfl bys_u
  have CH : ∀ W, Calls Try.prog 26 #[.agg (vs .u8 RR)] W fun e w' => e = .returned (.string { data := #[99, 51, 100, 97, 53, 53, 51, 55, 57, 100, 101, 57, 99, 54, 57, 48, 56, 101, 57, 52, 101, 97, 52, 100, 102, 50, 56, 100, 48, 56, 52, 102, 51, 50, 101, 99, 99, 102, 48, 51, 52, 57, 49, 99, 55, 49, 102, 55, 53, 52, 98, 52, 48, 55, 53, 53, 55, 55, 97, 50, 56, 53, 53, 50] }) ∧ Fr (fun _ => False) W w' := fun W => by rw [hRR, ← hx_r]; exact hex_is rK W rfl bys_r
  have CX : ∀ W, Calls Try.prog 4 #[.agg (vs .u8 KK), .agg (vs .u8 UU)] W fun e w' => e = .returned (.bool true) ∧ Fr (fun _ => False) W w' := fun W => by rw [hKK, hUU]; exact law_x_any kK uK W rfl bys_k rfl bys_u
  have AL := alice_is
  have BO := bob_is
  have CA := awake_is
  have CL : ∀ W, Calls Try.prog 11 #[.agg (vs .u8 aliceK)] W fun e w' => e = .returned (.bool true) ∧ Fr (fun _ => False) W w' := fun W => law_low_any aliceK W rfl bys_a
  have CN : ∀ W, Calls Try.prog 8 #[.agg (vs .u8 bobK), .agg (vs .u8 UU), .int .u8 255] W fun e w' => e = .returned (.bool true) ∧ Fr (fun _ => False) W w' := fun W => by rw [hUU]; exact law_number_any bobK uK 255 W rfl bys_b rfl bys_u (by decide)
  obtain ⟨ZK, hZK⟩ : ∃ Z, Z = List.replicate 32 (0 : Int) := ⟨_, rfl⟩
  have zkk : ∀ W : World, (zeroValue 23).run Try.prog W = .ok (.agg (vs .u8 ZK)) W := fun W => by rw [hZK]; exact key_zero W
  have k_ZK : Hid (ZK.length = 32) := by show _ = _; rw [hZK]; rfl
  have HZK2 : Hid (ZK = List.replicate 32 0) := hZK
  clear hZK
  clear hKK hUU hRR hNI
  have F0 : Hid (Fr (fun _ => False) w w) := Fr.refl _ _
  go_enter Try.func12, Try.ntmps12
  go_upto_region 1 with (fail)
  refine wp_region_seq (fun b a w' => ∃ g1 : Nat, Fr (fun _ => False) w w' ∧ (b 1 = true → w.heap.size ≤ g1 ∧ w'.heap[g1]? = some (.cells (if b 2 = true then vs .u8 KK else vs .u8 ZK) 23 (0, 0))) ∧ (b 2 = true → b 1 = true) ∧ a = ⟨#[.bool false, if b 1 = true then .pointer (some ⟨g1, 0, none⟩) else undef, undef, undef, undef, undef, undef, if b 0 = true then .agg (vs .u8 KK) else undef, undef, undef, undef, undef, undef, undef, undef, undef, undef, undef, undef, undef, undef, undef, undef, undef, undef, undef, undef, undef, undef, undef, undef, undef, undef, undef, undef, undef, undef, undef, undef, undef, undef, undef, undef, undef, undef, undef, undef, undef, undef, undef, undef, undef, undef, undef, undef, undef, undef, undef, undef, undef, undef], []⟩) (by kernel_rfl) ?start1 ?step1 ?done1
  case start1 => exact ⟨0, Fr.refl _ _, by simp, by simp, by simp⟩
  case step1 =>
    intro i o b a w1 ho hI hb hr
    obtain ⟨g1, hF, h1, hq1, rfl⟩ := hI
    match i, ho with
    | 0, ho =>
      injection ho with ho
      subst ho
      refine wp_quiet_here (.agg (vs .u8 KK)) (quiet_run _ (fun _ _ => by rw [HKK.out]; kernel_rfl) rfl) (fun w2 hw2 => ?_)
      refine ⟨g1, hF.trans hw2, ?_, ?_, ?_⟩
      · intro hx
        replace hx : b 1 = true := by simpa [upd] using hx
        obtain ⟨k1', k2⟩ := h1 hx
        refine ⟨k1', (hw2.block _ (heap_lt k2) (fun x => x)).trans ?_⟩
        rw [k2]
        simp [upd]
      · simpa [upd] using hq1
      · simp [upd, Act.put]
    | 1, ho =>
      injection ho with ho
      subst ho
      have d0 : b 0 = true := hr 0 (by decide)
      simp only [d0, if_true]
      refine wp_alloc_any 23 rfl (vs .u8 ZK) zkk ?_
      refine ⟨w1.heap.size, hF.alloc _, ?_, ?_, ?_⟩
      · intro _
        refine ⟨hF.size, (heap_alloc_new w1 _).trans ?_⟩
        have hs : b 2 = false := by
          rcases hbs : b 2 with _ | _
          · rfl
          · rw [hq1 hbs] at hb
            cases hb
        simp [upd, hs]
      · simp [upd]
      · simp [upd, Act.put, d0]
    | 2, ho =>
      injection ho with ho
      subst ho
      have d0 : b 0 = true := hr 0 (by decide)
      have d1 : b 1 = true := hr 1 (by decide)
      simp only [d0, d1, if_true]
      obtain ⟨k1, k2⟩ := h1 d1
      rw [hb] at k2
      simp only [Bool.false_eq_true, if_false] at k2
      refine wp_store_row 23 (.tmp 1) (.tmp 7) rfl g1 (vs .u8 KK) rfl rfl 23 _ k2 (key_info k_KK.out) (by rw [vs_size, vs_size, k_ZK.out, k_KK.out]) (vs_all _ _) ?_
      refine ⟨g1, hF.setRow _ (.inr k1), ?_, ?_, ?_⟩
      · intro _
        refine ⟨k1, (setRow_heap _ _ _ _ _ _ k2).trans ?_⟩
        simp [upd]
      · simp [upd, d1]
      · simp [upd, Act.put, d0, d1]
    | j + 3, ho => exact absurd ho (by simp)
  intro b a W2 hall hI
  obtain ⟨g1, hF, h1, hq1, rfl⟩ := hI
  have t0 : b 0 = true := hall 0 (by simp)
  have t1 : b 1 = true := hall 1 (by simp)
  have t2 : b 2 = true := hall 2 (by simp)
  simp only [t0, t1, t2, if_true, true_implies] at h1 hq1 ⊢
  have F2 : Hid (Fr (fun _ => False) w W2) := F0.out.trans hF
  have X2_0 := Lib.hid h1.2
  have Yg1 : w.heap.size ≤ g1 := Nat.le_trans F0.out.size h1.1
  clear hall hF h1 hq1 t0 t1 t2 F0
  go_upto_region 2 with (fail)
  refine wp_region_seq (fun b a w' => ∃ g2 : Nat, Fr (fun _ => False) W2 w' ∧ (b 1 = true → W2.heap.size ≤ g2 ∧ w'.heap[g2]? = some (.cells (if b 2 = true then vs .u8 UU else vs .u8 ZK) 23 (0, 0))) ∧ (b 2 = true → b 1 = true) ∧ a = ⟨#[.bool false, .pointer (some ⟨g1, 0, none⟩), if b 1 = true then .pointer (some ⟨g2, 0, none⟩) else undef, undef, undef, undef, undef, .agg (vs .u8 KK), if b 0 = true then .agg (vs .u8 UU) else undef, undef, undef, undef, undef, undef, undef, undef, undef, undef, undef, undef, undef, undef, undef, undef, undef, undef, undef, undef, undef, undef, undef, undef, undef, undef, undef, undef, undef, undef, undef, undef, undef, undef, undef, undef, undef, undef, undef, undef, undef, undef, undef, undef, undef, undef, undef, undef, undef, undef, undef, undef, undef], []⟩) (by kernel_rfl) ?start2 ?step2 ?done2
  case start2 => exact ⟨0, Fr.refl _ _, by simp, by simp, by simp⟩
  case step2 =>
    intro i o b a w1 ho hI hb hr
    obtain ⟨g2, hF, h1, hq1, rfl⟩ := hI
    match i, ho with
    | 0, ho =>
      injection ho with ho
      subst ho
      refine wp_quiet_here (.agg (vs .u8 UU)) (quiet_run _ (fun _ _ => by rw [HUU.out]; kernel_rfl) rfl) (fun w2 hw2 => ?_)
      refine ⟨g2, hF.trans hw2, ?_, ?_, ?_⟩
      · intro hx
        replace hx : b 1 = true := by simpa [upd] using hx
        obtain ⟨k1', k2⟩ := h1 hx
        refine ⟨k1', (hw2.block _ (heap_lt k2) (fun x => x)).trans ?_⟩
        rw [k2]
        simp [upd]
      · simpa [upd] using hq1
      · simp [upd, Act.put]
    | 1, ho =>
      injection ho with ho
      subst ho
      have d0 : b 0 = true := hr 0 (by decide)
      simp only [d0, if_true]
      refine wp_alloc_any 23 rfl (vs .u8 ZK) zkk ?_
      refine ⟨w1.heap.size, hF.alloc _, ?_, ?_, ?_⟩
      · intro _
        refine ⟨hF.size, (heap_alloc_new w1 _).trans ?_⟩
        have hs : b 2 = false := by
          rcases hbs : b 2 with _ | _
          · rfl
          · rw [hq1 hbs] at hb
            cases hb
        simp [upd, hs]
      · simp [upd]
      · simp [upd, Act.put, d0]
    | 2, ho =>
      injection ho with ho
      subst ho
      have d0 : b 0 = true := hr 0 (by decide)
      have d1 : b 1 = true := hr 1 (by decide)
      simp only [d0, d1, if_true]
      obtain ⟨k1, k2⟩ := h1 d1
      rw [hb] at k2
      simp only [Bool.false_eq_true, if_false] at k2
      refine wp_store_row 23 (.tmp 2) (.tmp 8) rfl g2 (vs .u8 UU) rfl rfl 23 _ k2 (key_info k_UU.out) (by rw [vs_size, vs_size, k_ZK.out, k_UU.out]) (vs_all _ _) ?_
      refine ⟨g2, hF.setRow _ (.inr k1), ?_, ?_, ?_⟩
      · intro _
        refine ⟨k1, (setRow_heap _ _ _ _ _ _ k2).trans ?_⟩
        simp [upd]
      · simp [upd, d1]
      · simp [upd, Act.put, d0, d1]
    | j + 3, ho => exact absurd ho (by simp)
  intro b a W3 hall hI
  obtain ⟨g2, hF, h1, hq1, rfl⟩ := hI
  have t0 : b 0 = true := hall 0 (by simp)
  have t1 : b 1 = true := hall 1 (by simp)
  have t2 : b 2 = true := hall 2 (by simp)
  simp only [t0, t1, t2, if_true, true_implies] at h1 hq1 ⊢
  have F3 : Hid (Fr (fun _ => False) w W3) := F2.out.trans hF
  have X3_0 := Lib.hid ((hF.block _ (heap_lt X2_0.out) (fun x => x)).trans X2_0.out)
  have X3_1 := Lib.hid h1.2
  have Yg2 : w.heap.size ≤ g2 := Nat.le_trans F2.out.size h1.1
  clear hall hF h1 hq1 t0 t1 t2 X2_0 F2
  go_upto_region 3 with (fail)
  refine wp_region_head (C := Calm W3) 11 (Fr.refl _ _) ?_
  simp only [List.take_succ_cons, List.take_zero, List.drop_succ_cons, List.drop_zero]
  refine BigFrame.wpQuiet_want rfl fun K hK => quiet_load 23 (.tmp 1) rfl (g1) rfl 23 _ (0, 0) _ (fun _ h => Calm.at X3_0.out h) Try.underlying23 rfl (key_info k_KK.out) (hK _ ?_)
  refine BigFrame.wpQuiet_want rfl fun K hK => quiet_load 23 (.tmp 2) rfl (g2) rfl 23 _ (0, 0) _ (fun _ h => Calm.at X3_1.out h) Try.underlying23 rfl (key_info k_UU.out) (hK _ ?_)
  refine BigFrame.wpQuiet_want rfl fun K hK => ?_
  try simp only [Act.put, List.setIfInBounds_toArray, List.set_cons_succ, List.set_cons_zero]
  go_big_quiet_op
  refine ⟨_, Calm.calls CR, hK _ ?_⟩
  refine BigFrame.wpQuiet_want rfl fun K hK => ?_
  try simp only [Act.put, List.setIfInBounds_toArray, List.set_cons_succ, List.set_cons_zero]
  go_big_quiet_op
  refine ⟨_, Calm.calls CH, hK _ ?_⟩
  refine BigFrame.wpQuiet_want rfl fun K hK => ?_
  try simp only [Act.put, List.setIfInBounds_toArray, List.set_cons_succ, List.set_cons_zero]
  go_big_quiet_op
  first
    | refine ⟨_, fun _ _ => rfl, hK _ ?_⟩
    | refine hK _ ?_
  refine BigFrame.wpQuiet_want rfl fun K hK => ?_
  try simp only [Act.put, List.setIfInBounds_toArray, List.set_cons_succ, List.set_cons_zero]
  go_big_quiet_op
  refine hK _ ?_
  refine BigFrame.wpQuiet_want rfl fun K hK => quiet_load 23 (.tmp 1) rfl (g1) rfl 23 _ (0, 0) _ (fun _ h => Calm.at X3_0.out h) Try.underlying23 rfl (key_info k_KK.out) (hK _ ?_)
  refine BigFrame.wpQuiet_want rfl fun K hK => quiet_load 23 (.tmp 2) rfl (g2) rfl 23 _ (0, 0) _ (fun _ h => Calm.at X3_1.out h) Try.underlying23 rfl (key_info k_UU.out) (hK _ ?_)
  refine BigFrame.wpQuiet_want rfl fun K hK => ?_
  try simp only [Act.put, List.setIfInBounds_toArray, List.set_cons_succ, List.set_cons_zero]
  go_big_quiet_op
  refine ⟨_, Calm.calls CX, hK _ ?_⟩
  refine BigFrame.wpQuiet_want rfl fun K hK => ?_
  try simp only [Act.put, List.setIfInBounds_toArray, List.set_cons_succ, List.set_cons_zero]
  go_big_quiet_op
  first
    | refine ⟨_, fun _ _ => rfl, hK _ ?_⟩
    | refine hK _ ?_
  refine BigFrame.wpQuiet_want rfl fun K hK => ?_
  try simp only [Act.put, List.setIfInBounds_toArray, List.set_cons_succ, List.set_cons_zero]
  go_big_quiet_op
  first
    | refine ⟨_, fun _ _ => rfl, hK _ ?_⟩
    | refine hK _ ?_
  refine wpQuiet_nil ?_
  intro w9 hw9
  have F9 : Hid (Fr (fun _ => False) w w9) := F3.out.trans hw9
  have G9 : Hid (w9.heap[g2]? = some (.cells (vs .u8 UU) 23 (0, 0))) := Calm.at X3_1.out hw9
  clear hw9 F3 X3_0 X3_1 CR CH CX
  try simp only [Act.put, List.setIfInBounds_toArray, List.set_cons_succ, List.set_cons_zero]
  go_upto_region 5 with (fail)
  refine wp_region_seq (fun b a w' => ∃ g3 g4 : Nat, Fr (fun _ => False) w9 w' ∧ (b 2 = true → w9.heap.size ≤ g3 ∧ w'.heap[g3]? = some (.cells (if b 4 = true then vs .u8 NI else vs .u8 ZK) 23 (0, 0))) ∧ (b 3 = true → w9.heap.size ≤ g4 ∧ w'.heap[g4]? = some (.cells (if b 5 = true then vs .u8 NI else vs .u8 ZK) 23 (0, 0))) ∧ (b 2 = true → b 3 = true → g3 ≠ g4) ∧ (b 4 = true → b 2 = true) ∧ (b 5 = true → b 3 = true) ∧ a = ⟨#[.bool false, .pointer (some ⟨g1, 0, none⟩), .pointer (some ⟨g2, 0, none⟩), if b 2 = true then .pointer (some ⟨g3, 0, none⟩) else undef, if b 3 = true then .pointer (some ⟨g4, 0, none⟩) else undef, undef, undef, .agg (vs .u8 KK), .agg (vs .u8 UU), .agg (vs .u8 KK), .agg (vs .u8 UU), .agg (vs .u8 RR), .string { data := #[99, 51, 100, 97, 53, 53, 51, 55, 57, 100, 101, 57, 99, 54, 57, 48, 56, 101, 57, 52, 101, 97, 52, 100, 102, 50, 56, 100, 48, 56, 52, 102, 51, 50, 101, 99, 99, 102, 48, 51, 52, 57, 49, 99, 55, 49, 102, 55, 53, 52, 98, 52, 48, 55, 53, 53, 55, 55, 97, 50, 56, 53, 53, 50] }, .bool false, .bool false, .agg (vs .u8 KK), .agg (vs .u8 UU), .bool true, .bool false, .bool false, if b 0 = true then .agg (vs .u8 NI) else undef, if b 1 = true then .agg (vs .u8 NI) else undef, undef, undef, undef, undef, undef, undef, undef, undef, undef, undef, undef, undef, undef, undef, undef, undef, undef, undef, undef, undef, undef, undef, undef, undef, undef, undef, undef, undef, undef, undef, undef, undef, undef, undef, undef, undef, undef, undef, undef], []⟩) (by kernel_rfl) ?start5 ?step5 ?done5
  case start5 => exact ⟨0, 0, Fr.refl _ _, by simp, by simp, by simp, by simp, by simp, by simp⟩
  case step5 =>
    intro i o b a w1 ho hI hb hr
    obtain ⟨g3, g4, hF, h2, h3, p2_3, hq2, hq3, rfl⟩ := hI
    match i, ho with
    | 0, ho =>
      injection ho with ho
      subst ho
      refine wp_quiet_here (.agg (vs .u8 NI)) (quiet_run _ (fun _ _ => by rw [HNI.out]; kernel_rfl) rfl) (fun w2 hw2 => ?_)
      refine ⟨g3, g4, hF.trans hw2, ?_, ?_, ?_, ?_, ?_, ?_⟩
      · intro hx
        replace hx : b 2 = true := by simpa [upd] using hx
        obtain ⟨k1', k2⟩ := h2 hx
        refine ⟨k1', (hw2.block _ (heap_lt k2) (fun x => x)).trans ?_⟩
        rw [k2]
        simp [upd]
      · intro hx
        replace hx : b 3 = true := by simpa [upd] using hx
        obtain ⟨k1', k2⟩ := h3 hx
        refine ⟨k1', (hw2.block _ (heap_lt k2) (fun x => x)).trans ?_⟩
        rw [k2]
        simp [upd]
      · intro hx hy
        exact p2_3 (by simpa [upd] using hx) (by simpa [upd] using hy)
      · simpa [upd] using hq2
      · simpa [upd] using hq3
      · simp [upd, Act.put]
    | 1, ho =>
      injection ho with ho
      subst ho
      have d0 : b 0 = true := hr 0 (by decide)
      simp only [d0, if_true]
      refine wp_quiet_here (.agg (vs .u8 NI)) (quiet_run _ (fun _ _ => by rw [HNI.out]; kernel_rfl) rfl) (fun w2 hw2 => ?_)
      refine ⟨g3, g4, hF.trans hw2, ?_, ?_, ?_, ?_, ?_, ?_⟩
      · intro hx
        replace hx : b 2 = true := by simpa [upd] using hx
        obtain ⟨k1', k2⟩ := h2 hx
        refine ⟨k1', (hw2.block _ (heap_lt k2) (fun x => x)).trans ?_⟩
        rw [k2]
        simp [upd]
      · intro hx
        replace hx : b 3 = true := by simpa [upd] using hx
        obtain ⟨k1', k2⟩ := h3 hx
        refine ⟨k1', (hw2.block _ (heap_lt k2) (fun x => x)).trans ?_⟩
        rw [k2]
        simp [upd]
      · intro hx hy
        exact p2_3 (by simpa [upd] using hx) (by simpa [upd] using hy)
      · simpa [upd] using hq2
      · simpa [upd] using hq3
      · simp [upd, Act.put, d0]
    | 2, ho =>
      injection ho with ho
      subst ho
      have d0 : b 0 = true := hr 0 (by decide)
      have d1 : b 1 = true := hr 1 (by decide)
      simp only [d0, d1, if_true]
      refine wp_alloc_any 23 rfl (vs .u8 ZK) zkk ?_
      refine ⟨w1.heap.size, g4, hF.alloc _, ?_, ?_, ?_, ?_, ?_, ?_⟩
      · intro _
        refine ⟨hF.size, (heap_alloc_new w1 _).trans ?_⟩
        have hs : b 4 = false := by
          rcases hbs : b 4 with _ | _
          · rfl
          · rw [hq2 hbs] at hb
            cases hb
        simp [upd, hs]
      · intro hx
        replace hx : b 3 = true := by simpa [upd] using hx
        obtain ⟨k1', k2⟩ := h3 hx
        refine ⟨k1', (Below.heap_alloc w1 _ _ (heap_lt k2)).trans ?_⟩
        rw [k2]
        simp [upd]
      · intro _ hy
        have := heap_lt (h3 (by simpa [upd] using hy)).2
        omega
      · simp [upd]
      · simpa [upd] using hq3
      · simp [upd, Act.put, d0, d1]
    | 3, ho =>
      injection ho with ho
      subst ho
      have d0 : b 0 = true := hr 0 (by decide)
      have d1 : b 1 = true := hr 1 (by decide)
      have d2 : b 2 = true := hr 2 (by decide)
      simp only [d0, d1, d2, if_true]
      refine wp_alloc_any 23 rfl (vs .u8 ZK) zkk ?_
      refine ⟨g3, w1.heap.size, hF.alloc _, ?_, ?_, ?_, ?_, ?_, ?_⟩
      · intro hx
        replace hx : b 2 = true := by simpa [upd] using hx
        obtain ⟨k1', k2⟩ := h2 hx
        refine ⟨k1', (Below.heap_alloc w1 _ _ (heap_lt k2)).trans ?_⟩
        rw [k2]
        simp [upd]
      · intro _
        refine ⟨hF.size, (heap_alloc_new w1 _).trans ?_⟩
        have hs : b 5 = false := by
          rcases hbs : b 5 with _ | _
          · rfl
          · rw [hq3 hbs] at hb
            cases hb
        simp [upd, hs]
      · intro hx _
        have := heap_lt (h2 (by simpa [upd] using hx)).2
        omega
      · simpa [upd] using hq2
      · simp [upd]
      · simp [upd, Act.put, d0, d1, d2]
    | 4, ho =>
      injection ho with ho
      subst ho
      have d0 : b 0 = true := hr 0 (by decide)
      have d1 : b 1 = true := hr 1 (by decide)
      have d2 : b 2 = true := hr 2 (by decide)
      have d3 : b 3 = true := hr 3 (by decide)
      simp only [d0, d1, d2, d3, if_true]
      obtain ⟨k1, k2⟩ := h2 d2
      rw [hb] at k2
      simp only [Bool.false_eq_true, if_false] at k2
      refine wp_store_row 23 (.tmp 3) (.tmp 20) rfl g3 (vs .u8 NI) rfl rfl 23 _ k2 (key_info k_NI.out) (by rw [vs_size, vs_size, k_ZK.out, k_NI.out]) (vs_all _ _) ?_
      refine ⟨g3, g4, hF.setRow _ (.inr k1), ?_, ?_, ?_, ?_, ?_, ?_⟩
      · intro _
        refine ⟨k1, (setRow_heap _ _ _ _ _ _ k2).trans ?_⟩
        simp [upd]
      · intro hx
        replace hx : b 3 = true := by simpa [upd] using hx
        obtain ⟨k1', k2⟩ := h3 hx
        refine ⟨k1', (setRow_other _ _ _ _ (fun e => (p2_3 (by simp [d0, d1, d2, d3, hx]) (by simp [d0, d1, d2, d3, hx])) e.symm)).trans ?_⟩
        rw [k2]
        simp [upd]
      · intro hx hy
        exact p2_3 (by simpa [upd] using hx) (by simpa [upd] using hy)
      · simp [upd, d2]
      · simpa [upd] using hq3
      · simp [upd, Act.put, d0, d1, d2, d3]
    | 5, ho =>
      injection ho with ho
      subst ho
      have d0 : b 0 = true := hr 0 (by decide)
      have d1 : b 1 = true := hr 1 (by decide)
      have d2 : b 2 = true := hr 2 (by decide)
      have d3 : b 3 = true := hr 3 (by decide)
      have d4 : b 4 = true := hr 4 (by decide)
      simp only [d0, d1, d2, d3, d4, if_true]
      obtain ⟨k1, k2⟩ := h3 d3
      rw [hb] at k2
      simp only [Bool.false_eq_true, if_false] at k2
      refine wp_store_row 23 (.tmp 4) (.tmp 21) rfl g4 (vs .u8 NI) rfl rfl 23 _ k2 (key_info k_NI.out) (by rw [vs_size, vs_size, k_ZK.out, k_NI.out]) (vs_all _ _) ?_
      refine ⟨g3, g4, hF.setRow _ (.inr k1), ?_, ?_, ?_, ?_, ?_, ?_⟩
      · intro hx
        replace hx : b 2 = true := by simpa [upd] using hx
        obtain ⟨k1', k2⟩ := h2 hx
        refine ⟨k1', (setRow_other _ _ _ _ (fun e => (p2_3 (by simp [d0, d1, d2, d3, d4, hx]) (by simp [d0, d1, d2, d3, d4, hx])) e)).trans ?_⟩
        rw [k2]
        simp [upd]
      · intro _
        refine ⟨k1, (setRow_heap _ _ _ _ _ _ k2).trans ?_⟩
        simp [upd]
      · intro hx hy
        exact p2_3 (by simpa [upd] using hx) (by simpa [upd] using hy)
      · simpa [upd] using hq2
      · simp [upd, d3]
      · simp [upd, Act.put, d0, d1, d2, d3, d4]
    | j + 6, ho => exact absurd ho (by simp)
  intro b a W6 hall hI
  obtain ⟨g3, g4, hF, h2, h3, p2_3, hq2, hq3, rfl⟩ := hI
  have t0 : b 0 = true := hall 0 (by simp)
  have t1 : b 1 = true := hall 1 (by simp)
  have t2 : b 2 = true := hall 2 (by simp)
  have t3 : b 3 = true := hall 3 (by simp)
  have t4 : b 4 = true := hall 4 (by simp)
  have t5 : b 5 = true := hall 5 (by simp)
  simp only [t0, t1, t2, t3, t4, t5, if_true, true_implies] at h2 h3 p2_3 hq2 hq3 ⊢
  have F6 : Hid (Fr (fun _ => False) w W6) := F9.out.trans hF
  have X6_0 := Lib.hid ((hF.block _ (heap_lt G9.out) (fun x => x)).trans G9.out)
  have X6_1 := Lib.hid h2.2
  have Yg3 : w.heap.size ≤ g3 := Nat.le_trans F9.out.size h2.1
  have Dg3_g2 : (g2) ≠ g3 := by
    have q := heap_lt G9.out
    have q2 := h2.1
    omega
  have X6_2 := Lib.hid h3.2
  have Yg4 : w.heap.size ≤ g4 := Nat.le_trans F9.out.size h3.1
  have Dg4_g2 : (g2) ≠ g4 := by
    have q := heap_lt G9.out
    have q2 := h3.1
    omega
  have Ng3g4 : g3 ≠ g4 := p2_3
  clear hall hF h2 h3 p2_3 hq2 hq3 t0 t1 t2 t3 t4 t5 F9
  have hU6 : Hid (W6.heap[g2]? = some (.cells (vs .u8 UU) 23 (0, 0))) := X6_0.out
  have hA6 : Hid (W6.heap[g3]? = some (.cells (vs .u8 NI) 23 (0, 0))) := X6_1.out
  have hB6 : Hid (W6.heap[g4]? = some (.cells (vs .u8 NI) 23 (0, 0))) := X6_2.out
  have FF : Hid (Fr (fun i => i = g3 ∨ i = g4) w W6) := F6.out.any
  have HY := Lib.hid (And.intro Yg3 Yg4)
  clear F6 X6_0 X6_1 X6_2 zkk
  have zkk : ∀ W : World, (zeroValue 23).run Try.prog W = .ok (.agg (vs .u8 ZK)) W := fun W => by rw [HZK2.out]; exact key_zero W
  go_upto_region 7 with (fail)
  go_loopw [5] (fun u5 wr => ∃ (i : Nat) (A B : List Int), u5 = .int .i64 i ∧ i ≤ 100 ∧ Hid (A.length = 32 ∧ Bys A ∧ B.length = 32 ∧ Bys B ∧ (i = 0 → A = nine ∧ B = nine)) ∧ Hid (wr.heap[g2]? = some (.cells (vs .u8 UU) 23 (0, 0))) ∧ Hid (wr.heap[g3]? = some (.cells (vs .u8 A) 23 (0, 0))) ∧ Hid (wr.heap[g4]? = some (.cells (vs .u8 B) 23 (0, 0))) ∧ Hid (Fr (fun i => i = g3 ∨ i = g4) w wr))
    (fun u5 _ => 100 - (intOf u5).toNat)
  case atStart => exact ⟨0, NI, NI, rfl, by omega, ⟨k_NI.out, by rw [HNI.out]; exact bys_9, k_NI.out, by rw [HNI.out]; exact bys_9, fun _ => ⟨HNI.out, HNI.out⟩⟩, hU6.out, hA6.out, hB6.out, FF.out⟩
  case round =>
    clear hU6 hA6 hB6 FF
    obtain ⟨jj, VA, VB, rfl, hi, hP, hUr, hAr, hBr, hFr⟩ := hrel
    by_cases hlt : jj < 100
    · obtain ⟨S, hS⟩ : ∃ S, S = xv VA VB := ⟨_, rfl⟩
      have k_VA : Hid (VA.length = 32) := hP.out.1
      have k_VB : Hid (VB.length = 32) := hP.out.2.2.1
      have k_S : Hid (S.length = 32) := by show _ = _; rw [hS]; exact xv_length _ _
      have yS : Bys S := by rw [hS]; exact xv_bys _ _
      have C0 : ∀ W, Calls Try.prog 15 #[.agg (vs .u8 VA), .agg (vs .u8 VB)] W fun e w' => e = .returned (.agg (vs .u8 S)) ∧ Fr (fun _ => False) W w' := fun W => by rw [hS]; exact x_is VA VB W hP.out.1 hP.out.2.1 hP.out.2.2.1 hP.out.2.2.2.1
      have C1 : ∀ W, Calls Try.prog 4 #[.agg (vs .u8 S), .agg (vs .u8 VA)] W fun e w' => e = .returned (.bool true) ∧ Fr (fun _ => False) W w' := fun W => law_x_any S VA W k_S.out yS hP.out.1 hP.out.2.1
      have C2 : jj = 0 → ∀ W, Calls Try.prog 26 #[.agg (vs .u8 S)] W fun e w' => e = .returned (.string { data := #[52, 50, 50, 99, 56, 101, 55, 97, 54, 50, 50, 55, 100, 55, 98, 99, 97, 49, 51, 53, 48, 98, 51, 101, 50, 98, 98, 55, 50, 55, 57, 102, 55, 56, 57, 55, 98, 56, 55, 98, 98, 54, 56, 53, 52, 98, 55, 56, 51, 99, 54, 48, 101, 56, 48, 51, 49, 49, 97, 101, 51, 48, 55, 57] }) ∧ Fr (fun _ => False) W w' := fun h W => by
        obtain ⟨e1, e2⟩ := hP.out.2.2.2.2 h
        rw [hS, e1, e2, xv_n, ← hx_n]
        exact hex_is nK W rfl bys_n
      have HP : Hid (S.length = 32 ∧ Bys S ∧ VA.length = 32 ∧ Bys VA) := ⟨k_S.out, yS, hP.out.1, hP.out.2.1⟩
      clear hS yS hP
      go_upto_region 9 with (fail)
      have HLT := Lib.hid hlt
      have hjj : (jj : Int) < 100 := by omega
      clear hlt
      refine wp_region_seq (fun b a w' => ∃ g6 : Nat, Fr (fun _ => False) wr w' ∧ (b 3 = true → wr.heap.size ≤ g6 ∧ w'.heap[g6]? = some (.cells (if b 4 = true then vs .u8 S else vs .u8 ZK) 23 (0, 0))) ∧ (b 4 = true → b 3 = true) ∧ a = ⟨#[u0, .pointer (some ⟨g1, 0, none⟩), .pointer (some ⟨g2, 0, none⟩), .pointer (some ⟨g3, 0, none⟩), .pointer (some ⟨g4, 0, none⟩), .int .i64 (jj : Int), if b 3 = true then .pointer (some ⟨g6, 0, none⟩) else u6, .agg (vs .u8 KK), .agg (vs .u8 UU), .agg (vs .u8 KK), .agg (vs .u8 UU), .agg (vs .u8 RR), .string { data := #[99, 51, 100, 97, 53, 53, 51, 55, 57, 100, 101, 57, 99, 54, 57, 48, 56, 101, 57, 52, 101, 97, 52, 100, 102, 50, 56, 100, 48, 56, 52, 102, 51, 50, 101, 99, 99, 102, 48, 51, 52, 57, 49, 99, 55, 49, 102, 55, 53, 52, 98, 52, 48, 55, 53, 53, 55, 55, 97, 50, 56, 53, 53, 50] }, .bool false, .bool false, .agg (vs .u8 KK), .agg (vs .u8 UU), .bool true, .bool false, .bool false, .agg (vs .u8 NI), .agg (vs .u8 NI), .int .i64 (jj : Int), .bool (decide ((jj : Int) < 100)), u24, u25, if b 0 = true then .agg (vs .u8 VA) else u26, if b 1 = true then .agg (vs .u8 VB) else u27, if b 2 = true then .agg (vs .u8 S) else u28, u29, u30, u31, u32, u33, u34, u35, u36, u37, u38, u39, u40, u41, u42, u43, u44, u45, u46, u47, u48, undef, undef, undef, undef, undef, undef, undef, undef, undef, undef, undef, undef], []⟩) (by kernel_rfl) ?start9 ?step9 ?done9
      case start9 => exact ⟨0, Fr.refl _ _, by simp, by simp, by simp⟩
      case step9 =>
        intro i o b a w1 ho hI hb hr
        obtain ⟨g6, hF, h3, hq3, rfl⟩ := hI
        match i, ho with
        | 0, ho =>
          injection ho with ho
          subst ho
          refine wp_quiet_here _ (quiet_load 23 (.tmp 3) rfl (g3) rfl 23 _ (0, 0) _ (fun _ h => (Fr.block h _ (Nat.lt_of_lt_of_le (heap_lt hAr.out) hF.size) (fun x => x)).trans ((hF.block _ (heap_lt hAr.out) (fun x => x)).trans hAr.out)) Try.underlying23 rfl (key_info k_VA.out) rfl) (fun w2 hw2 => ?_)
          refine ⟨g6, hF.trans hw2, ?_, ?_, ?_⟩
          · intro hx
            replace hx : b 3 = true := by simpa [upd] using hx
            obtain ⟨k1', k2⟩ := h3 hx
            refine ⟨k1', (hw2.block _ (heap_lt k2) (fun x => x)).trans ?_⟩
            rw [k2]
            simp [upd]
          · simpa [upd] using hq3
          · simp [upd, hjj, Act.put]
        | 1, ho =>
          injection ho with ho
          subst ho
          have d0 : b 0 = true := hr 0 (by decide)
          simp only [d0, if_true]
          refine wp_quiet_here _ (quiet_load 23 (.tmp 4) rfl (g4) rfl 23 _ (0, 0) _ (fun _ h => (Fr.block h _ (Nat.lt_of_lt_of_le (heap_lt hBr.out) hF.size) (fun x => x)).trans ((hF.block _ (heap_lt hBr.out) (fun x => x)).trans hBr.out)) Try.underlying23 rfl (key_info k_VB.out) rfl) (fun w2 hw2 => ?_)
          refine ⟨g6, hF.trans hw2, ?_, ?_, ?_⟩
          · intro hx
            replace hx : b 3 = true := by simpa [upd] using hx
            obtain ⟨k1', k2⟩ := h3 hx
            refine ⟨k1', (hw2.block _ (heap_lt k2) (fun x => x)).trans ?_⟩
            rw [k2]
            simp [upd]
          · simpa [upd] using hq3
          · simp [upd, hjj, Act.put, d0]
        | 2, ho =>
          injection ho with ho
          subst ho
          have d0 : b 0 = true := hr 0 (by decide)
          have d1 : b 1 = true := hr 1 (by decide)
          simp only [d0, d1, if_true]
          refine wp_quiet_here (.agg (vs .u8 S)) ?_ (fun w2 hw2 => ?_)
          · go_big_quiet_op
            exact ⟨_, Calm.calls C0, by simp [hjj, Act.put]⟩
          refine ⟨g6, hF.trans hw2, ?_, ?_, ?_⟩
          · intro hx
            replace hx : b 3 = true := by simpa [upd] using hx
            obtain ⟨k1', k2⟩ := h3 hx
            refine ⟨k1', (hw2.block _ (heap_lt k2) (fun x => x)).trans ?_⟩
            rw [k2]
            simp [upd]
          · simpa [upd] using hq3
          · simp [upd, hjj, Act.put, d0, d1]
        | 3, ho =>
          injection ho with ho
          subst ho
          have d0 : b 0 = true := hr 0 (by decide)
          have d1 : b 1 = true := hr 1 (by decide)
          have d2 : b 2 = true := hr 2 (by decide)
          simp only [d0, d1, d2, if_true]
          refine wp_alloc_any 23 rfl (vs .u8 ZK) zkk ?_
          refine ⟨w1.heap.size, hF.alloc _, ?_, ?_, ?_⟩
          · intro _
            refine ⟨hF.size, (heap_alloc_new w1 _).trans ?_⟩
            have hs : b 4 = false := by
              rcases hbs : b 4 with _ | _
              · rfl
              · rw [hq3 hbs] at hb
                cases hb
            simp [upd, hs]
          · simp [upd]
          · simp [upd, hjj, Act.put, d0, d1, d2]
        | 4, ho =>
          injection ho with ho
          subst ho
          have d0 : b 0 = true := hr 0 (by decide)
          have d1 : b 1 = true := hr 1 (by decide)
          have d2 : b 2 = true := hr 2 (by decide)
          have d3 : b 3 = true := hr 3 (by decide)
          simp only [d0, d1, d2, d3, if_true]
          obtain ⟨k1, k2⟩ := h3 d3
          rw [hb] at k2
          simp only [Bool.false_eq_true, if_false] at k2
          refine wp_store_row 23 (.tmp 6) (.tmp 28) rfl g6 (vs .u8 S) rfl rfl 23 _ k2 (key_info k_S.out) (by rw [vs_size, vs_size, k_ZK.out, k_S.out]) (vs_all _ _) ?_
          refine ⟨g6, hF.setRow _ (.inr k1), ?_, ?_, ?_⟩
          · intro _
            refine ⟨k1, (setRow_heap _ _ _ _ _ _ k2).trans ?_⟩
            simp [upd]
          · simp [upd, d3]
          · simp [upd, hjj, Act.put, d0, d1, d2, d3]
        | j + 5, ho => exact absurd ho (by simp)
      intro b a W10 hall hI
      obtain ⟨g6, hF, h3, hq3, rfl⟩ := hI
      have t0 : b 0 = true := hall 0 (by simp)
      have t1 : b 1 = true := hall 1 (by simp)
      have t2 : b 2 = true := hall 2 (by simp)
      have t3 : b 3 = true := hall 3 (by simp)
      have t4 : b 4 = true := hall 4 (by simp)
      simp only [t0, t1, t2, t3, t4, if_true, true_implies] at h3 hq3 ⊢
      have F10 : Hid (Fr (fun i => i = g3 ∨ i = g4) w W10) := hFr.out.trans hF.any
      have X10_0 := Lib.hid ((hF.block _ (heap_lt hUr.out) (fun x => x)).trans hUr.out)
      have X10_1 := Lib.hid ((hF.block _ (heap_lt hAr.out) (fun x => x)).trans hAr.out)
      have X10_2 := Lib.hid ((hF.block _ (heap_lt hBr.out) (fun x => x)).trans hBr.out)
      have X10_3 := Lib.hid h3.2
      have Yg6 : w.heap.size ≤ g6 := Nat.le_trans hFr.out.size h3.1
      have Dg6_g2 : (g2) ≠ g6 := by
        have q := heap_lt hUr.out
        have q2 := h3.1
        omega
      have Dg6_g3 : (g3) ≠ g6 := by
        have q := heap_lt hAr.out
        have q2 := h3.1
        omega
      have Dg6_g4 : (g4) ≠ g6 := by
        have q := heap_lt hBr.out
        have q2 := h3.1
        omega
      clear hall hF h3 hq3 t0 t1 t2 t3 t4 
      go_upto_region 10 with (fail)
      refine wp_region_seq (fun b a w' => Fr (fun i => i = g4) W10 w' ∧ w'.heap[g4]? = some (.cells (if b 1 = true then vs .u8 VA else vs .u8 VB) 23 (0, 0)) ∧ a = ⟨#[u0, .pointer (some ⟨g1, 0, none⟩), .pointer (some ⟨g2, 0, none⟩), .pointer (some ⟨g3, 0, none⟩), .pointer (some ⟨g4, 0, none⟩), .int .i64 (jj : Int), .pointer (some ⟨g6, 0, none⟩), .agg (vs .u8 KK), .agg (vs .u8 UU), .agg (vs .u8 KK), .agg (vs .u8 UU), .agg (vs .u8 RR), .string { data := #[99, 51, 100, 97, 53, 53, 51, 55, 57, 100, 101, 57, 99, 54, 57, 48, 56, 101, 57, 52, 101, 97, 52, 100, 102, 50, 56, 100, 48, 56, 52, 102, 51, 50, 101, 99, 99, 102, 48, 51, 52, 57, 49, 99, 55, 49, 102, 55, 53, 52, 98, 52, 48, 55, 53, 53, 55, 55, 97, 50, 56, 53, 53, 50] }, .bool false, .bool false, .agg (vs .u8 KK), .agg (vs .u8 UU), .bool true, .bool false, .bool false, .agg (vs .u8 NI), .agg (vs .u8 NI), .int .i64 (jj : Int), .bool (decide ((jj : Int) < 100)), u24, u25, .agg (vs .u8 VA), .agg (vs .u8 VB), .agg (vs .u8 S), if b 0 = true then .agg (vs .u8 VA) else u29, u30, u31, u32, u33, u34, u35, u36, u37, u38, u39, u40, u41, u42, u43, u44, u45, u46, u47, u48, undef, undef, undef, undef, undef, undef, undef, undef, undef, undef, undef, undef], []⟩) (by kernel_rfl) ?start10 ?step10 ?done10
      case start10 => exact ⟨Fr.refl _ _, by simp only [Bool.false_eq_true, if_false]; exact X10_2.out, by simp⟩
      case step10 =>
        intro i o b a w1 ho hI hb hr
        obtain ⟨hF, hR0, rfl⟩ := hI
        match i, ho with
        | 0, ho =>
          injection ho with ho
          subst ho
          refine wp_quiet_here _ (quiet_load 23 (.tmp 3) rfl (g3) rfl 23 _ (0, 0) _ (fun _ h => (Fr.block h _ (Nat.lt_of_lt_of_le (heap_lt X10_1.out) hF.size) (fun x => x)).trans ((hF.block _ (heap_lt X10_1.out) Ng3g4).trans X10_1.out)) Try.underlying23 rfl (key_info k_VA.out) rfl) (fun w2 hw2 => ?_)
          refine ⟨hF.trans hw2.any, ?_, ?_⟩
          · have hh := (hw2.block _ (heap_lt hR0) (fun x => x)).trans hR0
            simpa [upd] using hh
          · simp [upd, hjj, Act.put]
        | 1, ho =>
          injection ho with ho
          subst ho
          have d0 : b 0 = true := hr 0 (by decide)
          simp only [d0, if_true]
          have k2 := hR0
          rw [hb] at k2
          simp only [Bool.false_eq_true, if_false] at k2
          refine wp_store_row 23 (.tmp 4) (.tmp 29) rfl (g4) (vs .u8 VA) rfl rfl 23 _ k2 (key_info k_VA.out) (by rw [vs_size, vs_size, k_VB.out, k_VA.out]) (vs_all _ _) ?_
          refine ⟨hF.setRow _ (.inl (by simp)), ?_, ?_⟩
          · refine (setRow_heap _ _ _ _ _ _ hR0).trans ?_
            simp [upd]
          · simp [upd, hjj, Act.put, d0]
        | j + 2, ho => exact absurd ho (by simp)
      intro b a W11 hall hI
      obtain ⟨hF, hR0, rfl⟩ := hI
      have t0 : b 0 = true := hall 0 (by simp)
      have t1 : b 1 = true := hall 1 (by simp)
      simp only [t0, t1, if_true, true_implies] at hR0 ⊢
      have F11 : Hid (Fr (fun i => i = g3 ∨ i = g4) w W11) := F10.out.trans (hF.weaken fun i _ h => by first | exact h | exact .inl h | exact .inr h)
      have X11_0 := Lib.hid ((hF.block _ (heap_lt X10_0.out) Dg4_g2).trans X10_0.out)
      have X11_1 := Lib.hid ((hF.block _ (heap_lt X10_1.out) Ng3g4).trans X10_1.out)
      have X11_2 := Lib.hid hR0
      have X11_3 := Lib.hid ((hF.block _ (heap_lt X10_3.out) (fun e => Dg6_g4 e.symm)).trans X10_3.out)
      clear hall hF hR0 t0 t1 X10_0 X10_1 X10_2 X10_3 F10
      try simp only [Act.put, List.setIfInBounds_toArray, List.set_cons_succ, List.set_cons_zero]
      go_upto_region 11 with (fail)
      refine wp_region_seq (fun b a w' => Fr (fun i => i = g3) W11 w' ∧ w'.heap[g3]? = some (.cells (if b 1 = true then vs .u8 S else vs .u8 VA) 23 (0, 0)) ∧ a = ⟨#[u0, .pointer (some ⟨g1, 0, none⟩), .pointer (some ⟨g2, 0, none⟩), .pointer (some ⟨g3, 0, none⟩), .pointer (some ⟨g4, 0, none⟩), .int .i64 (jj : Int), .pointer (some ⟨g6, 0, none⟩), .agg (vs .u8 KK), .agg (vs .u8 UU), .agg (vs .u8 KK), .agg (vs .u8 UU), .agg (vs .u8 RR), .string { data := #[99, 51, 100, 97, 53, 53, 51, 55, 57, 100, 101, 57, 99, 54, 57, 48, 56, 101, 57, 52, 101, 97, 52, 100, 102, 50, 56, 100, 48, 56, 52, 102, 51, 50, 101, 99, 99, 102, 48, 51, 52, 57, 49, 99, 55, 49, 102, 55, 53, 52, 98, 52, 48, 55, 53, 53, 55, 55, 97, 50, 56, 53, 53, 50] }, .bool false, .bool false, .agg (vs .u8 KK), .agg (vs .u8 UU), .bool true, .bool false, .bool false, .agg (vs .u8 NI), .agg (vs .u8 NI), .int .i64 (jj : Int), .bool (decide ((jj : Int) < 100)), u24, u25, .agg (vs .u8 VA), .agg (vs .u8 VB), .agg (vs .u8 S), .agg (vs .u8 VA), if b 0 = true then .agg (vs .u8 S) else u30, u31, u32, u33, u34, u35, u36, u37, u38, u39, u40, u41, u42, u43, u44, u45, u46, u47, u48, undef, undef, undef, undef, undef, undef, undef, undef, undef, undef, undef, undef], []⟩) (by kernel_rfl) ?start11 ?step11 ?done11
      case start11 => exact ⟨Fr.refl _ _, by simp only [Bool.false_eq_true, if_false]; exact X11_1.out, by simp⟩
      case step11 =>
        intro i o b a w1 ho hI hb hr
        obtain ⟨hF, hR0, rfl⟩ := hI
        match i, ho with
        | 0, ho =>
          injection ho with ho
          subst ho
          refine wp_quiet_here _ (quiet_load 23 (.tmp 6) rfl (g6) rfl 23 _ (0, 0) _ (fun _ h => (Fr.block h _ (Nat.lt_of_lt_of_le (heap_lt X11_3.out) hF.size) (fun x => x)).trans ((hF.block _ (heap_lt X11_3.out) (fun e => Dg6_g3 e.symm)).trans X11_3.out)) Try.underlying23 rfl (key_info k_S.out) rfl) (fun w2 hw2 => ?_)
          refine ⟨hF.trans hw2.any, ?_, ?_⟩
          · have hh := (hw2.block _ (heap_lt hR0) (fun x => x)).trans hR0
            simpa [upd] using hh
          · simp [upd, hjj, Act.put]
        | 1, ho =>
          injection ho with ho
          subst ho
          have d0 : b 0 = true := hr 0 (by decide)
          simp only [d0, if_true]
          have k2 := hR0
          rw [hb] at k2
          simp only [Bool.false_eq_true, if_false] at k2
          refine wp_store_row 23 (.tmp 3) (.tmp 30) rfl (g3) (vs .u8 S) rfl rfl 23 _ k2 (key_info k_S.out) (by rw [vs_size, vs_size, k_VA.out, k_S.out]) (vs_all _ _) ?_
          refine ⟨hF.setRow _ (.inl (by simp)), ?_, ?_⟩
          · refine (setRow_heap _ _ _ _ _ _ hR0).trans ?_
            simp [upd]
          · simp [upd, hjj, Act.put, d0]
        | j + 2, ho => exact absurd ho (by simp)
      intro b a W12 hall hI
      obtain ⟨hF, hR0, rfl⟩ := hI
      have t0 : b 0 = true := hall 0 (by simp)
      have t1 : b 1 = true := hall 1 (by simp)
      simp only [t0, t1, if_true, true_implies] at hR0 ⊢
      have F12 : Hid (Fr (fun i => i = g3 ∨ i = g4) w W12) := F11.out.trans (hF.weaken fun i _ h => by first | exact h | exact .inl h | exact .inr h)
      have X12_0 := Lib.hid ((hF.block _ (heap_lt X11_0.out) Dg3_g2).trans X11_0.out)
      have X12_1 := Lib.hid hR0
      have X12_2 := Lib.hid ((hF.block _ (heap_lt X11_2.out) (fun e => Ng3g4 e.symm)).trans X11_2.out)
      have X12_3 := Lib.hid ((hF.block _ (heap_lt X11_3.out) (fun e => Dg6_g3 e.symm)).trans X11_3.out)
      clear hall hF hR0 t0 t1 X11_0 X11_1 X11_2 X11_3 F11
      try simp only [Act.put, List.setIfInBounds_toArray, List.set_cons_succ, List.set_cons_zero]
      by_cases h0 : jj = 0
      · subst h0
        go_upto_region 12 with (fail)
        refine wp_region_head (C := Calm W12) 18 (Fr.refl _ _) ?_
        simp only [List.take_succ_cons, List.take_zero, List.drop_succ_cons, List.drop_zero]
        refine BigFrame.wpQuiet_want rfl fun K hK => ?_
        try simp only [Act.put, List.setIfInBounds_toArray, List.set_cons_succ, List.set_cons_zero]
        go_big_quiet_op
        refine hK _ ?_
        refine BigFrame.wpQuiet_want rfl fun K hK => ?_
        try simp only [Act.put, List.setIfInBounds_toArray, List.set_cons_succ, List.set_cons_zero]
        go_big_quiet_op
        first
          | refine ⟨_, fun _ _ => rfl, hK _ ?_⟩
          | refine hK _ ?_
        refine BigFrame.wpQuiet_want rfl fun K hK => ?_
        try simp only [Act.put, List.setIfInBounds_toArray, List.set_cons_succ, List.set_cons_zero]
        go_big_quiet_op
        refine hK _ ?_
        refine BigFrame.wpQuiet_want rfl fun K hK => quiet_load 23 (.tmp 3) rfl (g3) rfl 23 _ (0, 0) _ (fun _ h => Calm.at X12_1.out h) Try.underlying23 rfl (key_info k_S.out) (hK _ ?_)
        refine BigFrame.wpQuiet_want rfl fun K hK => ?_
        try simp only [Act.put, List.setIfInBounds_toArray, List.set_cons_succ, List.set_cons_zero]
        go_big_quiet_op
        refine ⟨_, Calm.calls (C2 rfl), hK _ ?_⟩
        refine BigFrame.wpQuiet_want rfl fun K hK => ?_
        try simp only [Act.put, List.setIfInBounds_toArray, List.set_cons_succ, List.set_cons_zero]
        go_big_quiet_op
        first
          | refine ⟨_, fun _ _ => rfl, hK _ ?_⟩
          | refine hK _ ?_
        refine BigFrame.wpQuiet_want rfl fun K hK => ?_
        try simp only [Act.put, List.setIfInBounds_toArray, List.set_cons_succ, List.set_cons_zero]
        go_big_quiet_op
        first
          | refine ⟨_, fun _ _ => rfl, hK _ ?_⟩
          | refine hK _ ?_
        refine BigFrame.wpQuiet_want rfl fun K hK => ?_
        try simp only [Act.put, List.setIfInBounds_toArray, List.set_cons_succ, List.set_cons_zero]
        go_big_quiet_op
        refine hK _ ?_
        refine BigFrame.wpQuiet_want rfl fun K hK => ?_
        try simp only [Act.put, List.setIfInBounds_toArray, List.set_cons_succ, List.set_cons_zero]
        go_big_quiet_op
        refine hK _ ?_
        refine BigFrame.wpQuiet_want rfl fun K hK => ?_
        try simp only [Act.put, List.setIfInBounds_toArray, List.set_cons_succ, List.set_cons_zero]
        go_big_quiet_op
        first
          | refine ⟨_, fun _ _ => rfl, hK _ ?_⟩
          | refine hK _ ?_
        refine BigFrame.wpQuiet_want rfl fun K hK => ?_
        try simp only [Act.put, List.setIfInBounds_toArray, List.set_cons_succ, List.set_cons_zero]
        go_big_quiet_op
        first
          | refine ⟨_, fun _ _ => rfl, hK _ ?_⟩
          | refine hK _ ?_
        refine BigFrame.wpQuiet_want rfl fun K hK => ?_
        try simp only [Act.put, List.setIfInBounds_toArray, List.set_cons_succ, List.set_cons_zero]
        go_big_quiet_op
        refine hK _ ?_
        go_big_quiet_skip
        try simp only [Act.put, List.setIfInBounds_toArray, List.set_cons_succ, List.set_cons_zero]
        go_big_quiet_skip
        try simp only [Act.put, List.setIfInBounds_toArray, List.set_cons_succ, List.set_cons_zero]
        go_big_quiet_skip
        try simp only [Act.put, List.setIfInBounds_toArray, List.set_cons_succ, List.set_cons_zero]
        go_big_quiet_skip
        try simp only [Act.put, List.setIfInBounds_toArray, List.set_cons_succ, List.set_cons_zero]
        refine BigFrame.wpQuiet_want rfl fun K hK => ?_
        try simp only [Act.put, List.setIfInBounds_toArray, List.set_cons_succ, List.set_cons_zero]
        go_big_quiet_op
        first
          | refine ⟨_, fun _ _ => rfl, hK _ ?_⟩
          | refine hK _ ?_
        refine BigFrame.wpQuiet_want rfl fun K hK => ?_
        try simp only [Act.put, List.setIfInBounds_toArray, List.set_cons_succ, List.set_cons_zero]
        go_big_quiet_op
        first
          | refine ⟨_, fun _ _ => rfl, hK _ ?_⟩
          | refine hK _ ?_
        refine wpQuiet_nil ?_
        intro w9 hw9
        have F9 : Hid (Fr (fun i => i = g3 ∨ i = g4) w w9) := F12.out.trans hw9.any
        have U9 : Hid (w9.heap[g2]? = some (.cells (vs .u8 UU) 23 (0, 0))) := Calm.at X12_0.out hw9
        have A9 : Hid (w9.heap[g3]? = some (.cells (vs .u8 S) 23 (0, 0))) := Calm.at X12_1.out hw9
        have B9 : Hid (w9.heap[g4]? = some (.cells (vs .u8 VA) 23 (0, 0))) := Calm.at X12_2.out hw9
        clear hw9
        try simp only [Act.put, List.setIfInBounds_toArray, List.set_cons_succ, List.set_cons_zero]
        go_wp2
        go_roundw
        case rel => exact ⟨1, S, VA, rfl, by omega, ⟨HP.out.1, HP.out.2.1, HP.out.2.2.1, HP.out.2.2.2, fun h => absurd h (by decide)⟩, U9.out, A9.out, B9.out, F9.out⟩
        case measure => simp [intOf]
      · have hi0 : ((jj : Int) == 0) = false := by simp; omega
        have hi1 : ¬ ((jj : Int) = 0) := by omega
        obtain ⟨m, hm⟩ : ∃ m : Nat, jj % 20 = m := ⟨_, rfl⟩
        have hmm : (jj : Int) % 20 = (m : Int) := by omega
        have wi : IntKind.i64.wrap ((jj : Int) + 1) = (jj : Int) + 1 := by rw [IntKind.wrap_i64]; omega
        by_cases h7 : m = 7
        · subst h7
          clear hm
          go_upto_region 12 with (fail)
          refine wp_region_head (C := Calm W12) 18 (Fr.refl _ _) ?_
          simp only [List.take_succ_cons, List.take_zero, List.drop_succ_cons, List.drop_zero]
          refine BigFrame.wpQuiet_want rfl fun K hK => ?_
          try simp only [Act.put, List.setIfInBounds_toArray, List.set_cons_succ, List.set_cons_zero]
          go_big_quiet_op
          refine hK _ ?_
          refine BigFrame.wpQuiet_want rfl fun K hK => ?_
          try simp only [Act.put, List.setIfInBounds_toArray, List.set_cons_succ, List.set_cons_zero]
          go_big_quiet_op
          first
            | refine ⟨_, fun _ _ => rfl, hK _ ?_⟩
            | refine hK _ ?_
          refine BigFrame.wpQuiet_want rfl fun K hK => ?_
          try simp only [Act.put, List.setIfInBounds_toArray, List.set_cons_succ, List.set_cons_zero]
          go_big_quiet_op
          refine hK _ ?_
          go_big_quiet_skip
          try simp only [Act.put, List.setIfInBounds_toArray, List.set_cons_succ, List.set_cons_zero]
          go_big_quiet_skip
          try simp only [Act.put, List.setIfInBounds_toArray, List.set_cons_succ, List.set_cons_zero]
          go_big_quiet_skip
          try simp only [Act.put, List.setIfInBounds_toArray, List.set_cons_succ, List.set_cons_zero]
          refine BigFrame.wpQuiet_want rfl fun K hK => ?_
          try simp only [Act.put, List.setIfInBounds_toArray, List.set_cons_succ, List.set_cons_zero]
          go_big_quiet_op
          first
            | refine ⟨_, fun _ _ => rfl, hK _ ?_⟩
            | refine hK _ ?_
          refine BigFrame.wpQuiet_want rfl fun K hK => ?_
          try simp only [Act.put, List.setIfInBounds_toArray, List.set_cons_succ, List.set_cons_zero]
          go_big_quiet_op
          refine hK _ ?_
          refine BigFrame.wpQuiet_want rfl fun K hK => ?_
          try simp only [Act.put, List.setIfInBounds_toArray, List.set_cons_succ, List.set_cons_zero]
          go_big_quiet_op
          refine hK _ ?_
          refine BigFrame.wpQuiet_want rfl fun K hK => ?_
          try simp only [Act.put, List.setIfInBounds_toArray, List.set_cons_succ, List.set_cons_zero]
          go_big_quiet_op
          first
            | refine ⟨_, fun _ _ => rfl, hK _ ?_⟩
            | refine hK _ ?_
          refine BigFrame.wpQuiet_want rfl fun K hK => ?_
          try simp only [Act.put, List.setIfInBounds_toArray, List.set_cons_succ, List.set_cons_zero]
          go_big_quiet_op
          first
            | refine ⟨_, fun _ _ => rfl, hK _ ?_⟩
            | refine hK _ ?_
          refine BigFrame.wpQuiet_want rfl fun K hK => ?_
          try simp only [Act.put, List.setIfInBounds_toArray, List.set_cons_succ, List.set_cons_zero]
          go_big_quiet_op
          refine hK _ ?_
          refine BigFrame.wpQuiet_want rfl fun K hK => quiet_load 23 (.tmp 3) rfl (g3) rfl 23 _ (0, 0) _ (fun _ h => Calm.at X12_1.out h) Try.underlying23 rfl (key_info k_S.out) (hK _ ?_)
          refine BigFrame.wpQuiet_want rfl fun K hK => quiet_load 23 (.tmp 4) rfl (g4) rfl 23 _ (0, 0) _ (fun _ h => Calm.at X12_2.out h) Try.underlying23 rfl (key_info k_VA.out) (hK _ ?_)
          refine BigFrame.wpQuiet_want rfl fun K hK => ?_
          try simp only [Act.put, List.setIfInBounds_toArray, List.set_cons_succ, List.set_cons_zero]
          go_big_quiet_op
          refine ⟨_, Calm.calls C1, hK _ ?_⟩
          refine BigFrame.wpQuiet_want rfl fun K hK => ?_
          try simp only [Act.put, List.setIfInBounds_toArray, List.set_cons_succ, List.set_cons_zero]
          go_big_quiet_op
          first
            | refine ⟨_, fun _ _ => rfl, hK _ ?_⟩
            | refine hK _ ?_
          refine BigFrame.wpQuiet_want rfl fun K hK => ?_
          try simp only [Act.put, List.setIfInBounds_toArray, List.set_cons_succ, List.set_cons_zero]
          go_big_quiet_op
          first
            | refine ⟨_, fun _ _ => rfl, hK _ ?_⟩
            | refine hK _ ?_
          refine BigFrame.wpQuiet_want rfl fun K hK => ?_
          try simp only [Act.put, List.setIfInBounds_toArray, List.set_cons_succ, List.set_cons_zero]
          go_big_quiet_op
          first
            | refine ⟨_, fun _ _ => rfl, hK _ ?_⟩
            | refine hK _ ?_
          refine wpQuiet_nil ?_
          intro w9 hw9
          have F9 : Hid (Fr (fun i => i = g3 ∨ i = g4) w w9) := F12.out.trans hw9.any
          have U9 : Hid (w9.heap[g2]? = some (.cells (vs .u8 UU) 23 (0, 0))) := Calm.at X12_0.out hw9
          have A9 : Hid (w9.heap[g3]? = some (.cells (vs .u8 S) 23 (0, 0))) := Calm.at X12_1.out hw9
          have B9 : Hid (w9.heap[g4]? = some (.cells (vs .u8 VA) 23 (0, 0))) := Calm.at X12_2.out hw9
          clear hw9
          try simp only [Act.put, List.setIfInBounds_toArray, List.set_cons_succ, List.set_cons_zero]
          go_wp2
          go_roundw
          case rel => exact ⟨jj + 1, S, VA, by go_num, by have := HLT.out; omega, ⟨HP.out.1, HP.out.2.1, HP.out.2.2.1, HP.out.2.2.2, fun h => absurd h (by omega)⟩, U9.out, A9.out, B9.out, F9.out⟩
          case measure => have := HLT.out; simp [intOf]; omega
        · have hm7 : ((m : Int) == 7) = false := by simp; omega
          have hm8 : ¬ ((m : Int) = 7) := by omega
          clear hm
          go_upto_region 12 with (fail)
          refine wp_region_head (C := Calm W12) 18 (Fr.refl _ _) ?_
          simp only [List.take_succ_cons, List.take_zero, List.drop_succ_cons, List.drop_zero]
          refine BigFrame.wpQuiet_want rfl fun K hK => ?_
          try simp only [Act.put, List.setIfInBounds_toArray, List.set_cons_succ, List.set_cons_zero]
          go_big_quiet_op
          refine hK _ ?_
          refine BigFrame.wpQuiet_want rfl fun K hK => ?_
          try simp only [Act.put, List.setIfInBounds_toArray, List.set_cons_succ, List.set_cons_zero]
          go_big_quiet_op
          first
            | refine ⟨_, fun _ _ => rfl, hK _ ?_⟩
            | refine hK _ ?_
          refine BigFrame.wpQuiet_want rfl fun K hK => ?_
          try simp only [Act.put, List.setIfInBounds_toArray, List.set_cons_succ, List.set_cons_zero]
          go_big_quiet_op
          refine hK _ ?_
          go_big_quiet_skip
          try simp only [Act.put, List.setIfInBounds_toArray, List.set_cons_succ, List.set_cons_zero]
          go_big_quiet_skip
          try simp only [Act.put, List.setIfInBounds_toArray, List.set_cons_succ, List.set_cons_zero]
          go_big_quiet_skip
          try simp only [Act.put, List.setIfInBounds_toArray, List.set_cons_succ, List.set_cons_zero]
          refine BigFrame.wpQuiet_want rfl fun K hK => ?_
          try simp only [Act.put, List.setIfInBounds_toArray, List.set_cons_succ, List.set_cons_zero]
          go_big_quiet_op
          first
            | refine ⟨_, fun _ _ => rfl, hK _ ?_⟩
            | refine hK _ ?_
          refine BigFrame.wpQuiet_want rfl fun K hK => ?_
          try simp only [Act.put, List.setIfInBounds_toArray, List.set_cons_succ, List.set_cons_zero]
          go_big_quiet_op
          refine hK _ ?_
          refine BigFrame.wpQuiet_want rfl fun K hK => ?_
          try simp only [Act.put, List.setIfInBounds_toArray, List.set_cons_succ, List.set_cons_zero]
          go_big_quiet_op
          refine hK _ ?_
          refine BigFrame.wpQuiet_want rfl fun K hK => ?_
          try simp only [Act.put, List.setIfInBounds_toArray, List.set_cons_succ, List.set_cons_zero]
          go_big_quiet_op
          first
            | refine ⟨_, fun _ _ => rfl, hK _ ?_⟩
            | refine hK _ ?_
          refine BigFrame.wpQuiet_want rfl fun K hK => ?_
          try simp only [Act.put, List.setIfInBounds_toArray, List.set_cons_succ, List.set_cons_zero]
          go_big_quiet_op
          first
            | refine ⟨_, fun _ _ => rfl, hK _ ?_⟩
            | refine hK _ ?_
          refine BigFrame.wpQuiet_want rfl fun K hK => ?_
          try simp only [Act.put, List.setIfInBounds_toArray, List.set_cons_succ, List.set_cons_zero]
          go_big_quiet_op
          refine hK _ ?_
          go_big_quiet_skip
          try simp only [Act.put, List.setIfInBounds_toArray, List.set_cons_succ, List.set_cons_zero]
          go_big_quiet_skip
          try simp only [Act.put, List.setIfInBounds_toArray, List.set_cons_succ, List.set_cons_zero]
          go_big_quiet_skip
          try simp only [Act.put, List.setIfInBounds_toArray, List.set_cons_succ, List.set_cons_zero]
          go_big_quiet_skip
          try simp only [Act.put, List.setIfInBounds_toArray, List.set_cons_succ, List.set_cons_zero]
          refine BigFrame.wpQuiet_want rfl fun K hK => ?_
          try simp only [Act.put, List.setIfInBounds_toArray, List.set_cons_succ, List.set_cons_zero]
          go_big_quiet_op
          first
            | refine ⟨_, fun _ _ => rfl, hK _ ?_⟩
            | refine hK _ ?_
          refine BigFrame.wpQuiet_want rfl fun K hK => ?_
          try simp only [Act.put, List.setIfInBounds_toArray, List.set_cons_succ, List.set_cons_zero]
          go_big_quiet_op
          first
            | refine ⟨_, fun _ _ => rfl, hK _ ?_⟩
            | refine hK _ ?_
          refine wpQuiet_nil ?_
          intro w9 hw9
          have F9 : Hid (Fr (fun i => i = g3 ∨ i = g4) w w9) := F12.out.trans hw9.any
          have U9 : Hid (w9.heap[g2]? = some (.cells (vs .u8 UU) 23 (0, 0))) := Calm.at X12_0.out hw9
          have A9 : Hid (w9.heap[g3]? = some (.cells (vs .u8 S) 23 (0, 0))) := Calm.at X12_1.out hw9
          have B9 : Hid (w9.heap[g4]? = some (.cells (vs .u8 VA) 23 (0, 0))) := Calm.at X12_2.out hw9
          clear hw9
          try simp only [Act.put, List.setIfInBounds_toArray, List.set_cons_succ, List.set_cons_zero]
          go_wp2
          go_roundw
          case rel => exact ⟨jj + 1, S, VA, by go_num, by have := HLT.out; omega, ⟨HP.out.1, HP.out.2.1, HP.out.2.2.1, HP.out.2.2.2, fun h => absurd h (by omega)⟩, U9.out, A9.out, B9.out, F9.out⟩
          case measure => have := HLT.out; simp [intOf]; omega
    · obtain rfl : jj = 100 := by omega
      have FE : Hid (Fr (fun _ => False) w wr) := hFr.out.weaken fun i hi h => by have := HY.out; omega
      go_upto_region 14 with (fail)
      refine wp_region_quiet (C := Calm wr) (by kernel_rfl) (by kernel_rfl) (Calm.start _ _ (Fr.refl _ _)) ?_
      refine BigFrame.wpQuiet_want rfl fun K hK => ?_
      try simp only [Act.put, List.setIfInBounds_toArray, List.set_cons_succ, List.set_cons_zero]
      go_big_quiet_op
      refine hK _ ?_
      refine BigFrame.wpQuiet_want rfl fun K hK => ?_
      try simp only [Act.put, List.setIfInBounds_toArray, List.set_cons_succ, List.set_cons_zero]
      go_big_quiet_op
      refine ⟨_, Calm.calls CA, hK _ ?_⟩
      refine BigFrame.wpQuiet_want rfl fun K hK => ?_
      try simp only [Act.put, List.setIfInBounds_toArray, List.set_cons_succ, List.set_cons_zero]
      go_big_quiet_op
      first
        | refine ⟨_, fun _ _ => rfl, hK _ ?_⟩
        | refine hK _ ?_
      refine BigFrame.wpQuiet_want rfl fun K hK => ?_
      try simp only [Act.put, List.setIfInBounds_toArray, List.set_cons_succ, List.set_cons_zero]
      go_big_quiet_op
      refine hK _ ?_
      refine BigFrame.wpQuiet_want rfl fun K hK => ?_
      try simp only [Act.put, List.setIfInBounds_toArray, List.set_cons_succ, List.set_cons_zero]
      go_big_quiet_op
      refine ⟨_, Calm.calls AL, hK _ ?_⟩
      refine BigFrame.wpQuiet_want rfl fun K hK => ?_
      try simp only [Act.put, List.setIfInBounds_toArray, List.set_cons_succ, List.set_cons_zero]
      go_big_quiet_op
      refine ⟨_, Calm.calls CL, hK _ ?_⟩
      refine BigFrame.wpQuiet_want rfl fun K hK => ?_
      try simp only [Act.put, List.setIfInBounds_toArray, List.set_cons_succ, List.set_cons_zero]
      go_big_quiet_op
      first
        | refine ⟨_, fun _ _ => rfl, hK _ ?_⟩
        | refine hK _ ?_
      refine BigFrame.wpQuiet_want rfl fun K hK => ?_
      try simp only [Act.put, List.setIfInBounds_toArray, List.set_cons_succ, List.set_cons_zero]
      go_big_quiet_op
      refine hK _ ?_
      refine BigFrame.wpQuiet_want rfl fun K hK => ?_
      try simp only [Act.put, List.setIfInBounds_toArray, List.set_cons_succ, List.set_cons_zero]
      go_big_quiet_op
      refine ⟨_, Calm.calls BO, hK _ ?_⟩
      refine BigFrame.wpQuiet_want rfl fun K hK => quiet_load 23 (.tmp 2) rfl (g2) rfl 23 _ (0, 0) _ (fun _ h => Calm.at hUr.out h) Try.underlying23 rfl (key_info k_UU.out) (hK _ ?_)
      refine BigFrame.wpQuiet_want rfl fun K hK => ?_
      try simp only [Act.put, List.setIfInBounds_toArray, List.set_cons_succ, List.set_cons_zero]
      go_big_quiet_op
      refine ⟨_, Calm.calls CN, hK _ ?_⟩
      refine BigFrame.wpQuiet_want rfl fun K hK => ?_
      try simp only [Act.put, List.setIfInBounds_toArray, List.set_cons_succ, List.set_cons_zero]
      go_big_quiet_op
      first
        | refine ⟨_, fun _ _ => rfl, hK _ ?_⟩
        | refine hK _ ?_
      refine BigFrame.wpQuiet_want rfl fun K hK => ?_
      try simp only [Act.put, List.setIfInBounds_toArray, List.set_cons_succ, List.set_cons_zero]
      go_big_quiet_op
      refine hK _ ?_
      refine wpQuiet_nil ?_
      intro w9 hw9
      have F9 : Hid (Fr (fun _ => False) w w9) := FE.out.trans hw9
      clear hw9
      try simp only [Act.put, List.setIfInBounds_toArray, List.set_cons_succ, List.set_cons_zero]
      go_wp2
      go_ret
      exact ⟨rfl, F9.out⟩

set_option maxRecDepth 100000 in
theorem law_names_lifted (os : Os) (started : os.Started) (H : Type) (enc : TypeId × Value → H) :
    ReturnsInHanded {} Try.checked os 12 .any (Rows.curveNamesSpec.pre6 enc Try.prog Try.f12 Rows.curveNamesRow.domain false) (Rows.curveNamesSpec.post enc Try.prog Try.f12 false true false false) := by
  refine returnsInHanded_of_change (C := Try.checked) own started (by kernel_rfl) Try.func12
    (ChangeSpec.witness6 (enc := enc) (C := Try.checked) false ⟨#[], #[], []⟩ 8 (by kernel_rfl) (by kernel_rfl) (by kernel_rfl) (by kernel_rfl)) ?_
  intro W base args ds gs before hval0 hW hcnd _
  have hval : ∀ (j : Nat) t v, Try.f12.params[j]? = some t → args[j]? = some v → Value.okWide Try.prog W .any base t v := hval0
  have hW' := hW
  obtain ⟨p, q, hA0, hV, rfl, hfz, hnd⟩ := hW
  have hA : DataW.TrodAll enc Try.prog W 0 (fun _ => true) true Try.f12.params.toList args.toList ds p := hA0
  rw [Try.params12] at hA hval
  obtain ⟨hargs, rfl, rfl⟩ := trodAll_nil hA
  obtain rfl : args = #[] := by cases args; simp_all
  obtain ⟨rfl, rfl⟩ := trodVars_none hV
  clear hA0 hval0
  refine (law_names_any  W ).mono fun e W' ⟨he, hg⟩ => ?_
  subst he
  exact ⟨_, rfl, post_true rfl hW' (by kernel_rfl) rfl rfl hg⟩

theorem curveNames_holds : Rows.CurveNamesSaid :=
  OpenClaim.holds_of_wide 12 Try.f12 rfl rfl rfl rfl rfl rfl rfl ⟨rfl, rfl, rfl, rfl, rfl⟩ rfl rfl rfl rfl rfl (by kernel_rfl) Try.func12 (by kernel_rfl)
    (of_decide_eq_true (by kernel_rfl)) (by unfold Func.isWrapper; first | (rw [if_pos (by decide +kernel)]; kernel_rfl) | (rw [if_neg (by decide +kernel)]; exact ⟨rfl, rfl⟩))
    (fun os started H enc _ => law_names_lifted os started H enc)
#print axioms curveNames_holds
end Go.Proofs.Ytbkbodcncjhcmaa
