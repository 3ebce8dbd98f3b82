/- The reference's mix: contract. Conditions: sixteen words, four places below 16, two words. -/
import Derived.Test.YtebknlhooijkcaaZv
import Derived.Test.YtebknlhooijkcaaT
namespace Go.Proofs.Ytebknlhooijkcaa
set_option linter.unusedSimpArgs false
set_option linter.unusedVariables false
open Go.ChangeShapes Go.WideShapes Go.ChangeAt Go.RowKit


theorem sz47 : (Try.prog.info? 50).map (·.size) = some 1 := by kernel_rfl
theorem sz59 : (Try.prog.info? 69).map (·.size) = some 16 := by kernel_rfl
theorem zero59 : ∀ W : World, (zeroValue 69).run Try.prog W = .ok (.agg (vs .u32 (List.replicate 16 0))) W := fun _ => by kernel_rfl
/-- A place that stands. -/
theorem at16 {a : Nat} (h : a < 16) : ((a : Int)).toNat = a ∧ 0 ≤ (a : Int) ∧ (a : Int) < 16 := ⟨by omega, by omega, by omega⟩
set_option maxRecDepth 100000 in
set_option maxHeartbeats 16000000 in
theorem rmix_is (v : List Int) (a b c d : Nat) (x y : Int) (w : World) (hv : V16 v) (ha : a < 16) (hb : b < 16) (hc : c < 16) (hd : d < 16) :
    Calls Try.prog 50 #[.agg (vs .u32 v), .agg (vs .i64 [(a : Int), (b : Int), (c : Int), (d : Int)]), .int .u32 x, .int .u32 y] w fun e w' => e = .returned (.agg (vs .u32 (mx v a b c d x y))) ∧ Fr (fun _ => False) w w' := by
  have HV := Lib.hid hv
  have HP := Lib.hid (And.intro ha (And.intro hb (And.intro hc hd)))
  obtain ⟨R, hR⟩ : ∃ R, R = mx v a b c d x y := ⟨_, rfl⟩
  rw [← hR]
  have HR := Lib.hid hR
  obtain ⟨Z, hZ⟩ : ∃ Z, Z = List.replicate 16 (0 : Int) := ⟨_, rfl⟩
  have hz : ∀ W : World, (zeroValue 69).run Try.prog W = .ok (.agg (vs .u32 Z)) W := fun W => by rw [hZ]; exact zero59 W
  have lZ : Hid (Z.length = 16) := by show _ = _; rw [hZ]; rfl
  obtain ⟨ta, pa, qa⟩ := at16 ha
  obtain ⟨tb, pb, qb⟩ := at16 hb
  obtain ⟨tc, pc, qc⟩ := at16 hc
  obtain ⟨td, pd, qd⟩ := at16 hd
  clear hZ hR hv ha hb hc hd
  go_enter Try.func50, Try.ntmps50
  go_upto_region 1 with (fail)
  generalize hW : ((w.alloc (.cells (vs .u32 v) 69)).alloc (.cells (vs .i64 [(a : Int), (b : Int), (c : Int), (d : Int)]) 75)).alloc (.cells (vs .u32 Z) 69) = W0
  have HW := Lib.hid (calm3 hW)
  clear hW hz
  have F0 : Hid (Fr (fun _ => False) w W0) := HW.out.2.2.2
  have A1 : Hid (Ar W0 w.heap.size 69 .u32 v) := HW.out.1
  have Z1 : Hid (Ar W0 (w.heap.size + 1 + 1) 69 .u32 Z) := HW.out.2.2.1
  have P1 : Hid (Ar W0 (w.heap.size + 1) 75 .i64 [(a : Int), (b : Int), (c : Int), (d : Int)]) := HW.out.2.1
  clear HW
  refine wp_region_quiet (C := Calm W0) (by kernel_rfl) (by kernel_rfl) (Calm.start _ _ (Fr.refl _ _)) ?_
  refine BigFrame.wpQuiet_want rfl fun K hK => ?_
  try simp only [Act.put, List.setIfInBounds_toArray, List.set_cons_succ, List.set_cons_zero]
  go_big_quiet_op
  first
    | refine ⟨_, fun _ _ => rfl, hK _ ?_⟩
    | refine hK _ ?_
  refine BigFrame.wpQuiet_want rfl fun K hK => quiet_one 3 .i64 (.tmp 13) rfl (w.heap.size + 1) (0) rfl (a : Int) Try.underlying3 (fun _ h => (Ar.fr P1.out h (fun x => x)).cell rfl) (hK _ ?_)
  refine BigFrame.wpQuiet_want rfl fun K hK => ?_
  try simp only [Act.put, List.setIfInBounds_toArray, List.set_cons_succ, List.set_cons_zero]
  go_big_quiet_op
  first
    | refine ⟨_, fun _ _ => rfl, hK _ ?_⟩
    | refine hK _ ?_
  refine BigFrame.wpQuiet_want rfl fun K hK => quiet_one 3 .i64 (.tmp 15) rfl (w.heap.size + 1) (1) rfl (b : Int) Try.underlying3 (fun _ h => (Ar.fr P1.out h (fun x => x)).cell rfl) (hK _ ?_)
  refine BigFrame.wpQuiet_want rfl fun K hK => ?_
  try simp only [Act.put, List.setIfInBounds_toArray, List.set_cons_succ, List.set_cons_zero]
  go_big_quiet_op
  first
    | refine ⟨_, fun _ _ => rfl, hK _ ?_⟩
    | refine hK _ ?_
  refine BigFrame.wpQuiet_want rfl fun K hK => quiet_one 3 .i64 (.tmp 17) rfl (w.heap.size + 1) (2) rfl (c : Int) Try.underlying3 (fun _ h => (Ar.fr P1.out h (fun x => x)).cell rfl) (hK _ ?_)
  refine BigFrame.wpQuiet_want rfl fun K hK => ?_
  try simp only [Act.put, List.setIfInBounds_toArray, List.set_cons_succ, List.set_cons_zero]
  go_big_quiet_op
  first
    | refine ⟨_, fun _ _ => rfl, hK _ ?_⟩
    | refine hK _ ?_
  refine BigFrame.wpQuiet_want rfl fun K hK => quiet_one 3 .i64 (.tmp 19) rfl (w.heap.size + 1) (3) rfl (d : Int) Try.underlying3 (fun _ h => (Ar.fr P1.out h (fun x => x)).cell rfl) (hK _ ?_)
  refine BigFrame.wpQuiet_want rfl fun K hK => ?_
  try simp only [Act.put, List.setIfInBounds_toArray, List.set_cons_succ, List.set_cons_zero]
  go_big_quiet_op
  refine hK _ ?_
  refine BigFrame.wpQuiet_want rfl fun K hK => ?_
  try simp only [Act.put, List.setIfInBounds_toArray, List.set_cons_succ, List.set_cons_zero]
  go_big_quiet_op
  refine hK _ ?_
  refine BigFrame.wpQuiet_want rfl fun K hK => ?_
  try simp only [Act.put, List.setIfInBounds_toArray, List.set_cons_succ, List.set_cons_zero]
  go_big_quiet_op
  refine hK _ ?_
  refine BigFrame.wpQuiet_want rfl fun K hK => ?_
  try simp only [Act.put, List.setIfInBounds_toArray, List.set_cons_succ, List.set_cons_zero]
  go_big_quiet_op
  refine hK _ ?_
  refine wpQuiet_nil ?_
  intro w1 hw1
  have F1 : Hid (Fr (fun _ => False) w w1) := F0.out.trans hw1
  have G1 := Lib.hid hw1
  clear hw1
  try simp only [Act.put, List.setIfInBounds_toArray, List.set_cons_succ, List.set_cons_zero]
  clear P1
  replace A1 := Lib.hid (Ar.fr A1.out G1.out (fun x => x))
  replace Z1 := Lib.hid (Ar.fr Z1.out G1.out (fun x => x))
  clear G1 F0
  go_upto_region 2 with (fail)
  obtain ⟨p2, hp2⟩ : ∃ p, p = v.getD a 0 := ⟨_, rfl⟩
  obtain ⟨r2, hr2⟩ : ∃ p, p = v.getD b 0 := ⟨_, rfl⟩
  have gp2 := (HV.out.get HP.out.1)
  have gr2 := (HV.out.get HP.out.2.1)
  rw [← hp2] at gp2
  rw [← hr2] at gr2
  have GP2 := Lib.hid gp2
  have GR2 := Lib.hid gr2
  obtain ⟨s2, e2⟩ : ∃ s, IntKind.u32.wrap (p2 + r2) = s := ⟨_, rfl⟩
  obtain ⟨u2, f2⟩ : ∃ s, IntKind.u32.wrap (s2 + x) = s := ⟨_, rfl⟩
  obtain ⟨L2, hL2⟩ : ∃ l, l = sA v a b x := ⟨_, rfl⟩
  have HS2 : Hid (v.set a u2 = L2) := by show _ = _; rw [hL2, ← f2, ← e2, wrap32, wrap32, hp2, hr2]; rfl
  have V2 : Hid (V16 L2) := by rw [hL2]; exact sA_ok HV.out _ _ _
  have HL2 := Lib.hid hL2
  clear hL2 hp2 hr2 gp2 gr2
  refine wp_region_quiet_tail (C := Calm w1) 11 (by kernel_rfl) (by kernel_rfl) (Calm.start _ _ (Fr.refl _ _)) ?_
  simp only [List.take_succ_cons, List.take_zero, List.drop_succ_cons, List.drop_zero]
  refine BigFrame.wpQuiet_want rfl fun K hK => ?_
  try simp only [Act.put, List.setIfInBounds_toArray, List.set_cons_succ, List.set_cons_zero]
  go_big_quiet_op
  refine hK _ ?_
  refine BigFrame.wpQuiet_want rfl fun K hK => ?_
  try simp only [Act.put, List.setIfInBounds_toArray, List.set_cons_succ, List.set_cons_zero]
  go_big_quiet_op
  refine hK _ ?_
  refine BigFrame.wpQuiet_want rfl fun K hK => ?_
  try simp only [Act.put, List.setIfInBounds_toArray, List.set_cons_succ, List.set_cons_zero]
  go_big_quiet_op
  first
    | refine ⟨_, fun _ _ => rfl, hK _ ?_⟩
    | refine hK _ ?_
  refine BigFrame.wpQuiet_want rfl fun K hK => quiet_one 50 .u32 (.tmp 23) rfl w.heap.size (a) rfl p2 Try.underlying50 (fun _ h => (Ar.fr A1.out h (fun x => x)).cell GP2.out.1) (hK _ ?_)
  refine BigFrame.wpQuiet_want rfl fun K hK => ?_
  try simp only [Act.put, List.setIfInBounds_toArray, List.set_cons_succ, List.set_cons_zero]
  go_big_quiet_op
  refine hK _ ?_
  refine BigFrame.wpQuiet_want rfl fun K hK => ?_
  try simp only [Act.put, List.setIfInBounds_toArray, List.set_cons_succ, List.set_cons_zero]
  go_big_quiet_op
  first
    | refine ⟨_, fun _ _ => rfl, hK _ ?_⟩
    | refine hK _ ?_
  refine BigFrame.wpQuiet_want rfl fun K hK => quiet_one 50 .u32 (.tmp 26) rfl w.heap.size (b) rfl r2 Try.underlying50 (fun _ h => (Ar.fr A1.out h (fun x => x)).cell GR2.out.1) (hK _ ?_)
  refine BigFrame.wpQuiet_want rfl fun K hK => ?_
  try simp only [Act.put, List.setIfInBounds_toArray, List.set_cons_succ, List.set_cons_zero]
  go_big_quiet_op
  first
    | refine ⟨_, fun _ _ => rfl, hK _ ?_⟩
    | refine hK _ ?_
  refine BigFrame.wpQuiet_want rfl fun K hK => ?_
  try simp only [Act.put, List.setIfInBounds_toArray, List.set_cons_succ, List.set_cons_zero]
  go_big_quiet_op
  refine hK _ ?_
  refine BigFrame.wpQuiet_want rfl fun K hK => ?_
  try simp only [Act.put, List.setIfInBounds_toArray, List.set_cons_succ, List.set_cons_zero]
  go_big_quiet_op
  first
    | refine ⟨_, fun _ _ => rfl, hK _ ?_⟩
    | refine hK _ ?_
  refine BigFrame.wpQuiet_want rfl fun K hK => ?_
  try simp only [Act.put, List.setIfInBounds_toArray, List.set_cons_succ, List.set_cons_zero]
  go_big_quiet_op
  first
    | refine ⟨_, fun _ _ => rfl, hK _ ?_⟩
    | refine hK _ ?_
  refine wpQuiet_nil ?_
  intro w2 hw2
  have F2 : Hid (Fr (fun _ => False) w w2) := F1.out.trans hw2
  have G2 := Lib.hid hw2
  clear hw2
  try simp only [Act.put, List.setIfInBounds_toArray, List.set_cons_succ, List.set_cons_zero]
  refine wpList_plain rfl fun K hK => wp_store_one 50 .u32 (.tmp 31) (.tmp 30) rfl w.heap.size a rfl u2 rfl Try.underlying50 sz47 (Ar.fr A1.out G2.out (fun x => x)) (by rw [HV.out.1]; exact HP.out.1) (hK _ _ ?_)
  have A2 := Lib.hid ((Ar.fr A1.out G2.out (fun x => x)).set a u2)
  rw [HS2.out] at A2
  have Z2 := Lib.hid ((Ar.fr Z1.out G2.out (fun x => x)).far (a := ⟨w.heap.size, a, none⟩) (by show ¬ (w.heap.size + 1 + 1) = w.heap.size; omega) (.int .u32 u2))
  have K2 : Hid (Fr (fun _ => False) w (w2.setCell ⟨w.heap.size, a, none⟩ (.int .u32 u2))) := F2.out.setCell _ (.inr (Nat.le_refl _))
  generalize w2.setCell ⟨w.heap.size, a, none⟩ (.int .u32 u2) = Y2 at *
  clear A1 Z1 G2 F2 HS2 GP2 GR2 e2 f2
  try simp only [Act.put, List.setIfInBounds_toArray, List.set_cons_succ, List.set_cons_zero]
  obtain ⟨p3, hp3⟩ : ∃ p, p = L2.getD d 0 := ⟨_, rfl⟩
  obtain ⟨r3, hr3⟩ : ∃ p, p = L2.getD a 0 := ⟨_, rfl⟩
  have gp3 := (V2.out.get HP.out.2.2.2)
  have gr3 := (V2.out.get HP.out.1)
  rw [← hp3] at gp3
  rw [← hr3] at gr3
  have GP3 := Lib.hid gp3
  have GR3 := Lib.hid gr3
  obtain ⟨s3, e3⟩ : ∃ s, bits .xor .u32 p3 r3 = s := ⟨_, rfl⟩
  obtain ⟨u3, f3⟩ : ∃ s, s = tr 16 s3 := ⟨_, rfl⟩
  have ws3 : Hid (Wd s3) := by rw [← e3]; exact xr_wd gp3.2 gr3.2
  have CT3 : ∀ W, Calls Try.prog 55 #[.int .u32 s3, .int .i64 16] W fun e w' => e = .returned (.int .u32 u3) ∧ Fr (fun _ => False) W w' := fun W => by rw [f3]; exact rturn16 s3 ws3.out W
  obtain ⟨L3, hL3⟩ : ∃ l, l = sX 16 L2 d a := ⟨_, rfl⟩
  have HS3 : Hid (L2.set d u3 = L3) := by show _ = _; rw [hL3, f3, ← e3, hp3, hr3]; rfl
  have V3 : Hid (V16 L3) := by rw [hL3]; exact sX_ok (by simp [Tn]) V2.out HP.out.2.2.2 HP.out.1
  have HL3 := Lib.hid hL3
  clear hL3 hp3 hr3 gp3 gr3 f3 ws3
  go_upto_region 3 with (fail)
  refine wp_region_quiet_tail (C := Calm Y2) 10 (by kernel_rfl) (by kernel_rfl) (Calm.start _ _ (Fr.refl _ _)) ?_
  simp only [List.take_succ_cons, List.take_zero, List.drop_succ_cons, List.drop_zero]
  refine BigFrame.wpQuiet_want rfl fun K hK => ?_
  try simp only [Act.put, List.setIfInBounds_toArray, List.set_cons_succ, List.set_cons_zero]
  go_big_quiet_op
  refine hK _ ?_
  refine BigFrame.wpQuiet_want rfl fun K hK => ?_
  try simp only [Act.put, List.setIfInBounds_toArray, List.set_cons_succ, List.set_cons_zero]
  go_big_quiet_op
  refine hK _ ?_
  refine BigFrame.wpQuiet_want rfl fun K hK => ?_
  try simp only [Act.put, List.setIfInBounds_toArray, List.set_cons_succ, List.set_cons_zero]
  go_big_quiet_op
  first
    | refine ⟨_, fun _ _ => rfl, hK _ ?_⟩
    | refine hK _ ?_
  refine BigFrame.wpQuiet_want rfl fun K hK => quiet_one 50 .u32 (.tmp 34) rfl w.heap.size (d) rfl p3 Try.underlying50 (fun _ h => (Ar.fr A2.out h (fun x => x)).cell GP3.out.1) (hK _ ?_)
  refine BigFrame.wpQuiet_want rfl fun K hK => ?_
  try simp only [Act.put, List.setIfInBounds_toArray, List.set_cons_succ, List.set_cons_zero]
  go_big_quiet_op
  refine hK _ ?_
  refine BigFrame.wpQuiet_want rfl fun K hK => ?_
  try simp only [Act.put, List.setIfInBounds_toArray, List.set_cons_succ, List.set_cons_zero]
  go_big_quiet_op
  first
    | refine ⟨_, fun _ _ => rfl, hK _ ?_⟩
    | refine hK _ ?_
  refine BigFrame.wpQuiet_want rfl fun K hK => quiet_one 50 .u32 (.tmp 37) rfl w.heap.size (a) rfl r3 Try.underlying50 (fun _ h => (Ar.fr A2.out h (fun x => x)).cell GR3.out.1) (hK _ ?_)
  refine BigFrame.wpQuiet_want rfl fun K hK => ?_
  try simp only [Act.put, List.setIfInBounds_toArray, List.set_cons_succ, List.set_cons_zero]
  go_big_quiet_op
  first
    | refine ⟨_, fun _ _ => rfl, hK _ ?_⟩
    | refine hK _ ?_
  refine BigFrame.wpQuiet_want rfl fun K hK => ?_
  try simp only [Act.put, List.setIfInBounds_toArray, List.set_cons_succ, List.set_cons_zero]
  go_big_quiet_op
  refine ⟨_, Calm.calls CT3, hK _ ?_⟩
  refine BigFrame.wpQuiet_want rfl fun K hK => ?_
  try simp only [Act.put, List.setIfInBounds_toArray, List.set_cons_succ, List.set_cons_zero]
  go_big_quiet_op
  first
    | refine ⟨_, fun _ _ => rfl, hK _ ?_⟩
    | refine hK _ ?_
  refine wpQuiet_nil ?_
  intro w3 hw3
  have F3 : Hid (Fr (fun _ => False) w w3) := K2.out.trans hw3
  have G3 := Lib.hid hw3
  clear hw3
  try simp only [Act.put, List.setIfInBounds_toArray, List.set_cons_succ, List.set_cons_zero]
  refine wpList_plain rfl fun K hK => wp_store_one 50 .u32 (.tmp 41) (.tmp 40) rfl w.heap.size d rfl u3 rfl Try.underlying50 sz47 (Ar.fr A2.out G3.out (fun x => x)) (by rw [V2.out.1]; exact HP.out.2.2.2) (hK _ _ ?_)
  have A3 := Lib.hid ((Ar.fr A2.out G3.out (fun x => x)).set d u3)
  rw [HS3.out] at A3
  have Z3 := Lib.hid ((Ar.fr Z2.out G3.out (fun x => x)).far (a := ⟨w.heap.size, d, none⟩) (by show ¬ (w.heap.size + 1 + 1) = w.heap.size; omega) (.int .u32 u3))
  have K3 : Hid (Fr (fun _ => False) w (w3.setCell ⟨w.heap.size, d, none⟩ (.int .u32 u3))) := F3.out.setCell _ (.inr (Nat.le_refl _))
  generalize w3.setCell ⟨w.heap.size, d, none⟩ (.int .u32 u3) = Y3 at *
  clear A2 Z2 G3 F3 HS3 GP3 GR3 e3 CT3
  try simp only [Act.put, List.setIfInBounds_toArray, List.set_cons_succ, List.set_cons_zero]
  obtain ⟨p4, hp4⟩ : ∃ p, p = L3.getD c 0 := ⟨_, rfl⟩
  obtain ⟨r4, hr4⟩ : ∃ p, p = L3.getD d 0 := ⟨_, rfl⟩
  have gp4 := (V3.out.get HP.out.2.2.1)
  have gr4 := (V3.out.get HP.out.2.2.2)
  rw [← hp4] at gp4
  rw [← hr4] at gr4
  have GP4 := Lib.hid gp4
  have GR4 := Lib.hid gr4
  obtain ⟨u4, e4⟩ : ∃ s, IntKind.u32.wrap (p4 + r4) = s := ⟨_, rfl⟩
  obtain ⟨L4, hL4⟩ : ∃ l, l = sC L3 c d := ⟨_, rfl⟩
  have HS4 : Hid (L3.set c u4 = L4) := by show _ = _; rw [hL4, ← e4, wrap32, hp4, hr4]; rfl
  have V4 : Hid (V16 L4) := by rw [hL4]; exact sC_ok V3.out _ _
  have HL4 := Lib.hid hL4
  clear hL4 hp4 hr4 gp4 gr4
  go_upto_region 4 with (fail)
  refine wp_region_quiet_tail (C := Calm Y3) 9 (by kernel_rfl) (by kernel_rfl) (Calm.start _ _ (Fr.refl _ _)) ?_
  simp only [List.take_succ_cons, List.take_zero, List.drop_succ_cons, List.drop_zero]
  refine BigFrame.wpQuiet_want rfl fun K hK => ?_
  try simp only [Act.put, List.setIfInBounds_toArray, List.set_cons_succ, List.set_cons_zero]
  go_big_quiet_op
  refine hK _ ?_
  refine BigFrame.wpQuiet_want rfl fun K hK => ?_
  try simp only [Act.put, List.setIfInBounds_toArray, List.set_cons_succ, List.set_cons_zero]
  go_big_quiet_op
  refine hK _ ?_
  refine BigFrame.wpQuiet_want rfl fun K hK => ?_
  try simp only [Act.put, List.setIfInBounds_toArray, List.set_cons_succ, List.set_cons_zero]
  go_big_quiet_op
  first
    | refine ⟨_, fun _ _ => rfl, hK _ ?_⟩
    | refine hK _ ?_
  refine BigFrame.wpQuiet_want rfl fun K hK => quiet_one 50 .u32 (.tmp 44) rfl w.heap.size (c) rfl p4 Try.underlying50 (fun _ h => (Ar.fr A3.out h (fun x => x)).cell GP4.out.1) (hK _ ?_)
  refine BigFrame.wpQuiet_want rfl fun K hK => ?_
  try simp only [Act.put, List.setIfInBounds_toArray, List.set_cons_succ, List.set_cons_zero]
  go_big_quiet_op
  refine hK _ ?_
  refine BigFrame.wpQuiet_want rfl fun K hK => ?_
  try simp only [Act.put, List.setIfInBounds_toArray, List.set_cons_succ, List.set_cons_zero]
  go_big_quiet_op
  first
    | refine ⟨_, fun _ _ => rfl, hK _ ?_⟩
    | refine hK _ ?_
  refine BigFrame.wpQuiet_want rfl fun K hK => quiet_one 50 .u32 (.tmp 47) rfl w.heap.size (d) rfl r4 Try.underlying50 (fun _ h => (Ar.fr A3.out h (fun x => x)).cell GR4.out.1) (hK _ ?_)
  refine BigFrame.wpQuiet_want rfl fun K hK => ?_
  try simp only [Act.put, List.setIfInBounds_toArray, List.set_cons_succ, List.set_cons_zero]
  go_big_quiet_op
  first
    | refine ⟨_, fun _ _ => rfl, hK _ ?_⟩
    | refine hK _ ?_
  refine BigFrame.wpQuiet_want rfl fun K hK => ?_
  try simp only [Act.put, List.setIfInBounds_toArray, List.set_cons_succ, List.set_cons_zero]
  go_big_quiet_op
  first
    | refine ⟨_, fun _ _ => rfl, hK _ ?_⟩
    | refine hK _ ?_
  refine wpQuiet_nil ?_
  intro w4 hw4
  have F4 : Hid (Fr (fun _ => False) w w4) := K3.out.trans hw4
  have G4 := Lib.hid hw4
  clear hw4
  try simp only [Act.put, List.setIfInBounds_toArray, List.set_cons_succ, List.set_cons_zero]
  refine wpList_plain rfl fun K hK => wp_store_one 50 .u32 (.tmp 50) (.tmp 49) rfl w.heap.size c rfl u4 rfl Try.underlying50 sz47 (Ar.fr A3.out G4.out (fun x => x)) (by rw [V3.out.1]; exact HP.out.2.2.1) (hK _ _ ?_)
  have A4 := Lib.hid ((Ar.fr A3.out G4.out (fun x => x)).set c u4)
  rw [HS4.out] at A4
  have Z4 := Lib.hid ((Ar.fr Z3.out G4.out (fun x => x)).far (a := ⟨w.heap.size, c, none⟩) (by show ¬ (w.heap.size + 1 + 1) = w.heap.size; omega) (.int .u32 u4))
  have K4 : Hid (Fr (fun _ => False) w (w4.setCell ⟨w.heap.size, c, none⟩ (.int .u32 u4))) := F4.out.setCell _ (.inr (Nat.le_refl _))
  generalize w4.setCell ⟨w.heap.size, c, none⟩ (.int .u32 u4) = Y4 at *
  clear A3 Z3 G4 F4 HS4 GP4 GR4 e4
  try simp only [Act.put, List.setIfInBounds_toArray, List.set_cons_succ, List.set_cons_zero]
  obtain ⟨p5, hp5⟩ : ∃ p, p = L4.getD b 0 := ⟨_, rfl⟩
  obtain ⟨r5, hr5⟩ : ∃ p, p = L4.getD c 0 := ⟨_, rfl⟩
  have gp5 := (V4.out.get HP.out.2.1)
  have gr5 := (V4.out.get HP.out.2.2.1)
  rw [← hp5] at gp5
  rw [← hr5] at gr5
  have GP5 := Lib.hid gp5
  have GR5 := Lib.hid gr5
  obtain ⟨s5, e5⟩ : ∃ s, bits .xor .u32 p5 r5 = s := ⟨_, rfl⟩
  obtain ⟨u5, f5⟩ : ∃ s, s = tr 12 s5 := ⟨_, rfl⟩
  have ws5 : Hid (Wd s5) := by rw [← e5]; exact xr_wd gp5.2 gr5.2
  have CT5 : ∀ W, Calls Try.prog 55 #[.int .u32 s5, .int .i64 12] W fun e w' => e = .returned (.int .u32 u5) ∧ Fr (fun _ => False) W w' := fun W => by rw [f5]; exact rturn12 s5 ws5.out W
  obtain ⟨L5, hL5⟩ : ∃ l, l = sX 12 L4 b c := ⟨_, rfl⟩
  have HS5 : Hid (L4.set b u5 = L5) := by show _ = _; rw [hL5, f5, ← e5, hp5, hr5]; rfl
  have V5 : Hid (V16 L5) := by rw [hL5]; exact sX_ok (by simp [Tn]) V4.out HP.out.2.1 HP.out.2.2.1
  have HL5 := Lib.hid hL5
  clear hL5 hp5 hr5 gp5 gr5 f5 ws5
  go_upto_region 5 with (fail)
  refine wp_region_quiet_tail (C := Calm Y4) 10 (by kernel_rfl) (by kernel_rfl) (Calm.start _ _ (Fr.refl _ _)) ?_
  simp only [List.take_succ_cons, List.take_zero, List.drop_succ_cons, List.drop_zero]
  refine BigFrame.wpQuiet_want rfl fun K hK => ?_
  try simp only [Act.put, List.setIfInBounds_toArray, List.set_cons_succ, List.set_cons_zero]
  go_big_quiet_op
  refine hK _ ?_
  refine BigFrame.wpQuiet_want rfl fun K hK => ?_
  try simp only [Act.put, List.setIfInBounds_toArray, List.set_cons_succ, List.set_cons_zero]
  go_big_quiet_op
  refine hK _ ?_
  refine BigFrame.wpQuiet_want rfl fun K hK => ?_
  try simp only [Act.put, List.setIfInBounds_toArray, List.set_cons_succ, List.set_cons_zero]
  go_big_quiet_op
  first
    | refine ⟨_, fun _ _ => rfl, hK _ ?_⟩
    | refine hK _ ?_
  refine BigFrame.wpQuiet_want rfl fun K hK => quiet_one 50 .u32 (.tmp 53) rfl w.heap.size (b) rfl p5 Try.underlying50 (fun _ h => (Ar.fr A4.out h (fun x => x)).cell GP5.out.1) (hK _ ?_)
  refine BigFrame.wpQuiet_want rfl fun K hK => ?_
  try simp only [Act.put, List.setIfInBounds_toArray, List.set_cons_succ, List.set_cons_zero]
  go_big_quiet_op
  refine hK _ ?_
  refine BigFrame.wpQuiet_want rfl fun K hK => ?_
  try simp only [Act.put, List.setIfInBounds_toArray, List.set_cons_succ, List.set_cons_zero]
  go_big_quiet_op
  first
    | refine ⟨_, fun _ _ => rfl, hK _ ?_⟩
    | refine hK _ ?_
  refine BigFrame.wpQuiet_want rfl fun K hK => quiet_one 50 .u32 (.tmp 56) rfl w.heap.size (c) rfl r5 Try.underlying50 (fun _ h => (Ar.fr A4.out h (fun x => x)).cell GR5.out.1) (hK _ ?_)
  refine BigFrame.wpQuiet_want rfl fun K hK => ?_
  try simp only [Act.put, List.setIfInBounds_toArray, List.set_cons_succ, List.set_cons_zero]
  go_big_quiet_op
  first
    | refine ⟨_, fun _ _ => rfl, hK _ ?_⟩
    | refine hK _ ?_
  refine BigFrame.wpQuiet_want rfl fun K hK => ?_
  try simp only [Act.put, List.setIfInBounds_toArray, List.set_cons_succ, List.set_cons_zero]
  go_big_quiet_op
  refine ⟨_, Calm.calls CT5, hK _ ?_⟩
  refine BigFrame.wpQuiet_want rfl fun K hK => ?_
  try simp only [Act.put, List.setIfInBounds_toArray, List.set_cons_succ, List.set_cons_zero]
  go_big_quiet_op
  first
    | refine ⟨_, fun _ _ => rfl, hK _ ?_⟩
    | refine hK _ ?_
  refine wpQuiet_nil ?_
  intro w5 hw5
  have F5 : Hid (Fr (fun _ => False) w w5) := K4.out.trans hw5
  have G5 := Lib.hid hw5
  clear hw5
  try simp only [Act.put, List.setIfInBounds_toArray, List.set_cons_succ, List.set_cons_zero]
  refine wpList_plain rfl fun K hK => wp_store_one 50 .u32 (.tmp 60) (.tmp 59) rfl w.heap.size b rfl u5 rfl Try.underlying50 sz47 (Ar.fr A4.out G5.out (fun x => x)) (by rw [V4.out.1]; exact HP.out.2.1) (hK _ _ ?_)
  have A5 := Lib.hid ((Ar.fr A4.out G5.out (fun x => x)).set b u5)
  rw [HS5.out] at A5
  have Z5 := Lib.hid ((Ar.fr Z4.out G5.out (fun x => x)).far (a := ⟨w.heap.size, b, none⟩) (by show ¬ (w.heap.size + 1 + 1) = w.heap.size; omega) (.int .u32 u5))
  have K5 : Hid (Fr (fun _ => False) w (w5.setCell ⟨w.heap.size, b, none⟩ (.int .u32 u5))) := F5.out.setCell _ (.inr (Nat.le_refl _))
  generalize w5.setCell ⟨w.heap.size, b, none⟩ (.int .u32 u5) = Y5 at *
  clear A4 Z4 G5 F5 HS5 GP5 GR5 e5 CT5
  try simp only [Act.put, List.setIfInBounds_toArray, List.set_cons_succ, List.set_cons_zero]
  obtain ⟨p6, hp6⟩ : ∃ p, p = L5.getD a 0 := ⟨_, rfl⟩
  obtain ⟨r6, hr6⟩ : ∃ p, p = L5.getD b 0 := ⟨_, rfl⟩
  have gp6 := (V5.out.get HP.out.1)
  have gr6 := (V5.out.get HP.out.2.1)
  rw [← hp6] at gp6
  rw [← hr6] at gr6
  have GP6 := Lib.hid gp6
  have GR6 := Lib.hid gr6
  obtain ⟨s6, e6⟩ : ∃ s, IntKind.u32.wrap (p6 + r6) = s := ⟨_, rfl⟩
  obtain ⟨u6, f6⟩ : ∃ s, IntKind.u32.wrap (s6 + y) = s := ⟨_, rfl⟩
  obtain ⟨L6, hL6⟩ : ∃ l, l = sA L5 a b y := ⟨_, rfl⟩
  have HS6 : Hid (L5.set a u6 = L6) := by show _ = _; rw [hL6, ← f6, ← e6, wrap32, wrap32, hp6, hr6]; rfl
  have V6 : Hid (V16 L6) := by rw [hL6]; exact sA_ok V5.out _ _ _
  have HL6 := Lib.hid hL6
  clear hL6 hp6 hr6 gp6 gr6
  go_upto_region 6 with (fail)
  refine wp_region_quiet_tail (C := Calm Y5) 11 (by kernel_rfl) (by kernel_rfl) (Calm.start _ _ (Fr.refl _ _)) ?_
  simp only [List.take_succ_cons, List.take_zero, List.drop_succ_cons, List.drop_zero]
  refine BigFrame.wpQuiet_want rfl fun K hK => ?_
  try simp only [Act.put, List.setIfInBounds_toArray, List.set_cons_succ, List.set_cons_zero]
  go_big_quiet_op
  refine hK _ ?_
  refine BigFrame.wpQuiet_want rfl fun K hK => ?_
  try simp only [Act.put, List.setIfInBounds_toArray, List.set_cons_succ, List.set_cons_zero]
  go_big_quiet_op
  refine hK _ ?_
  refine BigFrame.wpQuiet_want rfl fun K hK => ?_
  try simp only [Act.put, List.setIfInBounds_toArray, List.set_cons_succ, List.set_cons_zero]
  go_big_quiet_op
  first
    | refine ⟨_, fun _ _ => rfl, hK _ ?_⟩
    | refine hK _ ?_
  refine BigFrame.wpQuiet_want rfl fun K hK => quiet_one 50 .u32 (.tmp 63) rfl w.heap.size (a) rfl p6 Try.underlying50 (fun _ h => (Ar.fr A5.out h (fun x => x)).cell GP6.out.1) (hK _ ?_)
  refine BigFrame.wpQuiet_want rfl fun K hK => ?_
  try simp only [Act.put, List.setIfInBounds_toArray, List.set_cons_succ, List.set_cons_zero]
  go_big_quiet_op
  refine hK _ ?_
  refine BigFrame.wpQuiet_want rfl fun K hK => ?_
  try simp only [Act.put, List.setIfInBounds_toArray, List.set_cons_succ, List.set_cons_zero]
  go_big_quiet_op
  first
    | refine ⟨_, fun _ _ => rfl, hK _ ?_⟩
    | refine hK _ ?_
  refine BigFrame.wpQuiet_want rfl fun K hK => quiet_one 50 .u32 (.tmp 66) rfl w.heap.size (b) rfl r6 Try.underlying50 (fun _ h => (Ar.fr A5.out h (fun x => x)).cell GR6.out.1) (hK _ ?_)
  refine BigFrame.wpQuiet_want rfl fun K hK => ?_
  try simp only [Act.put, List.setIfInBounds_toArray, List.set_cons_succ, List.set_cons_zero]
  go_big_quiet_op
  first
    | refine ⟨_, fun _ _ => rfl, hK _ ?_⟩
    | refine hK _ ?_
  refine BigFrame.wpQuiet_want rfl fun K hK => ?_
  try simp only [Act.put, List.setIfInBounds_toArray, List.set_cons_succ, List.set_cons_zero]
  go_big_quiet_op
  refine hK _ ?_
  refine BigFrame.wpQuiet_want rfl fun K hK => ?_
  try simp only [Act.put, List.setIfInBounds_toArray, List.set_cons_succ, List.set_cons_zero]
  go_big_quiet_op
  first
    | refine ⟨_, fun _ _ => rfl, hK _ ?_⟩
    | refine hK _ ?_
  refine BigFrame.wpQuiet_want rfl fun K hK => ?_
  try simp only [Act.put, List.setIfInBounds_toArray, List.set_cons_succ, List.set_cons_zero]
  go_big_quiet_op
  first
    | refine ⟨_, fun _ _ => rfl, hK _ ?_⟩
    | refine hK _ ?_
  refine wpQuiet_nil ?_
  intro w6 hw6
  have F6 : Hid (Fr (fun _ => False) w w6) := K5.out.trans hw6
  have G6 := Lib.hid hw6
  clear hw6
  try simp only [Act.put, List.setIfInBounds_toArray, List.set_cons_succ, List.set_cons_zero]
  refine wpList_plain rfl fun K hK => wp_store_one 50 .u32 (.tmp 71) (.tmp 70) rfl w.heap.size a rfl u6 rfl Try.underlying50 sz47 (Ar.fr A5.out G6.out (fun x => x)) (by rw [V5.out.1]; exact HP.out.1) (hK _ _ ?_)
  have A6 := Lib.hid ((Ar.fr A5.out G6.out (fun x => x)).set a u6)
  rw [HS6.out] at A6
  have Z6 := Lib.hid ((Ar.fr Z5.out G6.out (fun x => x)).far (a := ⟨w.heap.size, a, none⟩) (by show ¬ (w.heap.size + 1 + 1) = w.heap.size; omega) (.int .u32 u6))
  have K6 : Hid (Fr (fun _ => False) w (w6.setCell ⟨w.heap.size, a, none⟩ (.int .u32 u6))) := F6.out.setCell _ (.inr (Nat.le_refl _))
  generalize w6.setCell ⟨w.heap.size, a, none⟩ (.int .u32 u6) = Y6 at *
  clear A5 Z5 G6 F6 HS6 GP6 GR6 e6 f6
  try simp only [Act.put, List.setIfInBounds_toArray, List.set_cons_succ, List.set_cons_zero]
  obtain ⟨p7, hp7⟩ : ∃ p, p = L6.getD d 0 := ⟨_, rfl⟩
  obtain ⟨r7, hr7⟩ : ∃ p, p = L6.getD a 0 := ⟨_, rfl⟩
  have gp7 := (V6.out.get HP.out.2.2.2)
  have gr7 := (V6.out.get HP.out.1)
  rw [← hp7] at gp7
  rw [← hr7] at gr7
  have GP7 := Lib.hid gp7
  have GR7 := Lib.hid gr7
  obtain ⟨s7, e7⟩ : ∃ s, bits .xor .u32 p7 r7 = s := ⟨_, rfl⟩
  obtain ⟨u7, f7⟩ : ∃ s, s = tr 8 s7 := ⟨_, rfl⟩
  have ws7 : Hid (Wd s7) := by rw [← e7]; exact xr_wd gp7.2 gr7.2
  have CT7 : ∀ W, Calls Try.prog 55 #[.int .u32 s7, .int .i64 8] W fun e w' => e = .returned (.int .u32 u7) ∧ Fr (fun _ => False) W w' := fun W => by rw [f7]; exact rturn8 s7 ws7.out W
  obtain ⟨L7, hL7⟩ : ∃ l, l = sX 8 L6 d a := ⟨_, rfl⟩
  have HS7 : Hid (L6.set d u7 = L7) := by show _ = _; rw [hL7, f7, ← e7, hp7, hr7]; rfl
  have V7 : Hid (V16 L7) := by rw [hL7]; exact sX_ok (by simp [Tn]) V6.out HP.out.2.2.2 HP.out.1
  have HL7 := Lib.hid hL7
  clear hL7 hp7 hr7 gp7 gr7 f7 ws7
  go_upto_region 7 with (fail)
  refine wp_region_quiet_tail (C := Calm Y6) 10 (by kernel_rfl) (by kernel_rfl) (Calm.start _ _ (Fr.refl _ _)) ?_
  simp only [List.take_succ_cons, List.take_zero, List.drop_succ_cons, List.drop_zero]
  refine BigFrame.wpQuiet_want rfl fun K hK => ?_
  try simp only [Act.put, List.setIfInBounds_toArray, List.set_cons_succ, List.set_cons_zero]
  go_big_quiet_op
  refine hK _ ?_
  refine BigFrame.wpQuiet_want rfl fun K hK => ?_
  try simp only [Act.put, List.setIfInBounds_toArray, List.set_cons_succ, List.set_cons_zero]
  go_big_quiet_op
  refine hK _ ?_
  refine BigFrame.wpQuiet_want rfl fun K hK => ?_
  try simp only [Act.put, List.setIfInBounds_toArray, List.set_cons_succ, List.set_cons_zero]
  go_big_quiet_op
  first
    | refine ⟨_, fun _ _ => rfl, hK _ ?_⟩
    | refine hK _ ?_
  refine BigFrame.wpQuiet_want rfl fun K hK => quiet_one 50 .u32 (.tmp 74) rfl w.heap.size (d) rfl p7 Try.underlying50 (fun _ h => (Ar.fr A6.out h (fun x => x)).cell GP7.out.1) (hK _ ?_)
  refine BigFrame.wpQuiet_want rfl fun K hK => ?_
  try simp only [Act.put, List.setIfInBounds_toArray, List.set_cons_succ, List.set_cons_zero]
  go_big_quiet_op
  refine hK _ ?_
  refine BigFrame.wpQuiet_want rfl fun K hK => ?_
  try simp only [Act.put, List.setIfInBounds_toArray, List.set_cons_succ, List.set_cons_zero]
  go_big_quiet_op
  first
    | refine ⟨_, fun _ _ => rfl, hK _ ?_⟩
    | refine hK _ ?_
  refine BigFrame.wpQuiet_want rfl fun K hK => quiet_one 50 .u32 (.tmp 77) rfl w.heap.size (a) rfl r7 Try.underlying50 (fun _ h => (Ar.fr A6.out h (fun x => x)).cell GR7.out.1) (hK _ ?_)
  refine BigFrame.wpQuiet_want rfl fun K hK => ?_
  try simp only [Act.put, List.setIfInBounds_toArray, List.set_cons_succ, List.set_cons_zero]
  go_big_quiet_op
  first
    | refine ⟨_, fun _ _ => rfl, hK _ ?_⟩
    | refine hK _ ?_
  refine BigFrame.wpQuiet_want rfl fun K hK => ?_
  try simp only [Act.put, List.setIfInBounds_toArray, List.set_cons_succ, List.set_cons_zero]
  go_big_quiet_op
  refine ⟨_, Calm.calls CT7, hK _ ?_⟩
  refine BigFrame.wpQuiet_want rfl fun K hK => ?_
  try simp only [Act.put, List.setIfInBounds_toArray, List.set_cons_succ, List.set_cons_zero]
  go_big_quiet_op
  first
    | refine ⟨_, fun _ _ => rfl, hK _ ?_⟩
    | refine hK _ ?_
  refine wpQuiet_nil ?_
  intro w7 hw7
  have F7 : Hid (Fr (fun _ => False) w w7) := K6.out.trans hw7
  have G7 := Lib.hid hw7
  clear hw7
  try simp only [Act.put, List.setIfInBounds_toArray, List.set_cons_succ, List.set_cons_zero]
  refine wpList_plain rfl fun K hK => wp_store_one 50 .u32 (.tmp 81) (.tmp 80) rfl w.heap.size d rfl u7 rfl Try.underlying50 sz47 (Ar.fr A6.out G7.out (fun x => x)) (by rw [V6.out.1]; exact HP.out.2.2.2) (hK _ _ ?_)
  have A7 := Lib.hid ((Ar.fr A6.out G7.out (fun x => x)).set d u7)
  rw [HS7.out] at A7
  have Z7 := Lib.hid ((Ar.fr Z6.out G7.out (fun x => x)).far (a := ⟨w.heap.size, d, none⟩) (by show ¬ (w.heap.size + 1 + 1) = w.heap.size; omega) (.int .u32 u7))
  have K7 : Hid (Fr (fun _ => False) w (w7.setCell ⟨w.heap.size, d, none⟩ (.int .u32 u7))) := F7.out.setCell _ (.inr (Nat.le_refl _))
  generalize w7.setCell ⟨w.heap.size, d, none⟩ (.int .u32 u7) = Y7 at *
  clear A6 Z6 G7 F7 HS7 GP7 GR7 e7 CT7
  try simp only [Act.put, List.setIfInBounds_toArray, List.set_cons_succ, List.set_cons_zero]
  obtain ⟨p8, hp8⟩ : ∃ p, p = L7.getD c 0 := ⟨_, rfl⟩
  obtain ⟨r8, hr8⟩ : ∃ p, p = L7.getD d 0 := ⟨_, rfl⟩
  have gp8 := (V7.out.get HP.out.2.2.1)
  have gr8 := (V7.out.get HP.out.2.2.2)
  rw [← hp8] at gp8
  rw [← hr8] at gr8
  have GP8 := Lib.hid gp8
  have GR8 := Lib.hid gr8
  obtain ⟨u8, e8⟩ : ∃ s, IntKind.u32.wrap (p8 + r8) = s := ⟨_, rfl⟩
  obtain ⟨L8, hL8⟩ : ∃ l, l = sC L7 c d := ⟨_, rfl⟩
  have HS8 : Hid (L7.set c u8 = L8) := by show _ = _; rw [hL8, ← e8, wrap32, hp8, hr8]; rfl
  have V8 : Hid (V16 L8) := by rw [hL8]; exact sC_ok V7.out _ _
  have HL8 := Lib.hid hL8
  clear hL8 hp8 hr8 gp8 gr8
  go_upto_region 8 with (fail)
  refine wp_region_quiet_tail (C := Calm Y7) 9 (by kernel_rfl) (by kernel_rfl) (Calm.start _ _ (Fr.refl _ _)) ?_
  simp only [List.take_succ_cons, List.take_zero, List.drop_succ_cons, List.drop_zero]
  refine BigFrame.wpQuiet_want rfl fun K hK => ?_
  try simp only [Act.put, List.setIfInBounds_toArray, List.set_cons_succ, List.set_cons_zero]
  go_big_quiet_op
  refine hK _ ?_
  refine BigFrame.wpQuiet_want rfl fun K hK => ?_
  try simp only [Act.put, List.setIfInBounds_toArray, List.set_cons_succ, List.set_cons_zero]
  go_big_quiet_op
  refine hK _ ?_
  refine BigFrame.wpQuiet_want rfl fun K hK => ?_
  try simp only [Act.put, List.setIfInBounds_toArray, List.set_cons_succ, List.set_cons_zero]
  go_big_quiet_op
  first
    | refine ⟨_, fun _ _ => rfl, hK _ ?_⟩
    | refine hK _ ?_
  refine BigFrame.wpQuiet_want rfl fun K hK => quiet_one 50 .u32 (.tmp 84) rfl w.heap.size (c) rfl p8 Try.underlying50 (fun _ h => (Ar.fr A7.out h (fun x => x)).cell GP8.out.1) (hK _ ?_)
  refine BigFrame.wpQuiet_want rfl fun K hK => ?_
  try simp only [Act.put, List.setIfInBounds_toArray, List.set_cons_succ, List.set_cons_zero]
  go_big_quiet_op
  refine hK _ ?_
  refine BigFrame.wpQuiet_want rfl fun K hK => ?_
  try simp only [Act.put, List.setIfInBounds_toArray, List.set_cons_succ, List.set_cons_zero]
  go_big_quiet_op
  first
    | refine ⟨_, fun _ _ => rfl, hK _ ?_⟩
    | refine hK _ ?_
  refine BigFrame.wpQuiet_want rfl fun K hK => quiet_one 50 .u32 (.tmp 87) rfl w.heap.size (d) rfl r8 Try.underlying50 (fun _ h => (Ar.fr A7.out h (fun x => x)).cell GR8.out.1) (hK _ ?_)
  refine BigFrame.wpQuiet_want rfl fun K hK => ?_
  try simp only [Act.put, List.setIfInBounds_toArray, List.set_cons_succ, List.set_cons_zero]
  go_big_quiet_op
  first
    | refine ⟨_, fun _ _ => rfl, hK _ ?_⟩
    | refine hK _ ?_
  refine BigFrame.wpQuiet_want rfl fun K hK => ?_
  try simp only [Act.put, List.setIfInBounds_toArray, List.set_cons_succ, List.set_cons_zero]
  go_big_quiet_op
  first
    | refine ⟨_, fun _ _ => rfl, hK _ ?_⟩
    | refine hK _ ?_
  refine wpQuiet_nil ?_
  intro w8 hw8
  have F8 : Hid (Fr (fun _ => False) w w8) := K7.out.trans hw8
  have G8 := Lib.hid hw8
  clear hw8
  try simp only [Act.put, List.setIfInBounds_toArray, List.set_cons_succ, List.set_cons_zero]
  refine wpList_plain rfl fun K hK => wp_store_one 50 .u32 (.tmp 90) (.tmp 89) rfl w.heap.size c rfl u8 rfl Try.underlying50 sz47 (Ar.fr A7.out G8.out (fun x => x)) (by rw [V7.out.1]; exact HP.out.2.2.1) (hK _ _ ?_)
  have A8 := Lib.hid ((Ar.fr A7.out G8.out (fun x => x)).set c u8)
  rw [HS8.out] at A8
  have Z8 := Lib.hid ((Ar.fr Z7.out G8.out (fun x => x)).far (a := ⟨w.heap.size, c, none⟩) (by show ¬ (w.heap.size + 1 + 1) = w.heap.size; omega) (.int .u32 u8))
  have K8 : Hid (Fr (fun _ => False) w (w8.setCell ⟨w.heap.size, c, none⟩ (.int .u32 u8))) := F8.out.setCell _ (.inr (Nat.le_refl _))
  generalize w8.setCell ⟨w.heap.size, c, none⟩ (.int .u32 u8) = Y8 at *
  clear A7 Z7 G8 F8 HS8 GP8 GR8 e8
  try simp only [Act.put, List.setIfInBounds_toArray, List.set_cons_succ, List.set_cons_zero]
  obtain ⟨p9, hp9⟩ : ∃ p, p = L8.getD b 0 := ⟨_, rfl⟩
  obtain ⟨r9, hr9⟩ : ∃ p, p = L8.getD c 0 := ⟨_, rfl⟩
  have gp9 := (V8.out.get HP.out.2.1)
  have gr9 := (V8.out.get HP.out.2.2.1)
  rw [← hp9] at gp9
  rw [← hr9] at gr9
  have GP9 := Lib.hid gp9
  have GR9 := Lib.hid gr9
  obtain ⟨s9, e9⟩ : ∃ s, bits .xor .u32 p9 r9 = s := ⟨_, rfl⟩
  obtain ⟨u9, f9⟩ : ∃ s, s = tr 7 s9 := ⟨_, rfl⟩
  have ws9 : Hid (Wd s9) := by rw [← e9]; exact xr_wd gp9.2 gr9.2
  have CT9 : ∀ W, Calls Try.prog 55 #[.int .u32 s9, .int .i64 7] W fun e w' => e = .returned (.int .u32 u9) ∧ Fr (fun _ => False) W w' := fun W => by rw [f9]; exact rturn7 s9 ws9.out W
  obtain ⟨L9, hL9⟩ : ∃ l, l = sX 7 L8 b c := ⟨_, rfl⟩
  have HS9 : Hid (L8.set b u9 = L9) := by show _ = _; rw [hL9, f9, ← e9, hp9, hr9]; rfl
  have V9 : Hid (V16 L9) := by rw [hL9]; exact sX_ok (by simp [Tn]) V8.out HP.out.2.1 HP.out.2.2.1
  have HL9 := Lib.hid hL9
  clear hL9 hp9 hr9 gp9 gr9 f9 ws9
  go_upto_region 9 with (fail)
  refine wp_region_quiet_tail (C := Calm Y8) 10 (by kernel_rfl) (by kernel_rfl) (Calm.start _ _ (Fr.refl _ _)) ?_
  simp only [List.take_succ_cons, List.take_zero, List.drop_succ_cons, List.drop_zero]
  refine BigFrame.wpQuiet_want rfl fun K hK => ?_
  try simp only [Act.put, List.setIfInBounds_toArray, List.set_cons_succ, List.set_cons_zero]
  go_big_quiet_op
  refine hK _ ?_
  refine BigFrame.wpQuiet_want rfl fun K hK => ?_
  try simp only [Act.put, List.setIfInBounds_toArray, List.set_cons_succ, List.set_cons_zero]
  go_big_quiet_op
  refine hK _ ?_
  refine BigFrame.wpQuiet_want rfl fun K hK => ?_
  try simp only [Act.put, List.setIfInBounds_toArray, List.set_cons_succ, List.set_cons_zero]
  go_big_quiet_op
  first
    | refine ⟨_, fun _ _ => rfl, hK _ ?_⟩
    | refine hK _ ?_
  refine BigFrame.wpQuiet_want rfl fun K hK => quiet_one 50 .u32 (.tmp 93) rfl w.heap.size (b) rfl p9 Try.underlying50 (fun _ h => (Ar.fr A8.out h (fun x => x)).cell GP9.out.1) (hK _ ?_)
  refine BigFrame.wpQuiet_want rfl fun K hK => ?_
  try simp only [Act.put, List.setIfInBounds_toArray, List.set_cons_succ, List.set_cons_zero]
  go_big_quiet_op
  refine hK _ ?_
  refine BigFrame.wpQuiet_want rfl fun K hK => ?_
  try simp only [Act.put, List.setIfInBounds_toArray, List.set_cons_succ, List.set_cons_zero]
  go_big_quiet_op
  first
    | refine ⟨_, fun _ _ => rfl, hK _ ?_⟩
    | refine hK _ ?_
  refine BigFrame.wpQuiet_want rfl fun K hK => quiet_one 50 .u32 (.tmp 96) rfl w.heap.size (c) rfl r9 Try.underlying50 (fun _ h => (Ar.fr A8.out h (fun x => x)).cell GR9.out.1) (hK _ ?_)
  refine BigFrame.wpQuiet_want rfl fun K hK => ?_
  try simp only [Act.put, List.setIfInBounds_toArray, List.set_cons_succ, List.set_cons_zero]
  go_big_quiet_op
  first
    | refine ⟨_, fun _ _ => rfl, hK _ ?_⟩
    | refine hK _ ?_
  refine BigFrame.wpQuiet_want rfl fun K hK => ?_
  try simp only [Act.put, List.setIfInBounds_toArray, List.set_cons_succ, List.set_cons_zero]
  go_big_quiet_op
  refine ⟨_, Calm.calls CT9, hK _ ?_⟩
  refine BigFrame.wpQuiet_want rfl fun K hK => ?_
  try simp only [Act.put, List.setIfInBounds_toArray, List.set_cons_succ, List.set_cons_zero]
  go_big_quiet_op
  first
    | refine ⟨_, fun _ _ => rfl, hK _ ?_⟩
    | refine hK _ ?_
  refine wpQuiet_nil ?_
  intro w9 hw9
  have F9 : Hid (Fr (fun _ => False) w w9) := K8.out.trans hw9
  have G9 := Lib.hid hw9
  clear hw9
  try simp only [Act.put, List.setIfInBounds_toArray, List.set_cons_succ, List.set_cons_zero]
  refine wpList_plain rfl fun K hK => wp_store_one 50 .u32 (.tmp 100) (.tmp 99) rfl w.heap.size b rfl u9 rfl Try.underlying50 sz47 (Ar.fr A8.out G9.out (fun x => x)) (by rw [V8.out.1]; exact HP.out.2.1) (hK _ _ ?_)
  have A9 := Lib.hid ((Ar.fr A8.out G9.out (fun x => x)).set b u9)
  rw [HS9.out] at A9
  have Z9 := Lib.hid ((Ar.fr Z8.out G9.out (fun x => x)).far (a := ⟨w.heap.size, b, none⟩) (by show ¬ (w.heap.size + 1 + 1) = w.heap.size; omega) (.int .u32 u9))
  have K9 : Hid (Fr (fun _ => False) w (w9.setCell ⟨w.heap.size, b, none⟩ (.int .u32 u9))) := F9.out.setCell _ (.inr (Nat.le_refl _))
  generalize w9.setCell ⟨w.heap.size, b, none⟩ (.int .u32 u9) = Y9 at *
  clear A8 Z8 G9 F9 HS9 GP9 GR9 e9 CT9
  try simp only [Act.put, List.setIfInBounds_toArray, List.set_cons_succ, List.set_cons_zero]
  have HE : Hid (L9 = R) := by
    show _ = _
    rw [HR.out, HL9.out, HL8.out, HL7.out, HL6.out, HL5.out, HL4.out, HL3.out, HL2.out]
    rfl
  have s1 : Hid ((Try.prog.info? 69).map (·.size) = some (vs .u32 L9).size) := by show _ = _; rw [sz59, vs_size, V9.out.1]
  have e0 : Hid ((vs .u32 Z).size = (vs .u32 L9).size) := by show _ = _; rw [vs_size, vs_size, lZ.out, V9.out.1]
  clear HL9 HL8 HL7 HL6 HL5 HL4 HL3 HL2
  go_wp2_with (first
    | refine wpList_load_row rfl 69 (.tmp 4) rfl (w.heap.size) rfl 69 (vs .u32 L9) (0, 0) _ A9.out Try.underlying69 rfl s1.out ?_
    | refine wpList_store_row rfl 69 (.tmp 8) (.tmp 101) rfl (w.heap.size + 1 + 1) (vs .u32 L9) rfl rfl 69 _ Z9.out s1.out e0.out (vs_all _ _) ?_)
  refine bodyPost_ret (results_cell_row Try.results50 _ _ _ 69 _ (0, 0) _ rfl (setRow_heap _ _ _ _ _ _ Z9.out) Try.underlying69 rfl s1.out) rfl ⟨by rw [HE.out], K9.out.setRow _ (.inr (by omega))⟩
end Go.Proofs.Ytebknlhooijkcaa
