/- The reference's tables: contracts, no condition. -/
import Derived.Test.YtebknlhooijkcaaZm
namespace Go.Proofs.Ytebknlhooijkcaa
set_option linter.unusedSimpArgs false
set_option linter.unusedVariables false
open Go.ChangeShapes Go.WideShapes Go.ChangeAt Go.RowKit


def oti : List Int := [0, 1, 2, 3, 4, 5, 6, 7, 8, 9, 10, 11, 12, 13, 14, 15, 14, 10, 4, 8, 9, 15, 13, 6, 1, 12, 0, 2, 11, 7, 5, 3, 11, 8, 12, 0, 5, 2, 15, 13, 10, 14, 3, 6, 7, 1, 9, 4, 7, 9, 3, 1, 13, 12, 11, 14, 2, 6, 5, 10, 4, 0, 15, 8, 9, 0, 5, 7, 2, 4, 10, 15, 14, 1, 11, 12, 6, 8, 3, 13, 2, 12, 6, 10, 0, 11, 8, 3, 4, 13, 7, 5, 15, 14, 1, 9, 12, 5, 1, 15, 14, 13, 4, 10, 0, 7, 6, 3, 9, 2, 8, 11, 13, 11, 7, 14, 12, 1, 3, 9, 5, 0, 15, 4, 8, 6, 2, 10, 6, 15, 14, 9, 11, 3, 0, 8, 12, 2, 13, 7, 1, 4, 10, 5, 10, 2, 8, 4, 7, 6, 1, 5, 15, 11, 9, 14, 3, 12, 13, 0]
def pti : List Int := [0, 4, 8, 12, 1, 5, 9, 13, 2, 6, 10, 14, 3, 7, 11, 15, 0, 5, 10, 15, 1, 6, 11, 12, 2, 7, 8, 13, 3, 4, 9, 14]
theorem oti_get (i : Nat) (h : i < 160) : oti[i]? = some (ot i : Int) := (by decide : ∀ i, i < 160 → oti[i]? = some (ot i : Int)) i h
theorem pti_get (i : Nat) (h : i < 32) : pti[i]? = some (pt i : Int) := (by decide : ∀ i, i < 32 → pti[i]? = some (pt i : Int)) i h
theorem sz48 : (Try.prog.info? 51).map (·.size) = some 8 := by kernel_rfl
theorem sz64p : (Try.prog.info? 76).map (·.size) = some 32 := by kernel_rfl
theorem sz61 : (Try.prog.info? 73).map (·.size) = some 160 := by kernel_rfl
theorem zero48 : ∀ W : World, (zeroValue 51).run Try.prog W = .ok (.agg (vs .u32 (List.replicate 8 0))) W := fun _ => by kernel_rfl
theorem zero64p : ∀ W : World, (zeroValue 76).run Try.prog W = .ok (.agg (vs .i64 (List.replicate 32 0))) W := fun _ => by kernel_rfl
theorem zero61 : ∀ W : World, (zeroValue 73).run Try.prog W = .ok (.agg (vs .i64 (List.replicate 160 0))) W := fun _ => by kernel_rfl
set_option maxRecDepth 100000 in
set_option maxHeartbeats 4000000 in
theorem rstarts_is (w : World) : Calls Try.prog 41 #[] w fun e w' => e = .returned (.agg (vs .u32 iv)) ∧ Fr (fun _ => False) w w' := by
  obtain ⟨Z, hZ⟩ : ∃ Z, Z = List.replicate 8 (0 : Int) := ⟨_, rfl⟩
  have hz : ∀ W : World, (zeroValue 51).run Try.prog W = .ok (.agg (vs .u32 Z)) W := fun W => by rw [hZ]; exact zero48 W
  have lZ : Hid (Z.length = 8) := by show _ = _; rw [hZ]; rfl
  clear hZ
  obtain ⟨V, hV⟩ : ∃ V, V = iv := ⟨_, rfl⟩
  have lV : Hid (V.length = 8) := by show _ = _; rw [hV]; rfl
  have HV := Lib.hid hV
  have s1 : Hid ((Try.prog.info? 51).map (·.size) = some (vs .u32 V).size) := by show _ = _; rw [sz48, vs_size, lV.out]
  have e0 : Hid ((vs .u32 Z).size = (vs .u32 V).size) := by show _ = _; rw [vs_size, vs_size, lZ.out, lV.out]
  rw [← hV]
  clear hV
  go_enter Try.func41, Try.ntmps41
  go_upto_region 1 with (fail)
  generalize hW : w.alloc (.cells (vs .u32 Z) 51) = W0
  have HW := Lib.hid (calm1a hW)
  clear hW hz
  have R0 : Hid (Ar W0 w.heap.size 51 .u32 Z) := HW.out.1
  have F0 : Hid (Fr (fun _ => False) w W0) := HW.out.2
  clear HW
  refine wp_region_head (C := Calm W0) 1 (Fr.refl _ _) ?_
  simp only [List.take_succ_cons, List.take_zero, List.drop_succ_cons, List.drop_zero]
  refine BigFrame.wpQuiet_want rfl fun K hK => quiet_run (.agg (vs .u32 V)) (fun W _ => by rw [HV.out]; kernel_rfl) (hK _ ?_)
  refine wpQuiet_nil ?_
  intro w9 hw9
  have F9 : Hid (Fr (fun _ => False) w w9) := F0.out.trans hw9
  have G9 := Lib.hid hw9
  clear hw9
  try simp only [Act.put, List.setIfInBounds_toArray, List.set_cons_succ, List.set_cons_zero]
  go_wp2_with (refine wpList_store_row rfl 51 (.tmp 0) (.tmp 1) rfl (w.heap.size) (vs .u32 V) rfl rfl 51 _ (Ar.fr R0.out G9.out (fun x => x)) s1.out e0.out (vs_all _ _) ?_)
  refine bodyPost_ret (results_cell_row Try.results41 _ _ _ 51 _ (0, 0) _ rfl (setRow_heap _ _ _ _ _ _ (Ar.fr R0.out G9.out (fun x => x))) Try.underlying51 rfl s1.out) rfl ⟨rfl, F9.out.setRow _ (.inr (Nat.le_refl _))⟩
set_option maxRecDepth 100000 in
set_option maxHeartbeats 4000000 in
theorem rplaces_is (w : World) : Calls Try.prog 49 #[] w fun e w' => e = .returned (.agg (vs .i64 pti)) ∧ Fr (fun _ => False) w w' := by
  obtain ⟨Z, hZ⟩ : ∃ Z, Z = List.replicate 32 (0 : Int) := ⟨_, rfl⟩
  have hz : ∀ W : World, (zeroValue 76).run Try.prog W = .ok (.agg (vs .i64 Z)) W := fun W => by rw [hZ]; exact zero64p W
  have lZ : Hid (Z.length = 32) := by show _ = _; rw [hZ]; rfl
  clear hZ
  obtain ⟨V, hV⟩ : ∃ V, V = pti := ⟨_, rfl⟩
  have lV : Hid (V.length = 32) := by show _ = _; rw [hV]; rfl
  have HV := Lib.hid hV
  have s1 : Hid ((Try.prog.info? 76).map (·.size) = some (vs .i64 V).size) := by show _ = _; rw [sz64p, vs_size, lV.out]
  have e0 : Hid ((vs .i64 Z).size = (vs .i64 V).size) := by show _ = _; rw [vs_size, vs_size, lZ.out, lV.out]
  rw [← hV]
  clear hV
  go_enter Try.func49, Try.ntmps49
  go_upto_region 1 with (fail)
  generalize hW : w.alloc (.cells (vs .i64 Z) 76) = W0
  have HW := Lib.hid (calm1a hW)
  clear hW hz
  have R0 : Hid (Ar W0 w.heap.size 76 .i64 Z) := HW.out.1
  have F0 : Hid (Fr (fun _ => False) w W0) := HW.out.2
  clear HW
  refine wp_region_head (C := Calm W0) 9 (Fr.refl _ _) ?_
  simp only [List.take_succ_cons, List.take_zero, List.drop_succ_cons, List.drop_zero]
  refine BigFrame.wpQuiet_want rfl fun K hK => quiet_run (.agg (vs .i64 [0, 4, 8, 12])) (fun W _ => by kernel_rfl) (hK _ ?_)
  refine BigFrame.wpQuiet_want rfl fun K hK => quiet_run (.agg (vs .i64 [1, 5, 9, 13])) (fun W _ => by kernel_rfl) (hK _ ?_)
  refine BigFrame.wpQuiet_want rfl fun K hK => quiet_run (.agg (vs .i64 [2, 6, 10, 14])) (fun W _ => by kernel_rfl) (hK _ ?_)
  refine BigFrame.wpQuiet_want rfl fun K hK => quiet_run (.agg (vs .i64 [3, 7, 11, 15])) (fun W _ => by kernel_rfl) (hK _ ?_)
  refine BigFrame.wpQuiet_want rfl fun K hK => quiet_run (.agg (vs .i64 [0, 5, 10, 15])) (fun W _ => by kernel_rfl) (hK _ ?_)
  refine BigFrame.wpQuiet_want rfl fun K hK => quiet_run (.agg (vs .i64 [1, 6, 11, 12])) (fun W _ => by kernel_rfl) (hK _ ?_)
  refine BigFrame.wpQuiet_want rfl fun K hK => quiet_run (.agg (vs .i64 [2, 7, 8, 13])) (fun W _ => by kernel_rfl) (hK _ ?_)
  refine BigFrame.wpQuiet_want rfl fun K hK => quiet_run (.agg (vs .i64 [3, 4, 9, 14])) (fun W _ => by kernel_rfl) (hK _ ?_)
  refine BigFrame.wpQuiet_want rfl fun K hK => quiet_run (.agg (vs .i64 V)) (fun W _ => by rw [HV.out]; kernel_rfl) (hK _ ?_)
  refine wpQuiet_nil ?_
  intro w9 hw9
  have F9 : Hid (Fr (fun _ => False) w w9) := F0.out.trans hw9
  have G9 := Lib.hid hw9
  clear hw9
  try simp only [Act.put, List.setIfInBounds_toArray, List.set_cons_succ, List.set_cons_zero]
  go_wp2_with (refine wpList_store_row rfl 76 (.tmp 0) (.tmp 9) rfl (w.heap.size) (vs .i64 V) rfl rfl 76 _ (Ar.fr R0.out G9.out (fun x => x)) s1.out e0.out (vs_all _ _) ?_)
  refine bodyPost_ret (results_cell_row Try.results49 _ _ _ 76 _ (0, 0) _ rfl (setRow_heap _ _ _ _ _ _ (Ar.fr R0.out G9.out (fun x => x))) Try.underlying76 rfl s1.out) rfl ⟨rfl, F9.out.setRow _ (.inr (Nat.le_refl _))⟩
set_option maxRecDepth 100000 in
set_option maxHeartbeats 4000000 in
theorem rorders_is (w : World) : Calls Try.prog 48 #[] w fun e w' => e = .returned (.agg (vs .i64 oti)) ∧ Fr (fun _ => False) w w' := by
  obtain ⟨Z, hZ⟩ : ∃ Z, Z = List.replicate 160 (0 : Int) := ⟨_, rfl⟩
  have hz : ∀ W : World, (zeroValue 73).run Try.prog W = .ok (.agg (vs .i64 Z)) W := fun W => by rw [hZ]; exact zero61 W
  have lZ : Hid (Z.length = 160) := by show _ = _; rw [hZ]; rfl
  clear hZ
  obtain ⟨V, hV⟩ : ∃ V, V = oti := ⟨_, rfl⟩
  have lV : Hid (V.length = 160) := by show _ = _; rw [hV]; rfl
  have HV := Lib.hid hV
  have s1 : Hid ((Try.prog.info? 73).map (·.size) = some (vs .i64 V).size) := by show _ = _; rw [sz61, vs_size, lV.out]
  have e0 : Hid ((vs .i64 Z).size = (vs .i64 V).size) := by show _ = _; rw [vs_size, vs_size, lZ.out, lV.out]
  rw [← hV]
  clear hV
  go_enter Try.func48, Try.ntmps48
  go_upto_region 1 with (fail)
  generalize hW : w.alloc (.cells (vs .i64 Z) 73) = W0
  have HW := Lib.hid (calm1a hW)
  clear hW hz
  have R0 : Hid (Ar W0 w.heap.size 73 .i64 Z) := HW.out.1
  have F0 : Hid (Fr (fun _ => False) w W0) := HW.out.2
  clear HW
  refine wp_region_head (C := Calm W0) 11 (Fr.refl _ _) ?_
  simp only [List.take_succ_cons, List.take_zero, List.drop_succ_cons, List.drop_zero]
  refine BigFrame.wpQuiet_want rfl fun K hK => quiet_run (.agg (vs .i64 [0, 1, 2, 3, 4, 5, 6, 7, 8, 9, 10, 11, 12, 13, 14, 15])) (fun W _ => by kernel_rfl) (hK _ ?_)
  refine BigFrame.wpQuiet_want rfl fun K hK => quiet_run (.agg (vs .i64 [14, 10, 4, 8, 9, 15, 13, 6, 1, 12, 0, 2, 11, 7, 5, 3])) (fun W _ => by kernel_rfl) (hK _ ?_)
  refine BigFrame.wpQuiet_want rfl fun K hK => quiet_run (.agg (vs .i64 [11, 8, 12, 0, 5, 2, 15, 13, 10, 14, 3, 6, 7, 1, 9, 4])) (fun W _ => by kernel_rfl) (hK _ ?_)
  refine BigFrame.wpQuiet_want rfl fun K hK => quiet_run (.agg (vs .i64 [7, 9, 3, 1, 13, 12, 11, 14, 2, 6, 5, 10, 4, 0, 15, 8])) (fun W _ => by kernel_rfl) (hK _ ?_)
  refine BigFrame.wpQuiet_want rfl fun K hK => quiet_run (.agg (vs .i64 [9, 0, 5, 7, 2, 4, 10, 15, 14, 1, 11, 12, 6, 8, 3, 13])) (fun W _ => by kernel_rfl) (hK _ ?_)
  refine BigFrame.wpQuiet_want rfl fun K hK => quiet_run (.agg (vs .i64 [2, 12, 6, 10, 0, 11, 8, 3, 4, 13, 7, 5, 15, 14, 1, 9])) (fun W _ => by kernel_rfl) (hK _ ?_)
  refine BigFrame.wpQuiet_want rfl fun K hK => quiet_run (.agg (vs .i64 [12, 5, 1, 15, 14, 13, 4, 10, 0, 7, 6, 3, 9, 2, 8, 11])) (fun W _ => by kernel_rfl) (hK _ ?_)
  refine BigFrame.wpQuiet_want rfl fun K hK => quiet_run (.agg (vs .i64 [13, 11, 7, 14, 12, 1, 3, 9, 5, 0, 15, 4, 8, 6, 2, 10])) (fun W _ => by kernel_rfl) (hK _ ?_)
  refine BigFrame.wpQuiet_want rfl fun K hK => quiet_run (.agg (vs .i64 [6, 15, 14, 9, 11, 3, 0, 8, 12, 2, 13, 7, 1, 4, 10, 5])) (fun W _ => by kernel_rfl) (hK _ ?_)
  refine BigFrame.wpQuiet_want rfl fun K hK => quiet_run (.agg (vs .i64 [10, 2, 8, 4, 7, 6, 1, 5, 15, 11, 9, 14, 3, 12, 13, 0])) (fun W _ => by kernel_rfl) (hK _ ?_)
  refine BigFrame.wpQuiet_want rfl fun K hK => quiet_run (.agg (vs .i64 V)) (fun W _ => by rw [HV.out]; kernel_rfl) (hK _ ?_)
  refine wpQuiet_nil ?_
  intro w9 hw9
  have F9 : Hid (Fr (fun _ => False) w w9) := F0.out.trans hw9
  have G9 := Lib.hid hw9
  clear hw9
  try simp only [Act.put, List.setIfInBounds_toArray, List.set_cons_succ, List.set_cons_zero]
  go_wp2_with (refine wpList_store_row rfl 73 (.tmp 0) (.tmp 11) rfl (w.heap.size) (vs .i64 V) rfl rfl 73 _ (Ar.fr R0.out G9.out (fun x => x)) s1.out e0.out (vs_all _ _) ?_)
  refine bodyPost_ret (results_cell_row Try.results48 _ _ _ 73 _ (0, 0) _ rfl (setRow_heap _ _ _ _ _ _ (Ar.fr R0.out G9.out (fun x => x))) Try.underlying73 rfl s1.out) rfl ⟨rfl, F9.out.setRow _ (.inr (Nat.le_refl _))⟩
end Go.Proofs.Ytebknlhooijkcaa
