/- The reference's number and places: contracts. Conditions: bytes, the place within them. -/
import Derived.Test.YtnagnolbomcnjaaBk64
namespace Go.Proofs.Ytnagnolbomcnjaa
set_option linter.unusedSimpArgs false
set_option linter.unusedVariables false
open Go.RowKit


set_option maxHeartbeats 2000000 in
theorem rnumber_is (g m i : Nat) (t : TypeId) (l : List Int) (w : World) (h : Ar w g t .u8 l) (hl : l.length = m) (bl : Bys l) (hi : i + 3 < m) (hm : m ≤ 64) :
    Calls Try.prog 28 #[.slice (some ⟨g, 0, none⟩) m m, .int .i64 i] w fun e w' => e = .returned (.int .u32 (nb (l.getD i 0) (l.getD (i + 1) 0) (l.getD (i + 2) 0) (l.getD (i + 3) 0))) ∧ Fr (fun _ => False) w w' := by
  obtain ⟨b0, hb0⟩ : ∃ b, b = l.getD i 0 := ⟨_, rfl⟩
  obtain ⟨b1, hb1⟩ : ∃ b, b = l.getD (i + 1) 0 := ⟨_, rfl⟩
  obtain ⟨b2, hb2⟩ : ∃ b, b = l.getD (i + 2) 0 := ⟨_, rfl⟩
  obtain ⟨b3, hb3⟩ : ∃ b, b = l.getD (i + 3) 0 := ⟨_, rfl⟩
  have g0 := getD_some (l := l) (i := i) (by omega)
  have g1 := getD_some (l := l) (i := i + 1) (by omega)
  have g2 := getD_some (l := l) (i := i + 2) (by omega)
  have g3 := getD_some (l := l) (i := i + 3) (by omega)
  rw [← hb0] at g0
  rw [← hb1] at g1
  rw [← hb2] at g2
  rw [← hb3] at g3
  rw [← hb0, ← hb1, ← hb2, ← hb3]
  have y0 := bl b0 (List.mem_of_getElem? g0)
  have y1 := bl b1 (List.mem_of_getElem? g1)
  have y2 := bl b2 (List.mem_of_getElem? g2)
  have y3 := bl b3 (List.mem_of_getElem? g3)
  have k0 := Ar.cell h g0
  have k1 := Ar.cell h g1
  have k2 := Ar.cell h g2
  have k3 := Ar.cell h g3
  have w0 : IntKind.u32.wrap b0 = b0 := by rw [wrap32]; omega
  have w1 : IntKind.u32.wrap b1 = b1 := by rw [wrap32]; omega
  have w2 : IntKind.u32.wrap b2 = b2 := by rw [wrap32]; omega
  have w3 : IntKind.u32.wrap b3 = b3 := by rw [wrap32]; omega
  have v1 : IntKind.u32.wrap (b1 * 256) = b1 * 256 := by rw [wrap32]; omega
  have v2 : IntKind.u32.wrap (b2 * 65536) = b2 * 65536 := by rw [wrap32]; omega
  have v3 : IntKind.u32.wrap (b3 * 16777216) = b3 * 16777216 := by rw [wrap32]; omega
  have u1 : IntKind.u32.wrap (b0 + b1 * 256) = b0 + b1 * 256 := by rw [wrap32]; omega
  have u2 : IntKind.u32.wrap (b0 + b1 * 256 + b2 * 65536) = b0 + b1 * 256 + b2 * 65536 := by rw [wrap32]; omega
  have u3 : IntKind.u32.wrap (b0 + b1 * 256 + b2 * 65536 + b3 * 16777216) = nb b0 b1 b2 b3 := by rw [wrap32]; unfold nb; omega
  have x1 : IntKind.i64.wrap ((i : Int) + 1) = i + 1 := by rw [IntKind.wrap_i64]; omega
  have x2 : IntKind.i64.wrap ((i : Int) + 2) = i + 2 := by rw [IntKind.wrap_i64]; omega
  have x3 : IntKind.i64.wrap ((i : Int) + 3) = i + 3 := by rw [IntKind.wrap_i64]; omega
  have t1 : ((i : Int) + 1).toNat = i + 1 := by omega
  have t2 : ((i : Int) + 2).toNat = i + 2 := by omega
  have t3 : ((i : Int) + 3).toNat = i + 3 := by omega
  have s0 : (i : Int) < m := by omega
  have s1 : (i : Int) + 1 < m := by omega
  have s2 : (i : Int) + 2 < m := by omega
  have s3 : (i : Int) + 3 < m := by omega
  have r1 : (0 : Int) ≤ (i : Int) + 1 := by omega
  have r2 : (0 : Int) ≤ (i : Int) + 2 := by omega
  have r3 : (0 : Int) ≤ (i : Int) + 3 := by omega
  clear h g0 g1 g2 g3 hb0 hb1 hb2 hb3 bl hl hm hi y0 y1 y2 y3
  go_enter Try.func28, Try.ntmps28
  go_wp2
  go_quiet (fail)
  go_wp2
  go_ret
  exact ⟨rfl, (Fr.refl _ _).drewN _⟩

def flatP : List Int := [0, 4, 8, 12, 1, 5, 9, 13, 2, 6, 10, 14, 3, 7, 11, 15, 0, 5, 10, 15, 1, 6, 11, 12, 2, 7, 8, 13, 3, 4, 9, 14]
theorem size57 : (Try.prog.info? 57).map (·.size) = some 32 := by kernel_rfl
theorem size56 : (Try.prog.info? 56).map (·.size) = some 4 := by kernel_rfl
set_option maxRecDepth 100000 in
set_option maxHeartbeats 4000000 in
theorem places_is (w : World) : Calls Try.prog 29 #[] w fun e w' => e = .returned (.agg (vs .i64 flatP)) ∧ Fr (fun _ => False) w w' := by
  obtain ⟨Z, hZ⟩ : ∃ Z, Z = List.replicate 32 (0 : Int) := ⟨_, rfl⟩
  have hz : ∀ W : World, (zeroValue 57).run Try.prog W = .ok (.agg (vs .i64 Z)) W := fun W => by rw [hZ]; kernel_rfl
  have lZ : Hid ((vs .i64 Z).size = (vs .i64 flatP).size) := by show _ = _; rw [hZ]; rfl
  clear hZ
  go_enter Try.func29, Try.ntmps29
  go_upto_region 1 with (fail)
  generalize hW : w.alloc (.cells (vs .i64 Z) 57) = W0
  have HW := Lib.hid (calm1a hW)
  clear hW
  refine wp_region_head (C := Calm W0) 9 (Fr.refl _ _) ?_
  simp only [List.take_succ_cons, List.take_zero, List.drop_succ_cons, List.drop_zero]
  refine BigFrame.wpQuiet_want rfl fun K hK => quiet_run (.agg (vs .i64 [0, 4, 8, 12])) (fun _ _ => by kernel_rfl) (hK _ ?_)
  refine BigFrame.wpQuiet_want rfl fun K hK => quiet_run (.agg (vs .i64 [1, 5, 9, 13])) (fun _ _ => by kernel_rfl) (hK _ ?_)
  refine BigFrame.wpQuiet_want rfl fun K hK => quiet_run (.agg (vs .i64 [2, 6, 10, 14])) (fun _ _ => by kernel_rfl) (hK _ ?_)
  refine BigFrame.wpQuiet_want rfl fun K hK => quiet_run (.agg (vs .i64 [3, 7, 11, 15])) (fun _ _ => by kernel_rfl) (hK _ ?_)
  refine BigFrame.wpQuiet_want rfl fun K hK => quiet_run (.agg (vs .i64 [0, 5, 10, 15])) (fun _ _ => by kernel_rfl) (hK _ ?_)
  refine BigFrame.wpQuiet_want rfl fun K hK => quiet_run (.agg (vs .i64 [1, 6, 11, 12])) (fun _ _ => by kernel_rfl) (hK _ ?_)
  refine BigFrame.wpQuiet_want rfl fun K hK => quiet_run (.agg (vs .i64 [2, 7, 8, 13])) (fun _ _ => by kernel_rfl) (hK _ ?_)
  refine BigFrame.wpQuiet_want rfl fun K hK => quiet_run (.agg (vs .i64 [3, 4, 9, 14])) (fun _ _ => by kernel_rfl) (hK _ ?_)
  refine BigFrame.wpQuiet_want rfl fun K hK => quiet_run (.agg (vs .i64 flatP)) (fun _ _ => by kernel_rfl) (hK _ ?_)
  refine wpQuiet_nil ?_
  intro w9 hw9
  have X9 := Lib.hid (Calm.at HW.out.1 hw9)
  have F9 : Hid (Fr (fun _ => False) w w9) := HW.out.2.trans hw9
  clear hw9 HW
  simp only [Act.put, List.setIfInBounds_toArray, List.set_cons_succ, List.set_cons_zero]
  refine wpList_store_row rfl 57 (.tmp 0) (.tmp 9) rfl w.heap.size (vs .i64 flatP) rfl rfl 57 _ X9.out (by rw [size57]; rfl) lZ.out (vs_all _ _) ?_
  generalize hP : vs .i64 flatP = P at *
  go_wp2
  refine bodyPost_ret (results_cell_row Try.results29 _ _ _ 57 _ (0, 0) _ rfl (setRow_heap _ _ _ _ _ _ X9.out) Try.underlying57 rfl (by rw [← hP, size57]; rfl)) rfl ⟨by rw [← hP], F9.out.setRow _ (.inr (by omega))⟩
end Go.Proofs.Ytnagnolbomcnjaa
