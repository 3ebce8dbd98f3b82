/- number.carried, number.least: contracts. Conditions: the three parts are within their bits. -/
import Derived.Test.YtbafppdmlhogbaaTk
namespace Go.Proofs.Ytbafppdmlhogbaa
set_option linter.unusedSimpArgs false
set_option linter.unusedVariables false
open Go.RowKit

set_option maxRecDepth 100000 in
set_option maxHeartbeats 4000000 in
theorem carried_is (n0 n1 n2 V : Int) (w : World) (h0 : 0 ≤ n0 ∧ n0 < 4503599627370496) (h1 : 0 ≤ n1 ∧ n1 < 17592186044416) (h2 : 0 ≤ n2 ∧ n2 < 8796093022208) (hV : nv n0 n1 n2 = V) :
    Calls Try.prog 51 #[.agg (vs .u64 [n0, n1, n2])] w fun e w' => e = .returned (.agg (vs .u64 (num V))) ∧ Fr (fun _ => False) w w' := by
  obtain ⟨y, hy⟩ : ∃ y, n1 + n0 / 17592186044416 = y := ⟨_, rfl⟩
  obtain ⟨z, hz⟩ : ∃ z, n2 + y / 17592186044416 = z := ⟨_, rfl⟩
  have e1 : IntKind.u64.wrap (n1 + n0 / 17592186044416) = y := by rw [hy]; exact wrap_in _ ⟨by omega, by omega⟩
  have e2 : IntKind.u64.wrap (n2 + y / 17592186044416) = z := by rw [hz]; exact wrap_in _ ⟨by omega, by omega⟩
  obtain ⟨m0, hm0⟩ : ∃ m, V % 17592186044416 = m := ⟨_, rfl⟩
  obtain ⟨m1, hm1⟩ : ∃ m, V / 17592186044416 % 17592186044416 = m := ⟨_, rfl⟩
  unfold nv at hV
  have e3 : bits .and .u64 n0 17592186044415 = m0 := (low_bits 44 (by decide) _ ⟨by omega, by omega⟩).trans (by omega)
  have e4 : bits .and .u64 y 17592186044415 = m1 := (low_bits 44 (by decide) _ ⟨by omega, by omega⟩).trans (by omega)
  have e5 : num V = [m0, m1, z] := by
    have : V / 309485009821345068724781056 = z := by omega
    rw [num, hm0, hm1, this]
  rw [e5]
  clear h0 h1 h2 hV hy hz hm0 hm1 e5
  go_enter Try.func51, Try.ntmps51
  go_upto_region 1 with (fail)
  generalize hW : (w.alloc (.cells (vs .u64 [n0, n1, n2]) 62)).alloc (.cells #[.int .u64 0, .int .u64 0, .int .u64 0] 62) = W0
  have HW := Lib.hid (calm2 hW)
  have X0 : Hid (Ar W0 w.heap.size 62 .u64 [n0, n1, n2]) := HW.out.1
  have X1 : Hid (Ar W0 (w.heap.size + 1) 62 .u64 [0, 0, 0]) := HW.out.2.1
  have F0 : Hid (Fr (fun _ => False) w W0) := HW.out.2.2
  clear hW HW
  have k0 : W0.cell? ⟨w.heap.size, 0, none⟩ = _ := Ar.cell X0.out (i := 0) rfl
  have f0 := Ar.frozen X0.out 0
  have k1 : W0.cell? ⟨w.heap.size, 1, none⟩ = _ := Ar.cell X0.out (i := 1) rfl
  have f1 := Ar.frozen X0.out 1
  have k2 : W0.cell? ⟨w.heap.size, 2, none⟩ = _ := Ar.cell X0.out (i := 2) rfl
  have f2 := Ar.frozen X0.out 2
  go_upto_region 2 with (fail)
  replace X0 : Hid (Ar (W0.setCell ⟨w.heap.size, 1, none⟩ (.int .u64 y)) w.heap.size 62 .u64 [n0, y, n2]) := X0.out.set 1 y
  replace X1 : Hid (Ar (W0.setCell ⟨w.heap.size, 1, none⟩ (.int .u64 y)) (w.heap.size + 1) 62 .u64 [0, 0, 0]) := X1.out.far (by simp) _
  replace F0 : Hid (Fr (fun _ => False) w (W0.setCell ⟨w.heap.size, 1, none⟩ (.int .u64 y))) := F0.out.setCell _ (.inr (by simp))
  clear k0 k1 k2 f0 f1 f2
  generalize W0.setCell ⟨w.heap.size, 1, none⟩ (.int .u64 y) = W1 at *
  try simp only [Act.put, List.setIfInBounds_toArray, List.set_cons_succ, List.set_cons_zero]
  have k0 : W1.cell? ⟨w.heap.size, 0, none⟩ = _ := Ar.cell X0.out (i := 0) rfl
  have f0 := Ar.frozen X0.out 0
  have k1 : W1.cell? ⟨w.heap.size, 1, none⟩ = _ := Ar.cell X0.out (i := 1) rfl
  have f1 := Ar.frozen X0.out 1
  have k2 : W1.cell? ⟨w.heap.size, 2, none⟩ = _ := Ar.cell X0.out (i := 2) rfl
  have f2 := Ar.frozen X0.out 2
  go_upto_region 3 with (fail)
  replace X0 : Hid (Ar (W1.setCell ⟨w.heap.size, 2, none⟩ (.int .u64 z)) w.heap.size 62 .u64 [n0, y, z]) := X0.out.set 2 z
  replace X1 : Hid (Ar (W1.setCell ⟨w.heap.size, 2, none⟩ (.int .u64 z)) (w.heap.size + 1) 62 .u64 [0, 0, 0]) := X1.out.far (by simp) _
  replace F0 : Hid (Fr (fun _ => False) w (W1.setCell ⟨w.heap.size, 2, none⟩ (.int .u64 z))) := F0.out.setCell _ (.inr (by simp))
  clear k0 k1 k2 f0 f1 f2
  generalize W1.setCell ⟨w.heap.size, 2, none⟩ (.int .u64 z) = W2 at *
  try simp only [Act.put, List.setIfInBounds_toArray, List.set_cons_succ, List.set_cons_zero]
  have k0 : W2.cell? ⟨w.heap.size, 0, none⟩ = _ := Ar.cell X0.out (i := 0) rfl
  have f0 := Ar.frozen X0.out 0
  have k1 : W2.cell? ⟨w.heap.size, 1, none⟩ = _ := Ar.cell X0.out (i := 1) rfl
  have f1 := Ar.frozen X0.out 1
  have k2 : W2.cell? ⟨w.heap.size, 2, none⟩ = _ := Ar.cell X0.out (i := 2) rfl
  have f2 := Ar.frozen X0.out 2
  go_upto_region 4 with (fail)
  replace X0 : Hid (Ar (W2.setCell ⟨w.heap.size, 0, none⟩ (.int .u64 m0)) w.heap.size 62 .u64 [m0, y, z]) := X0.out.set 0 m0
  replace X1 : Hid (Ar (W2.setCell ⟨w.heap.size, 0, none⟩ (.int .u64 m0)) (w.heap.size + 1) 62 .u64 [0, 0, 0]) := X1.out.far (by simp) _
  replace F0 : Hid (Fr (fun _ => False) w (W2.setCell ⟨w.heap.size, 0, none⟩ (.int .u64 m0))) := F0.out.setCell _ (.inr (by simp))
  clear k0 k1 k2 f0 f1 f2
  generalize W2.setCell ⟨w.heap.size, 0, none⟩ (.int .u64 m0) = W3 at *
  try simp only [Act.put, List.setIfInBounds_toArray, List.set_cons_succ, List.set_cons_zero]
  have k0 : W3.cell? ⟨w.heap.size, 0, none⟩ = _ := Ar.cell X0.out (i := 0) rfl
  have f0 := Ar.frozen X0.out 0
  have k1 : W3.cell? ⟨w.heap.size, 1, none⟩ = _ := Ar.cell X0.out (i := 1) rfl
  have f1 := Ar.frozen X0.out 1
  have k2 : W3.cell? ⟨w.heap.size, 2, none⟩ = _ := Ar.cell X0.out (i := 2) rfl
  have f2 := Ar.frozen X0.out 2
  go_upto_region 5 with (fail)
  replace X0 : Hid (Ar (W3.setCell ⟨w.heap.size, 1, none⟩ (.int .u64 m1)) w.heap.size 62 .u64 [m0, m1, z]) := X0.out.set 1 m1
  replace X1 : Hid (Ar (W3.setCell ⟨w.heap.size, 1, none⟩ (.int .u64 m1)) (w.heap.size + 1) 62 .u64 [0, 0, 0]) := X1.out.far (by simp) _
  replace F0 : Hid (Fr (fun _ => False) w (W3.setCell ⟨w.heap.size, 1, none⟩ (.int .u64 m1))) := F0.out.setCell _ (.inr (by simp))
  clear k0 k1 k2 f0 f1 f2
  generalize W3.setCell ⟨w.heap.size, 1, none⟩ (.int .u64 m1) = W4 at *
  try simp only [Act.put, List.setIfInBounds_toArray, List.set_cons_succ, List.set_cons_zero]
  go_wp2_with (first
    | refine wpList_load_row rfl 62 (.tmp 1) rfl (w.heap.size) rfl 62 (vs .u64 [m0, m1, z]) (0, 0) _ X0.out Try.underlying62 rfl (by rw [info46]; rfl) ?_
    | refine wpList_store_row rfl 62 (.tmp 2) (.tmp 25) rfl (w.heap.size + 1) (vs .u64 [m0, m1, z]) rfl rfl 62 _ X1.out (by rw [info46]; rfl) rfl (vs_all _ _) ?_)
  refine bodyPost_ret (results_cell_row Try.results51 _ _ _ 62 _ (0, 0) _ rfl (setRow_heap _ _ _ _ _ _ X1.out) Try.underlying62 rfl (by rw [info46]; rfl)) rfl ⟨rfl, F0.out.setRow _ (.inr (by omega))⟩

set_option maxRecDepth 100000 in
set_option maxHeartbeats 8000000 in
theorem least_is (n0 n1 n2 V : Int) (w : World) (hn : In n0 n1 n2) (hV : nv n0 n1 n2 = V) :
    Calls Try.prog 40 #[.agg (vs .u64 [n0, n1, n2])] w fun e w' => e = .returned (.agg (vs .u64 (num (V % pp)))) ∧ Fr (fun _ => False) w w' := by
  obtain ⟨a0, a1, b0, b1, d0, d1⟩ := hn
  obtain ⟨p, hp⟩ : ∃ p, n0 + 5 = p := ⟨_, rfl⟩
  obtain ⟨q, hq⟩ : ∃ q, (V + 5) / 309485009821345068724781056 / 4398046511104 = q := ⟨_, rfl⟩
  obtain ⟨s, hs⟩ : ∃ s, n0 + 5 * q = s := ⟨_, rfl⟩
  have hV2 := hV
  unfold nv at hV2
  have qb : 0 ≤ q ∧ q ≤ 1 := by omega
  have C1 : ∀ W, Calls Try.prog 51 #[.agg (vs .u64 [p, n1, n2])] W fun e w' => e = .returned (.agg (vs .u64 (num (V + 5)))) ∧ Fr (fun _ => False) W w' := fun W => carried_is p n1 n2 (V + 5) W (by omega) ⟨b0, b1⟩ (by omega) (by unfold nv; omega)
  have C2 : ∀ W, Calls Try.prog 51 #[.agg (vs .u64 [s, n1, n2])] W fun e w' => e = .returned (.agg (vs .u64 (num (V + 5 * q)))) ∧ Fr (fun _ => False) W w' := fun W => carried_is s n1 n2 (V + 5 * q) W (by omega) ⟨b0, b1⟩ (by omega) (by unfold nv; omega)
  have e1 : IntKind.u64.wrap (n0 + 5) = p := by rw [hp]; exact wrap_in _ ⟨by omega, by omega⟩
  have e2 : IntKind.u64.wrap (5 * q) = 5 * q := wrap_in _ ⟨by omega, by omega⟩
  have e3 : IntKind.u64.wrap (n0 + 5 * q) = s := by rw [hs]; exact wrap_in _ ⟨by omega, by omega⟩
  obtain ⟨t0, t1, t2, ht, ht2⟩ : ∃ t0 t1 t2, num (V + 5) = [t0, t1, t2] ∧ t2 / 4398046511104 = q := ⟨_, _, _, rfl, hq⟩
  obtain ⟨u0, u1, u2, hu, hu0, hu1, hu2⟩ : ∃ u0 u1 u2, num (V + 5 * q) = [u0, u1, u2] ∧ (V + 5 * q) % 17592186044416 = u0 ∧ (V + 5 * q) / 17592186044416 % 17592186044416 = u1 ∧ (V + 5 * q) / 309485009821345068724781056 = u2 := ⟨_, _, _, rfl, rfl, rfl, rfl⟩
  rw [ht] at C1
  rw [hu] at C2
  obtain ⟨m2, hm2⟩ : ∃ m, u2 % 4398046511104 = m := ⟨_, rfl⟩
  have e4 : bits .and .u64 u2 4398046511103 = m2 := (low_bits 42 (by decide) _ ⟨by omega, by omega⟩).trans hm2
  have e5 : num (V % pp) = [u0, u1, m2] := by
    have hV0 : 0 ≤ V := by omega
    have hV1 : V < 1361129467683753853853498429727072845824 + 2251799813685248 := by omega
    have hq2 : (V + 5) / 1361129467683753853853498429727072845824 = q := by omega
    have h : V % pp = (V + 5 * q) % 1361129467683753853853498429727072845824 := by
      unfold pp
      clear hq ht2 e2 e3 e4 hu0 hu1 hu2 hm2 hV2 hs hp a0 a1 b0 b1 d0 d1 e1
      rcases (by omega : q = 0 ∨ q = 1) with h | h
      · rw [h] at hq2 ⊢
        have hlt : V < 1361129467683753853853498429727072845819 := by omega
        rw [Int.emod_eq_of_lt hV0 hlt]
        omega
      · rw [h] at hq2 ⊢
        have hge : 1361129467683753853853498429727072845819 ≤ V := by omega
        have e : V % 1361129467683753853853498429727072845819 = V - 1361129467683753853853498429727072845819 := by omega
        rw [e]
        omega
    obtain ⟨r, hr⟩ : ∃ r, V % pp = r := ⟨_, rfl⟩
    rw [hr] at h ⊢
    have g0 : r % 17592186044416 = u0 := by omega
    have g1 : r / 17592186044416 % 17592186044416 = u1 := by omega
    have g2 : r / 309485009821345068724781056 = m2 := by omega
    rw [num, g0, g1, g2]
  rw [e5]
  clear hp hq hs hV hV2 qb ht hu hu0 hu1 hu2 hm2 e5 a0 a1 b0 b1 d0 d1
  have hz : ∀ W : World, (zeroValue 62).run Try.prog W = .ok (.agg (vs .u64 [0, 0, 0])) W := zero46
  go_enter Try.func40, Try.ntmps40
  go_upto_region 1 with (fail)
  generalize hW : (w.alloc (.cells (vs .u64 [n0, n1, n2]) 62)).alloc (.cells (vs .u64 [0, 0, 0]) 62) = W0
  have HW := Lib.hid (calm2 hW)
  have X0 : Hid (Ar W0 w.heap.size 62 .u64 [n0, n1, n2]) := HW.out.1
  have X1 : Hid (Ar W0 (w.heap.size + 1) 62 .u64 [0, 0, 0]) := HW.out.2.1
  have F0 : Hid (Fr (fun _ => False) w W0) := HW.out.2.2
  clear hW HW
  go_upto_region 2 with (first
    | refine wpList_load_row rfl 62 (.tmp 1) rfl (w.heap.size) rfl 62 (vs .u64 [n0, n1, n2]) (0, 0) _ X0.out Try.underlying62 rfl (by rw [info46]; rfl) ?_
    | refine wpList_store_row rfl 62 (.tmp 3) (.tmp 4) rfl W0.heap.size (vs .u64 [n0, n1, n2]) rfl rfl 62 (vs .u64 [0, 0, 0]) (heap_alloc_new W0 (.cells (vs .u64 [0, 0, 0]) 62)) (by rw [info46]; rfl) rfl (vs_all _ _) ?_)
  obtain ⟨g, hg⟩ : ∃ g, g = W0.heap.size := ⟨_, rfl⟩
  have hg1 : w.heap.size + 1 < g := by rw [hg]; exact heap_lt X1.out
  have Y0 : Hid (Ar ((W0.alloc (.cells (vs .u64 [0, 0, 0]) 62)).setRow W0.heap.size (vs .u64 [n0, n1, n2])) g 62 .u64 [n0, n1, n2]) := by rw [hg]; exact (Ar.new W0 62 .u64 [0, 0, 0]).row [n0, n1, n2]
  replace X0 : Hid (Ar ((W0.alloc (.cells (vs .u64 [0, 0, 0]) 62)).setRow W0.heap.size (vs .u64 [n0, n1, n2])) w.heap.size 62 .u64 [n0, n1, n2]) := (X0.out.alloc _).rowFar (by omega) _
  replace X1 : Hid (Ar ((W0.alloc (.cells (vs .u64 [0, 0, 0]) 62)).setRow W0.heap.size (vs .u64 [n0, n1, n2])) (w.heap.size + 1) 62 .u64 [0, 0, 0]) := (X1.out.alloc _).rowFar (by omega) _
  replace F0 : Hid (Fr (fun _ => False) w ((W0.alloc (.cells (vs .u64 [0, 0, 0]) 62)).setRow W0.heap.size (vs .u64 [n0, n1, n2]))) := (F0.out.alloc _).setRow _ (.inr F0.out.size)
  rw [← hg] at Y0 X0 X1 F0 ⊢
  generalize (W0.alloc (.cells (vs .u64 [0, 0, 0]) 62)).setRow g (vs .u64 [n0, n1, n2]) = W1 at *
  clear hg hz
  try simp only [Act.put, List.setIfInBounds_toArray, List.set_cons_succ, List.set_cons_zero]
  have kY00 := Ar.cell Y0.out (i := 0) rfl
  have kY01 := Ar.cell Y0.out (i := 1) rfl
  have kY02 := Ar.cell Y0.out (i := 2) rfl
  have kX00 := Ar.cell X0.out (i := 0) rfl
  have kX01 := Ar.cell X0.out (i := 1) rfl
  have kX02 := Ar.cell X0.out (i := 2) rfl
  have kX10 := Ar.cell X1.out (i := 0) rfl
  have kX11 := Ar.cell X1.out (i := 1) rfl
  have kX12 := Ar.cell X1.out (i := 2) rfl
  have f0 := Ar.frozen Y0.out 0
  go_upto_region 3 with (fail)
  replace Y0 : Hid (Ar (W1.setCell ⟨g, 0, none⟩ (.int .u64 p)) (g) 62 .u64 [p, n1, n2]) := Y0.out.set 0 p
  replace X0 : Hid (Ar (W1.setCell ⟨g, 0, none⟩ (.int .u64 p)) (w.heap.size) 62 .u64 [n0, n1, n2]) := X0.out.far (by simp <;> omega) _
  replace X1 : Hid (Ar (W1.setCell ⟨g, 0, none⟩ (.int .u64 p)) (w.heap.size + 1) 62 .u64 [0, 0, 0]) := X1.out.far (by simp <;> omega) _
  replace F0 : Hid (Fr (fun _ => False) w (W1.setCell ⟨g, 0, none⟩ (.int .u64 p))) := F0.out.setCell _ (.inr (by simp <;> omega))
  clear f0 kY00 kY01 kY02 kX00 kX01 kX02 kX10 kX11 kX12
  generalize W1.setCell ⟨g, 0, none⟩ (.int .u64 p) = W2 at *
  try simp only [Act.put, List.setIfInBounds_toArray, List.set_cons_succ, List.set_cons_zero]
  go_upto_region 4 with (first
    | (go_at_call 51; refine (C1 _).mono ?_; rintro e v3 ⟨rfl, hf⟩)
    | refine wpList_load_row rfl 62 (.tmp 3) rfl (g) rfl 62 (vs .u64 [p, n1, n2]) (0, 0) _ Y0.out Try.underlying62 rfl (by rw [info46]; rfl) ?_
    | refine wpList_store_row rfl 62 (.tmp 3) (.tmp 10) rfl (g) (vs .u64 [t0, t1, t2]) rfl rfl 62 (vs .u64 [p, n1, n2]) (Ar.fr Y0.out hf (fun x => x)) (by rw [info46]; rfl) rfl (vs_all _ _) ?_)
  replace Y0 : Hid (Ar (v3.setRow (g) (vs .u64 [t0, t1, t2])) (g) 62 .u64 [t0, t1, t2]) := (Ar.fr Y0.out hf (fun x => x)).row _
  replace X0 : Hid (Ar (v3.setRow (g) (vs .u64 [t0, t1, t2])) (w.heap.size) 62 .u64 [n0, n1, n2]) := (Ar.fr X0.out hf (fun x => x)).rowFar (by omega) _
  replace X1 : Hid (Ar (v3.setRow (g) (vs .u64 [t0, t1, t2])) (w.heap.size + 1) 62 .u64 [0, 0, 0]) := (Ar.fr X1.out hf (fun x => x)).rowFar (by omega) _
  replace F0 : Hid (Fr (fun _ => False) w (v3.setRow (g) (vs .u64 [t0, t1, t2]))) := (F0.out.trans hf).setRow _ (.inr (by omega))
  clear hf
  generalize v3.setRow (g) (vs .u64 [t0, t1, t2]) = W3 at *
  try simp only [Act.put, List.setIfInBounds_toArray, List.set_cons_succ, List.set_cons_zero]
  have kY00 := Ar.cell Y0.out (i := 0) rfl
  have kY01 := Ar.cell Y0.out (i := 1) rfl
  have kY02 := Ar.cell Y0.out (i := 2) rfl
  have kX00 := Ar.cell X0.out (i := 0) rfl
  have kX01 := Ar.cell X0.out (i := 1) rfl
  have kX02 := Ar.cell X0.out (i := 2) rfl
  have kX10 := Ar.cell X1.out (i := 0) rfl
  have kX11 := Ar.cell X1.out (i := 1) rfl
  have kX12 := Ar.cell X1.out (i := 2) rfl
  have f0 := Ar.frozen X0.out 0
  go_upto_region 5 with (fail)
  replace Y0 : Hid (Ar (W3.setCell ⟨w.heap.size, 0, none⟩ (.int .u64 s)) (g) 62 .u64 [t0, t1, t2]) := Y0.out.far (by simp <;> omega) _
  replace X0 : Hid (Ar (W3.setCell ⟨w.heap.size, 0, none⟩ (.int .u64 s)) (w.heap.size) 62 .u64 [s, n1, n2]) := X0.out.set 0 s
  replace X1 : Hid (Ar (W3.setCell ⟨w.heap.size, 0, none⟩ (.int .u64 s)) (w.heap.size + 1) 62 .u64 [0, 0, 0]) := X1.out.far (by simp <;> omega) _
  replace F0 : Hid (Fr (fun _ => False) w (W3.setCell ⟨w.heap.size, 0, none⟩ (.int .u64 s))) := F0.out.setCell _ (.inr (by simp <;> omega))
  clear f0 kY00 kY01 kY02 kX00 kX01 kX02 kX10 kX11 kX12
  generalize W3.setCell ⟨w.heap.size, 0, none⟩ (.int .u64 s) = W4 at *
  try simp only [Act.put, List.setIfInBounds_toArray, List.set_cons_succ, List.set_cons_zero]
  go_upto_region 6 with (first
    | (go_at_call 51; refine (C2 _).mono ?_; rintro e v5 ⟨rfl, hf⟩)
    | refine wpList_load_row rfl 62 (.tmp 1) rfl (w.heap.size) rfl 62 (vs .u64 [s, n1, n2]) (0, 0) _ X0.out Try.underlying62 rfl (by rw [info46]; rfl) ?_
    | refine wpList_store_row rfl 62 (.tmp 1) (.tmp 20) rfl (w.heap.size) (vs .u64 [u0, u1, u2]) rfl rfl 62 (vs .u64 [s, n1, n2]) (Ar.fr X0.out hf (fun x => x)) (by rw [info46]; rfl) rfl (vs_all _ _) ?_)
  replace Y0 : Hid (Ar (v5.setRow (w.heap.size) (vs .u64 [u0, u1, u2])) (g) 62 .u64 [t0, t1, t2]) := (Ar.fr Y0.out hf (fun x => x)).rowFar (by omega) _
  replace X0 : Hid (Ar (v5.setRow (w.heap.size) (vs .u64 [u0, u1, u2])) (w.heap.size) 62 .u64 [u0, u1, u2]) := (Ar.fr X0.out hf (fun x => x)).row _
  replace X1 : Hid (Ar (v5.setRow (w.heap.size) (vs .u64 [u0, u1, u2])) (w.heap.size + 1) 62 .u64 [0, 0, 0]) := (Ar.fr X1.out hf (fun x => x)).rowFar (by omega) _
  replace F0 : Hid (Fr (fun _ => False) w (v5.setRow (w.heap.size) (vs .u64 [u0, u1, u2]))) := (F0.out.trans hf).setRow _ (.inr (by omega))
  clear hf
  generalize v5.setRow (w.heap.size) (vs .u64 [u0, u1, u2]) = W5 at *
  try simp only [Act.put, List.setIfInBounds_toArray, List.set_cons_succ, List.set_cons_zero]
  have kY00 := Ar.cell Y0.out (i := 0) rfl
  have kY01 := Ar.cell Y0.out (i := 1) rfl
  have kY02 := Ar.cell Y0.out (i := 2) rfl
  have kX00 := Ar.cell X0.out (i := 0) rfl
  have kX01 := Ar.cell X0.out (i := 1) rfl
  have kX02 := Ar.cell X0.out (i := 2) rfl
  have kX10 := Ar.cell X1.out (i := 0) rfl
  have kX11 := Ar.cell X1.out (i := 1) rfl
  have kX12 := Ar.cell X1.out (i := 2) rfl
  have f0 := Ar.frozen X0.out 2
  go_upto_region 7 with (fail)
  replace Y0 : Hid (Ar (W5.setCell ⟨w.heap.size, 2, none⟩ (.int .u64 m2)) (g) 62 .u64 [t0, t1, t2]) := Y0.out.far (by simp <;> omega) _
  replace X0 : Hid (Ar (W5.setCell ⟨w.heap.size, 2, none⟩ (.int .u64 m2)) (w.heap.size) 62 .u64 [u0, u1, m2]) := X0.out.set 2 m2
  replace X1 : Hid (Ar (W5.setCell ⟨w.heap.size, 2, none⟩ (.int .u64 m2)) (w.heap.size + 1) 62 .u64 [0, 0, 0]) := X1.out.far (by simp <;> omega) _
  replace F0 : Hid (Fr (fun _ => False) w (W5.setCell ⟨w.heap.size, 2, none⟩ (.int .u64 m2))) := F0.out.setCell _ (.inr (by simp <;> omega))
  clear f0 kY00 kY01 kY02 kX00 kX01 kX02 kX10 kX11 kX12
  generalize W5.setCell ⟨w.heap.size, 2, none⟩ (.int .u64 m2) = W6 at *
  try simp only [Act.put, List.setIfInBounds_toArray, List.set_cons_succ, List.set_cons_zero]
  go_wp2_with (first
    | refine wpList_load_row rfl 62 (.tmp 1) rfl (w.heap.size) rfl 62 (vs .u64 [u0, u1, m2]) (0, 0) _ X0.out Try.underlying62 rfl (by rw [info46]; rfl) ?_
    | refine wpList_store_row rfl 62 (.tmp 2) (.tmp 25) rfl (w.heap.size + 1) (vs .u64 [u0, u1, m2]) rfl rfl 62 _ X1.out (by rw [info46]; rfl) rfl (vs_all _ _) ?_)
  refine bodyPost_ret (results_cell_row Try.results40 _ _ _ 62 _ (0, 0) _ rfl (setRow_heap _ _ _ _ _ _ X1.out) Try.underlying62 rfl (by rw [info46]; rfl)) rfl ⟨rfl, F0.out.setRow _ (.inr (by omega))⟩
end Go.Proofs.Ytbafppdmlhogbaa
