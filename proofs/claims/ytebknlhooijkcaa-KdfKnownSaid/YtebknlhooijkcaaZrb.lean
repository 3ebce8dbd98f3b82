/- The program's round: contract. Conditions: sixteen words, sixteen numbers. -/
import Derived.Test.YtebknlhooijkcaaZra
namespace Go.Proofs.Ytebknlhooijkcaa
set_option linter.unusedSimpArgs false
set_option linter.unusedVariables false
open Go.ChangeShapes Go.WideShapes Go.ChangeAt Go.RowKit

theorem szS : (Try.prog.info? 70).map (·.size) = some 16 := by kernel_rfl
theorem zeroS : ∀ W : World, (zeroValue 70).run Try.prog W = .ok (.agg (vs .u32 (List.replicate 16 0))) W := fun _ => by kernel_rfl
theorem mx0 (v0 v1 v2 v3 v4 v5 v6 v7 v8 v9 v10 v11 v12 v13 v14 v15 x y : Int) : mx [v0, v1, v2, v3, v4, v5, v6, v7, v8, v9, v10, v11, v12, v13, v14, v15] 0 4 8 12 x y = [(qz v0 v4 v8 v12 x y).1, v1, v2, v3, (qz v0 v4 v8 v12 x y).2.1, v5, v6, v7, (qz v0 v4 v8 v12 x y).2.2.1, v9, v10, v11, (qz v0 v4 v8 v12 x y).2.2.2, v13, v14, v15] := rfl
theorem mx1 (v0 v1 v2 v3 v4 v5 v6 v7 v8 v9 v10 v11 v12 v13 v14 v15 x y : Int) : mx [v0, v1, v2, v3, v4, v5, v6, v7, v8, v9, v10, v11, v12, v13, v14, v15] 1 5 9 13 x y = [v0, (qz v1 v5 v9 v13 x y).1, v2, v3, v4, (qz v1 v5 v9 v13 x y).2.1, v6, v7, v8, (qz v1 v5 v9 v13 x y).2.2.1, v10, v11, v12, (qz v1 v5 v9 v13 x y).2.2.2, v14, v15] := rfl
theorem mx2 (v0 v1 v2 v3 v4 v5 v6 v7 v8 v9 v10 v11 v12 v13 v14 v15 x y : Int) : mx [v0, v1, v2, v3, v4, v5, v6, v7, v8, v9, v10, v11, v12, v13, v14, v15] 2 6 10 14 x y = [v0, v1, (qz v2 v6 v10 v14 x y).1, v3, v4, v5, (qz v2 v6 v10 v14 x y).2.1, v7, v8, v9, (qz v2 v6 v10 v14 x y).2.2.1, v11, v12, v13, (qz v2 v6 v10 v14 x y).2.2.2, v15] := rfl
theorem mx3 (v0 v1 v2 v3 v4 v5 v6 v7 v8 v9 v10 v11 v12 v13 v14 v15 x y : Int) : mx [v0, v1, v2, v3, v4, v5, v6, v7, v8, v9, v10, v11, v12, v13, v14, v15] 3 7 11 15 x y = [v0, v1, v2, (qz v3 v7 v11 v15 x y).1, v4, v5, v6, (qz v3 v7 v11 v15 x y).2.1, v8, v9, v10, (qz v3 v7 v11 v15 x y).2.2.1, v12, v13, v14, (qz v3 v7 v11 v15 x y).2.2.2] := rfl
theorem mx4 (v0 v1 v2 v3 v4 v5 v6 v7 v8 v9 v10 v11 v12 v13 v14 v15 x y : Int) : mx [v0, v1, v2, v3, v4, v5, v6, v7, v8, v9, v10, v11, v12, v13, v14, v15] 0 5 10 15 x y = [(qz v0 v5 v10 v15 x y).1, v1, v2, v3, v4, (qz v0 v5 v10 v15 x y).2.1, v6, v7, v8, v9, (qz v0 v5 v10 v15 x y).2.2.1, v11, v12, v13, v14, (qz v0 v5 v10 v15 x y).2.2.2] := rfl
theorem mx5 (v0 v1 v2 v3 v4 v5 v6 v7 v8 v9 v10 v11 v12 v13 v14 v15 x y : Int) : mx [v0, v1, v2, v3, v4, v5, v6, v7, v8, v9, v10, v11, v12, v13, v14, v15] 1 6 11 12 x y = [v0, (qz v1 v6 v11 v12 x y).1, v2, v3, v4, v5, (qz v1 v6 v11 v12 x y).2.1, v7, v8, v9, v10, (qz v1 v6 v11 v12 x y).2.2.1, (qz v1 v6 v11 v12 x y).2.2.2, v13, v14, v15] := rfl
theorem mx6 (v0 v1 v2 v3 v4 v5 v6 v7 v8 v9 v10 v11 v12 v13 v14 v15 x y : Int) : mx [v0, v1, v2, v3, v4, v5, v6, v7, v8, v9, v10, v11, v12, v13, v14, v15] 2 7 8 13 x y = [v0, v1, (qz v2 v7 v8 v13 x y).1, v3, v4, v5, v6, (qz v2 v7 v8 v13 x y).2.1, (qz v2 v7 v8 v13 x y).2.2.1, v9, v10, v11, v12, (qz v2 v7 v8 v13 x y).2.2.2, v14, v15] := rfl
theorem mx7 (v0 v1 v2 v3 v4 v5 v6 v7 v8 v9 v10 v11 v12 v13 v14 v15 x y : Int) : mx [v0, v1, v2, v3, v4, v5, v6, v7, v8, v9, v10, v11, v12, v13, v14, v15] 3 4 9 14 x y = [v0, v1, v2, (qz v3 v4 v9 v14 x y).1, (qz v3 v4 v9 v14 x y).2.1, v5, v6, v7, v8, (qz v3 v4 v9 v14 x y).2.2.1, v10, v11, v12, v13, (qz v3 v4 v9 v14 x y).2.2.2, v15] := rfl
/-- A round: eight mixings. -/
def rnB (v x : List Int) : List Int := mx (mx (mx (mx (mx (mx (mx (mx (v) 0 4 8 12 (x.getD 0 0) (x.getD 1 0)) 1 5 9 13 (x.getD 2 0) (x.getD 3 0)) 2 6 10 14 (x.getD 4 0) (x.getD 5 0)) 3 7 11 15 (x.getD 6 0) (x.getD 7 0)) 0 5 10 15 (x.getD 8 0) (x.getD 9 0)) 1 6 11 12 (x.getD 10 0) (x.getD 11 0)) 2 7 8 13 (x.getD 12 0) (x.getD 13 0)) 3 4 9 14 (x.getD 14 0) (x.getD 15 0)
theorem rnB_eq {x0 x1 x2 x3 x4 x5 x6 x7 x8 x9 x10 x11 x12 x13 x14 x15 : Int} (L0 L1 L2 L3 L4 L5 L6 L7 L8 : List Int) (_ : Unit) (h1 : mx L0 0 4 8 12 x0 x1 = L1) (h2 : mx L1 1 5 9 13 x2 x3 = L2) (h3 : mx L2 2 6 10 14 x4 x5 = L3) (h4 : mx L3 3 7 11 15 x6 x7 = L4) (h5 : mx L4 0 5 10 15 x8 x9 = L5) (h6 : mx L5 1 6 11 12 x10 x11 = L6) (h7 : mx L6 2 7 8 13 x12 x13 = L7) (h8 : mx L7 3 4 9 14 x14 x15 = L8) : rnB L0 [x0, x1, x2, x3, x4, x5, x6, x7, x8, x9, x10, x11, x12, x13, x14, x15] = L8 := by
  subst h1 h2 h3 h4 h5 h6 h7 h8
  rfl
set_option maxRecDepth 100000 in
set_option maxHeartbeats 16000000 in
theorem mixed_is (v x : List Int) (w : World) (hv : V16 v) (hx : x.length = 16) :
    Calls Try.prog 53 #[.agg (vs .u32 v), .agg (vs .u32 x)] w fun e w' => e = .returned (.agg (vs .u32 (rnB v x))) ∧ Fr (fun _ => False) w w' := by
  obtain ⟨R, hR⟩ : ∃ R, R = rnB v x := ⟨_, rfl⟩
  rw [← hR]
  have HR := Lib.hid hR
  obtain ⟨RV, hRV⟩ : ∃ V, V = vs .u32 R := ⟨_, rfl⟩
  rw [← hRV]
  have HRV := Lib.hid hRV
  clear hR hRV
  obtain ⟨x0, x1, x2, x3, x4, x5, x6, x7, x8, x9, x10, x11, x12, x13, x14, x15, rfl⟩ := sixteen hx
  obtain ⟨v0, v1, v2, v3, v4, v5, v6, v7, v8, v9, v10, v11, v12, v13, v14, v15, rfl⟩ := sixteen hv.1
  have U0 : Hid (Wd v0) := hv.2 v0 (by simp)
  have U1 : Hid (Wd v1) := hv.2 v1 (by simp)
  have U2 : Hid (Wd v2) := hv.2 v2 (by simp)
  have U3 : Hid (Wd v3) := hv.2 v3 (by simp)
  have U4 : Hid (Wd v4) := hv.2 v4 (by simp)
  have U5 : Hid (Wd v5) := hv.2 v5 (by simp)
  have U6 : Hid (Wd v6) := hv.2 v6 (by simp)
  have U7 : Hid (Wd v7) := hv.2 v7 (by simp)
  have U8 : Hid (Wd v8) := hv.2 v8 (by simp)
  have U9 : Hid (Wd v9) := hv.2 v9 (by simp)
  have U10 : Hid (Wd v10) := hv.2 v10 (by simp)
  have U11 : Hid (Wd v11) := hv.2 v11 (by simp)
  have U12 : Hid (Wd v12) := hv.2 v12 (by simp)
  have U13 : Hid (Wd v13) := hv.2 v13 (by simp)
  have U14 : Hid (Wd v14) := hv.2 v14 (by simp)
  have U15 : Hid (Wd v15) := hv.2 v15 (by simp)
  obtain ⟨Z, hZ⟩ : ∃ Z, Z = List.replicate 16 (0 : Int) := ⟨_, rfl⟩
  have hz : ∀ W : World, (zeroValue 70).run Try.prog W = .ok (.agg (vs .u32 Z)) W := fun W => by rw [hZ]; exact zeroS W
  have lZ : Hid (Z.length = 16) := by show _ = _; rw [hZ]; rfl
  obtain ⟨XV, hXV⟩ : ∃ V, V = vs .u32 [x0, x1, x2, x3, x4, x5, x6, x7, x8, x9, x10, x11, x12, x13, x14, x15] := ⟨_, rfl⟩
  obtain ⟨VV, hVV⟩ : ∃ V, V = vs .u32 [v0, v1, v2, v3, v4, v5, v6, v7, v8, v9, v10, v11, v12, v13, v14, v15] := ⟨_, rfl⟩
  have HXV := Lib.hid hXV
  have HVV := Lib.hid hVV
  rw [← hXV, ← hVV]
  clear hZ hv hx hXV hVV
  go_enter Try.func53, Try.ntmps53
  go_upto_region 1 with (fail)
  generalize hW : ((w.alloc (.cells VV 70)).alloc (.cells XV 70)).alloc (.cells (vs .u32 Z) 70) = W0
  have HW := Lib.hid (calm3 hW)
  clear hW hz
  have A0 : Hid (Ar W0 w.heap.size 70 .u32 [v0, v1, v2, v3, v4, v5, v6, v7, v8, v9, v10, v11, v12, v13, v14, v15]) := by show _ = _; rw [HW.out.1, HVV.out]
  have X0 : Hid (Ar W0 (w.heap.size + 1) 70 .u32 [x0, x1, x2, x3, x4, x5, x6, x7, x8, x9, x10, x11, x12, x13, x14, x15]) := by show _ = _; rw [HW.out.2.1, HXV.out]
  have Z0 : Hid (Ar W0 (w.heap.size + 1 + 1) 70 .u32 Z) := HW.out.2.2.1
  have F0 : Hid (Fr (fun _ => False) w W0) := HW.out.2.2.2
  have R0 : Hid (R = rnB [v0, v1, v2, v3, v4, v5, v6, v7, v8, v9, v10, v11, v12, v13, v14, v15] [x0, x1, x2, x3, x4, x5, x6, x7, x8, x9, x10, x11, x12, x13, x14, x15]) := HR.out
  clear HW HXV HVV HR
  obtain ⟨a1, b1, c1, d1, hq1, wa1, wb1, wc1, wd1, hM1⟩ := mix_ex (x := x0) (y := x1) U0.out U4.out U8.out U12.out
  have Wa1 := Lib.hid wa1
  have Wb1 := Lib.hid wb1
  have Wc1 := Lib.hid wc1
  have Wd1 := Lib.hid wd1
  have E1 : Hid (mx [v0, v1, v2, v3, v4, v5, v6, v7, v8, v9, v10, v11, v12, v13, v14, v15] 0 4 8 12 x0 x1 = [a1, v1, v2, v3, b1, v5, v6, v7, c1, v9, v10, v11, d1, v13, v14, v15]) := by show _ = _; rw [mx0, hq1]
  clear hq1 wa1 wb1 wc1 wd1
  have r1 := A0.out.cell (i := 0) rfl
  have r2 := A0.out.cell (i := 4) rfl
  have r3 := A0.out.cell (i := 8) rfl
  have r4 := A0.out.cell (i := 12) rfl
  have r5 := X0.out.cell (i := 0) rfl
  have r6 := X0.out.cell (i := 1) rfl
  go_upto_region 2 with (go_at_call 56; refine (hM1 _).mono ?_; rintro e y1 ⟨rfl, hf⟩; clear r1 r2 r3 r4 r5 r6; have G1 := Lib.hid hf; clear hf; have r1 := (A0.out.fr G1.out (fun x => x)).cell (i := 0) rfl; have r2 := (A0.out.fr G1.out (fun x => x)).cell (i := 4) rfl; have r3 := (A0.out.fr G1.out (fun x => x)).cell (i := 8) rfl; have r4 := (A0.out.fr G1.out (fun x => x)).cell (i := 12) rfl; have r5 := (A0.out.fr G1.out (fun x => x)).frozen 0; have r6 := (A0.out.fr G1.out (fun x => x)).frozen 4; have r7 := (A0.out.fr G1.out (fun x => x)).frozen 8; have r8 := (A0.out.fr G1.out (fun x => x)).frozen 12)
  have A1 : Hid (Ar ((((y1.setCell ⟨w.heap.size, 0, none⟩ (.int .u32 a1)).setCell ⟨w.heap.size, 4, none⟩ (.int .u32 b1)).setCell ⟨w.heap.size, 8, none⟩ (.int .u32 c1)).setCell ⟨w.heap.size, 12, none⟩ (.int .u32 d1)) w.heap.size 70 .u32 [a1, v1, v2, v3, b1, v5, v6, v7, c1, v9, v10, v11, d1, v13, v14, v15]) := ((((A0.out.fr G1.out (fun x => x)).set 0 a1).set 4 b1).set 8 c1).set 12 d1
  have X1 : Hid (Ar ((((y1.setCell ⟨w.heap.size, 0, none⟩ (.int .u32 a1)).setCell ⟨w.heap.size, 4, none⟩ (.int .u32 b1)).setCell ⟨w.heap.size, 8, none⟩ (.int .u32 c1)).setCell ⟨w.heap.size, 12, none⟩ (.int .u32 d1)) (w.heap.size + 1) 70 .u32 [x0, x1, x2, x3, x4, x5, x6, x7, x8, x9, x10, x11, x12, x13, x14, x15]) := ((((X0.out.fr G1.out (fun x => x)).far (by show ¬ (w.heap.size + 1) = w.heap.size; omega) _).far (by show ¬ (w.heap.size + 1) = w.heap.size; omega) _).far (by show ¬ (w.heap.size + 1) = w.heap.size; omega) _).far (by show ¬ (w.heap.size + 1) = w.heap.size; omega) _
  have Z1 : Hid (Ar ((((y1.setCell ⟨w.heap.size, 0, none⟩ (.int .u32 a1)).setCell ⟨w.heap.size, 4, none⟩ (.int .u32 b1)).setCell ⟨w.heap.size, 8, none⟩ (.int .u32 c1)).setCell ⟨w.heap.size, 12, none⟩ (.int .u32 d1)) (w.heap.size + 1 + 1) 70 .u32 Z) := ((((Z0.out.fr G1.out (fun x => x)).far (by show ¬ (w.heap.size + 1 + 1) = w.heap.size; omega) _).far (by show ¬ (w.heap.size + 1 + 1) = w.heap.size; omega) _).far (by show ¬ (w.heap.size + 1 + 1) = w.heap.size; omega) _).far (by show ¬ (w.heap.size + 1 + 1) = w.heap.size; omega) _
  have F1 : Hid (Fr (fun _ => False) w ((((y1.setCell ⟨w.heap.size, 0, none⟩ (.int .u32 a1)).setCell ⟨w.heap.size, 4, none⟩ (.int .u32 b1)).setCell ⟨w.heap.size, 8, none⟩ (.int .u32 c1)).setCell ⟨w.heap.size, 12, none⟩ (.int .u32 d1))) := ((((F0.out.trans G1.out).setCell _ (.inr (Nat.le_refl _))).setCell _ (.inr (Nat.le_refl _))).setCell _ (.inr (Nat.le_refl _))).setCell _ (.inr (Nat.le_refl _))
  generalize ((((y1.setCell ⟨w.heap.size, 0, none⟩ (.int .u32 a1)).setCell ⟨w.heap.size, 4, none⟩ (.int .u32 b1)).setCell ⟨w.heap.size, 8, none⟩ (.int .u32 c1)).setCell ⟨w.heap.size, 12, none⟩ (.int .u32 d1)) = Y1 at *
  clear r1 r2 r3 r4 r5 r6 r7 r8 A0 X0 Z0 F0 G1 hM1
  obtain ⟨a2, b2, c2, d2, hq2, wa2, wb2, wc2, wd2, hM2⟩ := mix_ex (x := x2) (y := x3) U1.out U5.out U9.out U13.out
  have Wa2 := Lib.hid wa2
  have Wb2 := Lib.hid wb2
  have Wc2 := Lib.hid wc2
  have Wd2 := Lib.hid wd2
  have E2 : Hid (mx [a1, v1, v2, v3, b1, v5, v6, v7, c1, v9, v10, v11, d1, v13, v14, v15] 1 5 9 13 x2 x3 = [a1, a2, v2, v3, b1, b2, v6, v7, c1, c2, v10, v11, d1, d2, v14, v15]) := by show _ = _; rw [mx1, hq2]
  clear hq2 wa2 wb2 wc2 wd2
  have r1 := A1.out.cell (i := 1) rfl
  have r2 := A1.out.cell (i := 5) rfl
  have r3 := A1.out.cell (i := 9) rfl
  have r4 := A1.out.cell (i := 13) rfl
  have r5 := X1.out.cell (i := 2) rfl
  have r6 := X1.out.cell (i := 3) rfl
  go_upto_region 3 with (go_at_call 56; refine (hM2 _).mono ?_; rintro e y2 ⟨rfl, hf⟩; clear r1 r2 r3 r4 r5 r6; have G2 := Lib.hid hf; clear hf; have r1 := (A1.out.fr G2.out (fun x => x)).cell (i := 1) rfl; have r2 := (A1.out.fr G2.out (fun x => x)).cell (i := 5) rfl; have r3 := (A1.out.fr G2.out (fun x => x)).cell (i := 9) rfl; have r4 := (A1.out.fr G2.out (fun x => x)).cell (i := 13) rfl; have r5 := (A1.out.fr G2.out (fun x => x)).frozen 1; have r6 := (A1.out.fr G2.out (fun x => x)).frozen 5; have r7 := (A1.out.fr G2.out (fun x => x)).frozen 9; have r8 := (A1.out.fr G2.out (fun x => x)).frozen 13)
  have A2 : Hid (Ar ((((y2.setCell ⟨w.heap.size, 1, none⟩ (.int .u32 a2)).setCell ⟨w.heap.size, 5, none⟩ (.int .u32 b2)).setCell ⟨w.heap.size, 9, none⟩ (.int .u32 c2)).setCell ⟨w.heap.size, 13, none⟩ (.int .u32 d2)) w.heap.size 70 .u32 [a1, a2, v2, v3, b1, b2, v6, v7, c1, c2, v10, v11, d1, d2, v14, v15]) := ((((A1.out.fr G2.out (fun x => x)).set 1 a2).set 5 b2).set 9 c2).set 13 d2
  have X2 : Hid (Ar ((((y2.setCell ⟨w.heap.size, 1, none⟩ (.int .u32 a2)).setCell ⟨w.heap.size, 5, none⟩ (.int .u32 b2)).setCell ⟨w.heap.size, 9, none⟩ (.int .u32 c2)).setCell ⟨w.heap.size, 13, none⟩ (.int .u32 d2)) (w.heap.size + 1) 70 .u32 [x0, x1, x2, x3, x4, x5, x6, x7, x8, x9, x10, x11, x12, x13, x14, x15]) := ((((X1.out.fr G2.out (fun x => x)).far (by show ¬ (w.heap.size + 1) = w.heap.size; omega) _).far (by show ¬ (w.heap.size + 1) = w.heap.size; omega) _).far (by show ¬ (w.heap.size + 1) = w.heap.size; omega) _).far (by show ¬ (w.heap.size + 1) = w.heap.size; omega) _
  have Z2 : Hid (Ar ((((y2.setCell ⟨w.heap.size, 1, none⟩ (.int .u32 a2)).setCell ⟨w.heap.size, 5, none⟩ (.int .u32 b2)).setCell ⟨w.heap.size, 9, none⟩ (.int .u32 c2)).setCell ⟨w.heap.size, 13, none⟩ (.int .u32 d2)) (w.heap.size + 1 + 1) 70 .u32 Z) := ((((Z1.out.fr G2.out (fun x => x)).far (by show ¬ (w.heap.size + 1 + 1) = w.heap.size; omega) _).far (by show ¬ (w.heap.size + 1 + 1) = w.heap.size; omega) _).far (by show ¬ (w.heap.size + 1 + 1) = w.heap.size; omega) _).far (by show ¬ (w.heap.size + 1 + 1) = w.heap.size; omega) _
  have F2 : Hid (Fr (fun _ => False) w ((((y2.setCell ⟨w.heap.size, 1, none⟩ (.int .u32 a2)).setCell ⟨w.heap.size, 5, none⟩ (.int .u32 b2)).setCell ⟨w.heap.size, 9, none⟩ (.int .u32 c2)).setCell ⟨w.heap.size, 13, none⟩ (.int .u32 d2))) := ((((F1.out.trans G2.out).setCell _ (.inr (Nat.le_refl _))).setCell _ (.inr (Nat.le_refl _))).setCell _ (.inr (Nat.le_refl _))).setCell _ (.inr (Nat.le_refl _))
  generalize ((((y2.setCell ⟨w.heap.size, 1, none⟩ (.int .u32 a2)).setCell ⟨w.heap.size, 5, none⟩ (.int .u32 b2)).setCell ⟨w.heap.size, 9, none⟩ (.int .u32 c2)).setCell ⟨w.heap.size, 13, none⟩ (.int .u32 d2)) = Y2 at *
  clear r1 r2 r3 r4 r5 r6 r7 r8 A1 X1 Z1 F1 G2 hM2
  obtain ⟨a3, b3, c3, d3, hq3, wa3, wb3, wc3, wd3, hM3⟩ := mix_ex (x := x4) (y := x5) U2.out U6.out U10.out U14.out
  have Wa3 := Lib.hid wa3
  have Wb3 := Lib.hid wb3
  have Wc3 := Lib.hid wc3
  have Wd3 := Lib.hid wd3
  have E3 : Hid (mx [a1, a2, v2, v3, b1, b2, v6, v7, c1, c2, v10, v11, d1, d2, v14, v15] 2 6 10 14 x4 x5 = [a1, a2, a3, v3, b1, b2, b3, v7, c1, c2, c3, v11, d1, d2, d3, v15]) := by show _ = _; rw [mx2, hq3]
  clear hq3 wa3 wb3 wc3 wd3
  have r1 := A2.out.cell (i := 2) rfl
  have r2 := A2.out.cell (i := 6) rfl
  have r3 := A2.out.cell (i := 10) rfl
  have r4 := A2.out.cell (i := 14) rfl
  have r5 := X2.out.cell (i := 4) rfl
  have r6 := X2.out.cell (i := 5) rfl
  go_upto_region 4 with (go_at_call 56; refine (hM3 _).mono ?_; rintro e y3 ⟨rfl, hf⟩; clear r1 r2 r3 r4 r5 r6; have G3 := Lib.hid hf; clear hf; have r1 := (A2.out.fr G3.out (fun x => x)).cell (i := 2) rfl; have r2 := (A2.out.fr G3.out (fun x => x)).cell (i := 6) rfl; have r3 := (A2.out.fr G3.out (fun x => x)).cell (i := 10) rfl; have r4 := (A2.out.fr G3.out (fun x => x)).cell (i := 14) rfl; have r5 := (A2.out.fr G3.out (fun x => x)).frozen 2; have r6 := (A2.out.fr G3.out (fun x => x)).frozen 6; have r7 := (A2.out.fr G3.out (fun x => x)).frozen 10; have r8 := (A2.out.fr G3.out (fun x => x)).frozen 14)
  have A3 : Hid (Ar ((((y3.setCell ⟨w.heap.size, 2, none⟩ (.int .u32 a3)).setCell ⟨w.heap.size, 6, none⟩ (.int .u32 b3)).setCell ⟨w.heap.size, 10, none⟩ (.int .u32 c3)).setCell ⟨w.heap.size, 14, none⟩ (.int .u32 d3)) w.heap.size 70 .u32 [a1, a2, a3, v3, b1, b2, b3, v7, c1, c2, c3, v11, d1, d2, d3, v15]) := ((((A2.out.fr G3.out (fun x => x)).set 2 a3).set 6 b3).set 10 c3).set 14 d3
  have X3 : Hid (Ar ((((y3.setCell ⟨w.heap.size, 2, none⟩ (.int .u32 a3)).setCell ⟨w.heap.size, 6, none⟩ (.int .u32 b3)).setCell ⟨w.heap.size, 10, none⟩ (.int .u32 c3)).setCell ⟨w.heap.size, 14, none⟩ (.int .u32 d3)) (w.heap.size + 1) 70 .u32 [x0, x1, x2, x3, x4, x5, x6, x7, x8, x9, x10, x11, x12, x13, x14, x15]) := ((((X2.out.fr G3.out (fun x => x)).far (by show ¬ (w.heap.size + 1) = w.heap.size; omega) _).far (by show ¬ (w.heap.size + 1) = w.heap.size; omega) _).far (by show ¬ (w.heap.size + 1) = w.heap.size; omega) _).far (by show ¬ (w.heap.size + 1) = w.heap.size; omega) _
  have Z3 : Hid (Ar ((((y3.setCell ⟨w.heap.size, 2, none⟩ (.int .u32 a3)).setCell ⟨w.heap.size, 6, none⟩ (.int .u32 b3)).setCell ⟨w.heap.size, 10, none⟩ (.int .u32 c3)).setCell ⟨w.heap.size, 14, none⟩ (.int .u32 d3)) (w.heap.size + 1 + 1) 70 .u32 Z) := ((((Z2.out.fr G3.out (fun x => x)).far (by show ¬ (w.heap.size + 1 + 1) = w.heap.size; omega) _).far (by show ¬ (w.heap.size + 1 + 1) = w.heap.size; omega) _).far (by show ¬ (w.heap.size + 1 + 1) = w.heap.size; omega) _).far (by show ¬ (w.heap.size + 1 + 1) = w.heap.size; omega) _
  have F3 : Hid (Fr (fun _ => False) w ((((y3.setCell ⟨w.heap.size, 2, none⟩ (.int .u32 a3)).setCell ⟨w.heap.size, 6, none⟩ (.int .u32 b3)).setCell ⟨w.heap.size, 10, none⟩ (.int .u32 c3)).setCell ⟨w.heap.size, 14, none⟩ (.int .u32 d3))) := ((((F2.out.trans G3.out).setCell _ (.inr (Nat.le_refl _))).setCell _ (.inr (Nat.le_refl _))).setCell _ (.inr (Nat.le_refl _))).setCell _ (.inr (Nat.le_refl _))
  generalize ((((y3.setCell ⟨w.heap.size, 2, none⟩ (.int .u32 a3)).setCell ⟨w.heap.size, 6, none⟩ (.int .u32 b3)).setCell ⟨w.heap.size, 10, none⟩ (.int .u32 c3)).setCell ⟨w.heap.size, 14, none⟩ (.int .u32 d3)) = Y3 at *
  clear r1 r2 r3 r4 r5 r6 r7 r8 A2 X2 Z2 F2 G3 hM3
  obtain ⟨a4, b4, c4, d4, hq4, wa4, wb4, wc4, wd4, hM4⟩ := mix_ex (x := x6) (y := x7) U3.out U7.out U11.out U15.out
  have Wa4 := Lib.hid wa4
  have Wb4 := Lib.hid wb4
  have Wc4 := Lib.hid wc4
  have Wd4 := Lib.hid wd4
  have E4 : Hid (mx [a1, a2, a3, v3, b1, b2, b3, v7, c1, c2, c3, v11, d1, d2, d3, v15] 3 7 11 15 x6 x7 = [a1, a2, a3, a4, b1, b2, b3, b4, c1, c2, c3, c4, d1, d2, d3, d4]) := by show _ = _; rw [mx3, hq4]
  clear hq4 wa4 wb4 wc4 wd4
  have r1 := A3.out.cell (i := 3) rfl
  have r2 := A3.out.cell (i := 7) rfl
  have r3 := A3.out.cell (i := 11) rfl
  have r4 := A3.out.cell (i := 15) rfl
  have r5 := X3.out.cell (i := 6) rfl
  have r6 := X3.out.cell (i := 7) rfl
  go_upto_region 5 with (go_at_call 56; refine (hM4 _).mono ?_; rintro e y4 ⟨rfl, hf⟩; clear r1 r2 r3 r4 r5 r6; have G4 := Lib.hid hf; clear hf; have r1 := (A3.out.fr G4.out (fun x => x)).cell (i := 3) rfl; have r2 := (A3.out.fr G4.out (fun x => x)).cell (i := 7) rfl; have r3 := (A3.out.fr G4.out (fun x => x)).cell (i := 11) rfl; have r4 := (A3.out.fr G4.out (fun x => x)).cell (i := 15) rfl; have r5 := (A3.out.fr G4.out (fun x => x)).frozen 3; have r6 := (A3.out.fr G4.out (fun x => x)).frozen 7; have r7 := (A3.out.fr G4.out (fun x => x)).frozen 11; have r8 := (A3.out.fr G4.out (fun x => x)).frozen 15)
  have A4 : Hid (Ar ((((y4.setCell ⟨w.heap.size, 3, none⟩ (.int .u32 a4)).setCell ⟨w.heap.size, 7, none⟩ (.int .u32 b4)).setCell ⟨w.heap.size, 11, none⟩ (.int .u32 c4)).setCell ⟨w.heap.size, 15, none⟩ (.int .u32 d4)) w.heap.size 70 .u32 [a1, a2, a3, a4, b1, b2, b3, b4, c1, c2, c3, c4, d1, d2, d3, d4]) := ((((A3.out.fr G4.out (fun x => x)).set 3 a4).set 7 b4).set 11 c4).set 15 d4
  have X4 : Hid (Ar ((((y4.setCell ⟨w.heap.size, 3, none⟩ (.int .u32 a4)).setCell ⟨w.heap.size, 7, none⟩ (.int .u32 b4)).setCell ⟨w.heap.size, 11, none⟩ (.int .u32 c4)).setCell ⟨w.heap.size, 15, none⟩ (.int .u32 d4)) (w.heap.size + 1) 70 .u32 [x0, x1, x2, x3, x4, x5, x6, x7, x8, x9, x10, x11, x12, x13, x14, x15]) := ((((X3.out.fr G4.out (fun x => x)).far (by show ¬ (w.heap.size + 1) = w.heap.size; omega) _).far (by show ¬ (w.heap.size + 1) = w.heap.size; omega) _).far (by show ¬ (w.heap.size + 1) = w.heap.size; omega) _).far (by show ¬ (w.heap.size + 1) = w.heap.size; omega) _
  have Z4 : Hid (Ar ((((y4.setCell ⟨w.heap.size, 3, none⟩ (.int .u32 a4)).setCell ⟨w.heap.size, 7, none⟩ (.int .u32 b4)).setCell ⟨w.heap.size, 11, none⟩ (.int .u32 c4)).setCell ⟨w.heap.size, 15, none⟩ (.int .u32 d4)) (w.heap.size + 1 + 1) 70 .u32 Z) := ((((Z3.out.fr G4.out (fun x => x)).far (by show ¬ (w.heap.size + 1 + 1) = w.heap.size; omega) _).far (by show ¬ (w.heap.size + 1 + 1) = w.heap.size; omega) _).far (by show ¬ (w.heap.size + 1 + 1) = w.heap.size; omega) _).far (by show ¬ (w.heap.size + 1 + 1) = w.heap.size; omega) _
  have F4 : Hid (Fr (fun _ => False) w ((((y4.setCell ⟨w.heap.size, 3, none⟩ (.int .u32 a4)).setCell ⟨w.heap.size, 7, none⟩ (.int .u32 b4)).setCell ⟨w.heap.size, 11, none⟩ (.int .u32 c4)).setCell ⟨w.heap.size, 15, none⟩ (.int .u32 d4))) := ((((F3.out.trans G4.out).setCell _ (.inr (Nat.le_refl _))).setCell _ (.inr (Nat.le_refl _))).setCell _ (.inr (Nat.le_refl _))).setCell _ (.inr (Nat.le_refl _))
  generalize ((((y4.setCell ⟨w.heap.size, 3, none⟩ (.int .u32 a4)).setCell ⟨w.heap.size, 7, none⟩ (.int .u32 b4)).setCell ⟨w.heap.size, 11, none⟩ (.int .u32 c4)).setCell ⟨w.heap.size, 15, none⟩ (.int .u32 d4)) = Y4 at *
  clear r1 r2 r3 r4 r5 r6 r7 r8 A3 X3 Z3 F3 G4 hM4
  obtain ⟨a5, b5, c5, d5, hq5, wa5, wb5, wc5, wd5, hM5⟩ := mix_ex (x := x8) (y := x9) Wa1.out Wb2.out Wc3.out Wd4.out
  have Wa5 := Lib.hid wa5
  have Wb5 := Lib.hid wb5
  have Wc5 := Lib.hid wc5
  have Wd5 := Lib.hid wd5
  have E5 : Hid (mx [a1, a2, a3, a4, b1, b2, b3, b4, c1, c2, c3, c4, d1, d2, d3, d4] 0 5 10 15 x8 x9 = [a5, a2, a3, a4, b1, b5, b3, b4, c1, c2, c5, c4, d1, d2, d3, d5]) := by show _ = _; rw [mx4, hq5]
  clear hq5 wa5 wb5 wc5 wd5
  have r1 := A4.out.cell (i := 0) rfl
  have r2 := A4.out.cell (i := 5) rfl
  have r3 := A4.out.cell (i := 10) rfl
  have r4 := A4.out.cell (i := 15) rfl
  have r5 := X4.out.cell (i := 8) rfl
  have r6 := X4.out.cell (i := 9) rfl
  go_upto_region 6 with (go_at_call 56; refine (hM5 _).mono ?_; rintro e y5 ⟨rfl, hf⟩; clear r1 r2 r3 r4 r5 r6; have G5 := Lib.hid hf; clear hf; have r1 := (A4.out.fr G5.out (fun x => x)).cell (i := 0) rfl; have r2 := (A4.out.fr G5.out (fun x => x)).cell (i := 5) rfl; have r3 := (A4.out.fr G5.out (fun x => x)).cell (i := 10) rfl; have r4 := (A4.out.fr G5.out (fun x => x)).cell (i := 15) rfl; have r5 := (A4.out.fr G5.out (fun x => x)).frozen 0; have r6 := (A4.out.fr G5.out (fun x => x)).frozen 5; have r7 := (A4.out.fr G5.out (fun x => x)).frozen 10; have r8 := (A4.out.fr G5.out (fun x => x)).frozen 15)
  have A5 : Hid (Ar ((((y5.setCell ⟨w.heap.size, 0, none⟩ (.int .u32 a5)).setCell ⟨w.heap.size, 5, none⟩ (.int .u32 b5)).setCell ⟨w.heap.size, 10, none⟩ (.int .u32 c5)).setCell ⟨w.heap.size, 15, none⟩ (.int .u32 d5)) w.heap.size 70 .u32 [a5, a2, a3, a4, b1, b5, b3, b4, c1, c2, c5, c4, d1, d2, d3, d5]) := ((((A4.out.fr G5.out (fun x => x)).set 0 a5).set 5 b5).set 10 c5).set 15 d5
  have X5 : Hid (Ar ((((y5.setCell ⟨w.heap.size, 0, none⟩ (.int .u32 a5)).setCell ⟨w.heap.size, 5, none⟩ (.int .u32 b5)).setCell ⟨w.heap.size, 10, none⟩ (.int .u32 c5)).setCell ⟨w.heap.size, 15, none⟩ (.int .u32 d5)) (w.heap.size + 1) 70 .u32 [x0, x1, x2, x3, x4, x5, x6, x7, x8, x9, x10, x11, x12, x13, x14, x15]) := ((((X4.out.fr G5.out (fun x => x)).far (by show ¬ (w.heap.size + 1) = w.heap.size; omega) _).far (by show ¬ (w.heap.size + 1) = w.heap.size; omega) _).far (by show ¬ (w.heap.size + 1) = w.heap.size; omega) _).far (by show ¬ (w.heap.size + 1) = w.heap.size; omega) _
  have Z5 : Hid (Ar ((((y5.setCell ⟨w.heap.size, 0, none⟩ (.int .u32 a5)).setCell ⟨w.heap.size, 5, none⟩ (.int .u32 b5)).setCell ⟨w.heap.size, 10, none⟩ (.int .u32 c5)).setCell ⟨w.heap.size, 15, none⟩ (.int .u32 d5)) (w.heap.size + 1 + 1) 70 .u32 Z) := ((((Z4.out.fr G5.out (fun x => x)).far (by show ¬ (w.heap.size + 1 + 1) = w.heap.size; omega) _).far (by show ¬ (w.heap.size + 1 + 1) = w.heap.size; omega) _).far (by show ¬ (w.heap.size + 1 + 1) = w.heap.size; omega) _).far (by show ¬ (w.heap.size + 1 + 1) = w.heap.size; omega) _
  have F5 : Hid (Fr (fun _ => False) w ((((y5.setCell ⟨w.heap.size, 0, none⟩ (.int .u32 a5)).setCell ⟨w.heap.size, 5, none⟩ (.int .u32 b5)).setCell ⟨w.heap.size, 10, none⟩ (.int .u32 c5)).setCell ⟨w.heap.size, 15, none⟩ (.int .u32 d5))) := ((((F4.out.trans G5.out).setCell _ (.inr (Nat.le_refl _))).setCell _ (.inr (Nat.le_refl _))).setCell _ (.inr (Nat.le_refl _))).setCell _ (.inr (Nat.le_refl _))
  generalize ((((y5.setCell ⟨w.heap.size, 0, none⟩ (.int .u32 a5)).setCell ⟨w.heap.size, 5, none⟩ (.int .u32 b5)).setCell ⟨w.heap.size, 10, none⟩ (.int .u32 c5)).setCell ⟨w.heap.size, 15, none⟩ (.int .u32 d5)) = Y5 at *
  clear r1 r2 r3 r4 r5 r6 r7 r8 A4 X4 Z4 F4 G5 hM5
  obtain ⟨a6, b6, c6, d6, hq6, wa6, wb6, wc6, wd6, hM6⟩ := mix_ex (x := x10) (y := x11) Wa2.out Wb3.out Wc4.out Wd1.out
  have Wa6 := Lib.hid wa6
  have Wb6 := Lib.hid wb6
  have Wc6 := Lib.hid wc6
  have Wd6 := Lib.hid wd6
  have E6 : Hid (mx [a5, a2, a3, a4, b1, b5, b3, b4, c1, c2, c5, c4, d1, d2, d3, d5] 1 6 11 12 x10 x11 = [a5, a6, a3, a4, b1, b5, b6, b4, c1, c2, c5, c6, d6, d2, d3, d5]) := by show _ = _; rw [mx5, hq6]
  clear hq6 wa6 wb6 wc6 wd6
  have r1 := A5.out.cell (i := 1) rfl
  have r2 := A5.out.cell (i := 6) rfl
  have r3 := A5.out.cell (i := 11) rfl
  have r4 := A5.out.cell (i := 12) rfl
  have r5 := X5.out.cell (i := 10) rfl
  have r6 := X5.out.cell (i := 11) rfl
  go_upto_region 7 with (go_at_call 56; refine (hM6 _).mono ?_; rintro e y6 ⟨rfl, hf⟩; clear r1 r2 r3 r4 r5 r6; have G6 := Lib.hid hf; clear hf; have r1 := (A5.out.fr G6.out (fun x => x)).cell (i := 1) rfl; have r2 := (A5.out.fr G6.out (fun x => x)).cell (i := 6) rfl; have r3 := (A5.out.fr G6.out (fun x => x)).cell (i := 11) rfl; have r4 := (A5.out.fr G6.out (fun x => x)).cell (i := 12) rfl; have r5 := (A5.out.fr G6.out (fun x => x)).frozen 1; have r6 := (A5.out.fr G6.out (fun x => x)).frozen 6; have r7 := (A5.out.fr G6.out (fun x => x)).frozen 11; have r8 := (A5.out.fr G6.out (fun x => x)).frozen 12)
  have A6 : Hid (Ar ((((y6.setCell ⟨w.heap.size, 1, none⟩ (.int .u32 a6)).setCell ⟨w.heap.size, 6, none⟩ (.int .u32 b6)).setCell ⟨w.heap.size, 11, none⟩ (.int .u32 c6)).setCell ⟨w.heap.size, 12, none⟩ (.int .u32 d6)) w.heap.size 70 .u32 [a5, a6, a3, a4, b1, b5, b6, b4, c1, c2, c5, c6, d6, d2, d3, d5]) := ((((A5.out.fr G6.out (fun x => x)).set 1 a6).set 6 b6).set 11 c6).set 12 d6
  have X6 : Hid (Ar ((((y6.setCell ⟨w.heap.size, 1, none⟩ (.int .u32 a6)).setCell ⟨w.heap.size, 6, none⟩ (.int .u32 b6)).setCell ⟨w.heap.size, 11, none⟩ (.int .u32 c6)).setCell ⟨w.heap.size, 12, none⟩ (.int .u32 d6)) (w.heap.size + 1) 70 .u32 [x0, x1, x2, x3, x4, x5, x6, x7, x8, x9, x10, x11, x12, x13, x14, x15]) := ((((X5.out.fr G6.out (fun x => x)).far (by show ¬ (w.heap.size + 1) = w.heap.size; omega) _).far (by show ¬ (w.heap.size + 1) = w.heap.size; omega) _).far (by show ¬ (w.heap.size + 1) = w.heap.size; omega) _).far (by show ¬ (w.heap.size + 1) = w.heap.size; omega) _
  have Z6 : Hid (Ar ((((y6.setCell ⟨w.heap.size, 1, none⟩ (.int .u32 a6)).setCell ⟨w.heap.size, 6, none⟩ (.int .u32 b6)).setCell ⟨w.heap.size, 11, none⟩ (.int .u32 c6)).setCell ⟨w.heap.size, 12, none⟩ (.int .u32 d6)) (w.heap.size + 1 + 1) 70 .u32 Z) := ((((Z5.out.fr G6.out (fun x => x)).far (by show ¬ (w.heap.size + 1 + 1) = w.heap.size; omega) _).far (by show ¬ (w.heap.size + 1 + 1) = w.heap.size; omega) _).far (by show ¬ (w.heap.size + 1 + 1) = w.heap.size; omega) _).far (by show ¬ (w.heap.size + 1 + 1) = w.heap.size; omega) _
  have F6 : Hid (Fr (fun _ => False) w ((((y6.setCell ⟨w.heap.size, 1, none⟩ (.int .u32 a6)).setCell ⟨w.heap.size, 6, none⟩ (.int .u32 b6)).setCell ⟨w.heap.size, 11, none⟩ (.int .u32 c6)).setCell ⟨w.heap.size, 12, none⟩ (.int .u32 d6))) := ((((F5.out.trans G6.out).setCell _ (.inr (Nat.le_refl _))).setCell _ (.inr (Nat.le_refl _))).setCell _ (.inr (Nat.le_refl _))).setCell _ (.inr (Nat.le_refl _))
  generalize ((((y6.setCell ⟨w.heap.size, 1, none⟩ (.int .u32 a6)).setCell ⟨w.heap.size, 6, none⟩ (.int .u32 b6)).setCell ⟨w.heap.size, 11, none⟩ (.int .u32 c6)).setCell ⟨w.heap.size, 12, none⟩ (.int .u32 d6)) = Y6 at *
  clear r1 r2 r3 r4 r5 r6 r7 r8 A5 X5 Z5 F5 G6 hM6
  obtain ⟨a7, b7, c7, d7, hq7, wa7, wb7, wc7, wd7, hM7⟩ := mix_ex (x := x12) (y := x13) Wa3.out Wb4.out Wc1.out Wd2.out
  have Wa7 := Lib.hid wa7
  have Wb7 := Lib.hid wb7
  have Wc7 := Lib.hid wc7
  have Wd7 := Lib.hid wd7
  have E7 : Hid (mx [a5, a6, a3, a4, b1, b5, b6, b4, c1, c2, c5, c6, d6, d2, d3, d5] 2 7 8 13 x12 x13 = [a5, a6, a7, a4, b1, b5, b6, b7, c7, c2, c5, c6, d6, d7, d3, d5]) := by show _ = _; rw [mx6, hq7]
  clear hq7 wa7 wb7 wc7 wd7
  have r1 := A6.out.cell (i := 2) rfl
  have r2 := A6.out.cell (i := 7) rfl
  have r3 := A6.out.cell (i := 8) rfl
  have r4 := A6.out.cell (i := 13) rfl
  have r5 := X6.out.cell (i := 12) rfl
  have r6 := X6.out.cell (i := 13) rfl
  go_upto_region 8 with (go_at_call 56; refine (hM7 _).mono ?_; rintro e y7 ⟨rfl, hf⟩; clear r1 r2 r3 r4 r5 r6; have G7 := Lib.hid hf; clear hf; have r1 := (A6.out.fr G7.out (fun x => x)).cell (i := 2) rfl; have r2 := (A6.out.fr G7.out (fun x => x)).cell (i := 7) rfl; have r3 := (A6.out.fr G7.out (fun x => x)).cell (i := 8) rfl; have r4 := (A6.out.fr G7.out (fun x => x)).cell (i := 13) rfl; have r5 := (A6.out.fr G7.out (fun x => x)).frozen 2; have r6 := (A6.out.fr G7.out (fun x => x)).frozen 7; have r7 := (A6.out.fr G7.out (fun x => x)).frozen 8; have r8 := (A6.out.fr G7.out (fun x => x)).frozen 13)
  have A7 : Hid (Ar ((((y7.setCell ⟨w.heap.size, 2, none⟩ (.int .u32 a7)).setCell ⟨w.heap.size, 7, none⟩ (.int .u32 b7)).setCell ⟨w.heap.size, 8, none⟩ (.int .u32 c7)).setCell ⟨w.heap.size, 13, none⟩ (.int .u32 d7)) w.heap.size 70 .u32 [a5, a6, a7, a4, b1, b5, b6, b7, c7, c2, c5, c6, d6, d7, d3, d5]) := ((((A6.out.fr G7.out (fun x => x)).set 2 a7).set 7 b7).set 8 c7).set 13 d7
  have X7 : Hid (Ar ((((y7.setCell ⟨w.heap.size, 2, none⟩ (.int .u32 a7)).setCell ⟨w.heap.size, 7, none⟩ (.int .u32 b7)).setCell ⟨w.heap.size, 8, none⟩ (.int .u32 c7)).setCell ⟨w.heap.size, 13, none⟩ (.int .u32 d7)) (w.heap.size + 1) 70 .u32 [x0, x1, x2, x3, x4, x5, x6, x7, x8, x9, x10, x11, x12, x13, x14, x15]) := ((((X6.out.fr G7.out (fun x => x)).far (by show ¬ (w.heap.size + 1) = w.heap.size; omega) _).far (by show ¬ (w.heap.size + 1) = w.heap.size; omega) _).far (by show ¬ (w.heap.size + 1) = w.heap.size; omega) _).far (by show ¬ (w.heap.size + 1) = w.heap.size; omega) _
  have Z7 : Hid (Ar ((((y7.setCell ⟨w.heap.size, 2, none⟩ (.int .u32 a7)).setCell ⟨w.heap.size, 7, none⟩ (.int .u32 b7)).setCell ⟨w.heap.size, 8, none⟩ (.int .u32 c7)).setCell ⟨w.heap.size, 13, none⟩ (.int .u32 d7)) (w.heap.size + 1 + 1) 70 .u32 Z) := ((((Z6.out.fr G7.out (fun x => x)).far (by show ¬ (w.heap.size + 1 + 1) = w.heap.size; omega) _).far (by show ¬ (w.heap.size + 1 + 1) = w.heap.size; omega) _).far (by show ¬ (w.heap.size + 1 + 1) = w.heap.size; omega) _).far (by show ¬ (w.heap.size + 1 + 1) = w.heap.size; omega) _
  have F7 : Hid (Fr (fun _ => False) w ((((y7.setCell ⟨w.heap.size, 2, none⟩ (.int .u32 a7)).setCell ⟨w.heap.size, 7, none⟩ (.int .u32 b7)).setCell ⟨w.heap.size, 8, none⟩ (.int .u32 c7)).setCell ⟨w.heap.size, 13, none⟩ (.int .u32 d7))) := ((((F6.out.trans G7.out).setCell _ (.inr (Nat.le_refl _))).setCell _ (.inr (Nat.le_refl _))).setCell _ (.inr (Nat.le_refl _))).setCell _ (.inr (Nat.le_refl _))
  generalize ((((y7.setCell ⟨w.heap.size, 2, none⟩ (.int .u32 a7)).setCell ⟨w.heap.size, 7, none⟩ (.int .u32 b7)).setCell ⟨w.heap.size, 8, none⟩ (.int .u32 c7)).setCell ⟨w.heap.size, 13, none⟩ (.int .u32 d7)) = Y7 at *
  clear r1 r2 r3 r4 r5 r6 r7 r8 A6 X6 Z6 F6 G7 hM7
  obtain ⟨a8, b8, c8, d8, hq8, wa8, wb8, wc8, wd8, hM8⟩ := mix_ex (x := x14) (y := x15) Wa4.out Wb1.out Wc2.out Wd3.out
  have Wa8 := Lib.hid wa8
  have Wb8 := Lib.hid wb8
  have Wc8 := Lib.hid wc8
  have Wd8 := Lib.hid wd8
  have E8 : Hid (mx [a5, a6, a7, a4, b1, b5, b6, b7, c7, c2, c5, c6, d6, d7, d3, d5] 3 4 9 14 x14 x15 = [a5, a6, a7, a8, b8, b5, b6, b7, c7, c8, c5, c6, d6, d7, d8, d5]) := by show _ = _; rw [mx7, hq8]
  clear hq8 wa8 wb8 wc8 wd8
  have r1 := A7.out.cell (i := 3) rfl
  have r2 := A7.out.cell (i := 4) rfl
  have r3 := A7.out.cell (i := 9) rfl
  have r4 := A7.out.cell (i := 14) rfl
  have r5 := X7.out.cell (i := 14) rfl
  have r6 := X7.out.cell (i := 15) rfl
  go_upto_region 9 with (go_at_call 56; refine (hM8 _).mono ?_; rintro e y8 ⟨rfl, hf⟩; clear r1 r2 r3 r4 r5 r6; have G8 := Lib.hid hf; clear hf; have r1 := (A7.out.fr G8.out (fun x => x)).cell (i := 3) rfl; have r2 := (A7.out.fr G8.out (fun x => x)).cell (i := 4) rfl; have r3 := (A7.out.fr G8.out (fun x => x)).cell (i := 9) rfl; have r4 := (A7.out.fr G8.out (fun x => x)).cell (i := 14) rfl; have r5 := (A7.out.fr G8.out (fun x => x)).frozen 3; have r6 := (A7.out.fr G8.out (fun x => x)).frozen 4; have r7 := (A7.out.fr G8.out (fun x => x)).frozen 9; have r8 := (A7.out.fr G8.out (fun x => x)).frozen 14)
  have A8 : Hid (Ar ((((y8.setCell ⟨w.heap.size, 3, none⟩ (.int .u32 a8)).setCell ⟨w.heap.size, 4, none⟩ (.int .u32 b8)).setCell ⟨w.heap.size, 9, none⟩ (.int .u32 c8)).setCell ⟨w.heap.size, 14, none⟩ (.int .u32 d8)) w.heap.size 70 .u32 [a5, a6, a7, a8, b8, b5, b6, b7, c7, c8, c5, c6, d6, d7, d8, d5]) := ((((A7.out.fr G8.out (fun x => x)).set 3 a8).set 4 b8).set 9 c8).set 14 d8
  have X8 : Hid (Ar ((((y8.setCell ⟨w.heap.size, 3, none⟩ (.int .u32 a8)).setCell ⟨w.heap.size, 4, none⟩ (.int .u32 b8)).setCell ⟨w.heap.size, 9, none⟩ (.int .u32 c8)).setCell ⟨w.heap.size, 14, none⟩ (.int .u32 d8)) (w.heap.size + 1) 70 .u32 [x0, x1, x2, x3, x4, x5, x6, x7, x8, x9, x10, x11, x12, x13, x14, x15]) := ((((X7.out.fr G8.out (fun x => x)).far (by show ¬ (w.heap.size + 1) = w.heap.size; omega) _).far (by show ¬ (w.heap.size + 1) = w.heap.size; omega) _).far (by show ¬ (w.heap.size + 1) = w.heap.size; omega) _).far (by show ¬ (w.heap.size + 1) = w.heap.size; omega) _
  have Z8 : Hid (Ar ((((y8.setCell ⟨w.heap.size, 3, none⟩ (.int .u32 a8)).setCell ⟨w.heap.size, 4, none⟩ (.int .u32 b8)).setCell ⟨w.heap.size, 9, none⟩ (.int .u32 c8)).setCell ⟨w.heap.size, 14, none⟩ (.int .u32 d8)) (w.heap.size + 1 + 1) 70 .u32 Z) := ((((Z7.out.fr G8.out (fun x => x)).far (by show ¬ (w.heap.size + 1 + 1) = w.heap.size; omega) _).far (by show ¬ (w.heap.size + 1 + 1) = w.heap.size; omega) _).far (by show ¬ (w.heap.size + 1 + 1) = w.heap.size; omega) _).far (by show ¬ (w.heap.size + 1 + 1) = w.heap.size; omega) _
  have F8 : Hid (Fr (fun _ => False) w ((((y8.setCell ⟨w.heap.size, 3, none⟩ (.int .u32 a8)).setCell ⟨w.heap.size, 4, none⟩ (.int .u32 b8)).setCell ⟨w.heap.size, 9, none⟩ (.int .u32 c8)).setCell ⟨w.heap.size, 14, none⟩ (.int .u32 d8))) := ((((F7.out.trans G8.out).setCell _ (.inr (Nat.le_refl _))).setCell _ (.inr (Nat.le_refl _))).setCell _ (.inr (Nat.le_refl _))).setCell _ (.inr (Nat.le_refl _))
  generalize ((((y8.setCell ⟨w.heap.size, 3, none⟩ (.int .u32 a8)).setCell ⟨w.heap.size, 4, none⟩ (.int .u32 b8)).setCell ⟨w.heap.size, 9, none⟩ (.int .u32 c8)).setCell ⟨w.heap.size, 14, none⟩ (.int .u32 d8)) = Y8 at *
  clear r1 r2 r3 r4 r5 r6 r7 r8 A7 X7 Z7 F7 G8 hM8
  have RR : Hid (R = [a5, a6, a7, a8, b8, b5, b6, b7, c7, c8, c5, c6, d6, d7, d8, d5]) := by
    show _ = _
    rw [R0.out]
    have h1 := E1.out
    have h2 := E2.out
    have h3 := E3.out
    have h4 := E4.out
    have h5 := E5.out
    have h6 := E6.out
    have h7 := E7.out
    have h8 := E8.out
    exact rnB_eq _ _ _ _ _ _ _ _ _ () h1 h2 h3 h4 h5 h6 h7 h8
  have A9 : Hid (Y8.heap[w.heap.size]? = some (.cells RV 70 (0, 0))) := by show _ = _; rw [A8.out, HRV.out, RR.out]
  have s9 : Hid ((Try.prog.info? 70).map (·.size) = some RV.size) := by show _ = _; rw [szS, HRV.out, vs_size, RR.out]; rfl
  have e9 : Hid ((vs .u32 Z).size = RV.size) := by show _ = _; rw [vs_size, lZ.out, HRV.out, vs_size, RR.out]; rfl
  have a9 : Hid (RV.all (·.oneCell') = true) := by show _ = _; rw [HRV.out]; exact vs_all _ _
  clear RR R0 A8 X8 HRV
  go_wp2_with (first
    | refine wpList_load_row rfl 70 (.tmp 2) rfl (w.heap.size) rfl 70 RV (0, 0) _ A9.out Try.underlying70 rfl s9.out ?_
    | refine wpList_store_row rfl 70 (.tmp 4) (.tmp 181) rfl (w.heap.size + 1 + 1) RV rfl rfl 70 _ Z8.out s9.out e9.out a9.out ?_)
  refine bodyPost_ret (results_cell_row Try.results53 _ _ _ 70 _ (0, 0) _ rfl (setRow_heap _ _ _ _ _ _ Z8.out) Try.underlying70 rfl s9.out) rfl ⟨rfl, F8.out.setRow _ (.inr (by omega))⟩
end Go.Proofs.Ytebknlhooijkcaa
