/- The program's by, start, bytes: contracts. Conditions: words; places below 16. -/
import Derived.Test.YtebknlhooijkcaaZrb
namespace Go.Proofs.Ytebknlhooijkcaa
set_option linter.unusedSimpArgs false
set_option linter.unusedVariables false
open Go.ChangeShapes Go.WideShapes Go.ChangeAt Go.RowKit

theorem fil_getp (L : List Int) (k j : Nat) (x : Int) (hk : k ≤ j) (h : j < L.length) : (fil L k x)[j]? = some x := by
  unfold fil
  rw [List.getElem?_append_right (by rw [List.length_take]; omega), List.length_take, Nat.min_eq_left (by omega), List.getElem?_replicate, if_pos (by omega)]
/-- Words in an order. -/
def byv (m O : List Int) : List Int := (List.range 16).map fun i => m.getD (O.getD i 0).toNat 0
theorem byv_length (m O : List Int) : (byv m O).length = 16 := by simp [byv]
theorem byv_get (m O : List Int) {i : Nat} (hi : i < 16) : (byv m O)[i]? = some (m.getD (O.getD i 0).toNat 0) := by simp [byv, List.getElem?_map, List.getElem?_range hi]
theorem szO : (Try.prog.info? 80).map (·.size) = some 16 := by kernel_rfl
theorem szK : (Try.prog.info? 24).map (·.size) = some 32 := by kernel_rfl
theorem szE : (Try.prog.info? 52).map (·.size) = some 8 := by kernel_rfl
theorem zeroE : ∀ W : World, (zeroValue 52).run Try.prog W = .ok (.agg (vs .u32 (List.replicate 8 0))) W := fun _ => by kernel_rfl
theorem zeroK : ∀ W : World, (zeroValue 24).run Try.prog W = .ok (.agg (vs .u8 (List.replicate 32 0))) W := fun _ => by kernel_rfl
/-- An array by value, indexed: a cell, a row of cells. -/
theorem index_cell {t e : TypeId} {n : Nat} {k : IntKind} (ht : Try.prog.underlying t = some (.array n e)) (he : Try.prog.underlying e = some (.int k)) (hs : (Try.prog.info? e).map (·.size) = some 1) (V : Array Value) (i : Nat) (hi : i < n) {v : Value} (hv : V[i]? = some v) (w : World) :
    (Instr.index t (.agg V) (.int .i64 (i : Int))).run Try.prog w = .ok v w := by
  have hp := run_part_plain (P := Try.prog) (e := e) w (by unfold Program.plainKey; simp [he]) (xs := V) (off := i) hv
  cases hq : Try.prog.info? e with
  | none => simp [hq] at hs
  | some j =>
    have hj : j.size = 1 := by simpa [hq] using hs
    simp [Instr.index, run_underlying ht, asIntOf, hi, sizeOf, typeInfo, hq, hj, hp, Sem.run_bind, Sem.run_pure, Result.andThen_ok]
set_option maxRecDepth 100000 in
set_option maxHeartbeats 16000000 in
theorem by_is (m O : List Int) (w : World) (hm : V16 m) (hO : O.length = 16) (hb : ∀ i, i < 16 → ∃ n : Nat, n < 16 ∧ O[i]? = some (n : Int)) :
    Calls Try.prog 54 #[.agg (vs .u32 m), .agg (vs .u8 O)] w fun e w' => e = .returned (.agg (vs .u32 (byv m O))) ∧ Fr (fun _ => False) w w' := by
  obtain ⟨L, hL⟩ : ∃ L, L = byv m O := ⟨_, rfl⟩
  have lL : Hid (L.length = 16) := by show _ = _; rw [hL, byv_length]
  have HL : Hid (∀ i, i < 16 → L[i]? = some (m.getD (O.getD i 0).toNat 0)) := by show ∀ _, _; rw [hL]; exact fun i hi => byv_get m O hi
  have HM := Lib.hid hm
  have HO := Lib.hid hb
  have lO := Lib.hid hO
  have hz : ∀ W : World, (zeroValue 70).run Try.prog W = .ok (.agg (vs .u32 (fil L 0 0))) W := fun W => by rw [fil_zero, lL.out]; exact zeroS W
  have s1 : Hid ((Try.prog.info? 70).map (·.size) = some (vs .u32 L).size) := by show _ = _; rw [szS, vs_size, lL.out]
  have sO : Hid ((Try.prog.info? 80).map (·.size) = some (vs .u8 O).size) := by show _ = _; rw [szO, vs_size, hO]
  have e0 : Hid ((vs .u32 (fil L 0 0)).size = (vs .u32 L).size) := by show _ = _; rw [vs_size, vs_size, fil_length L 0 0 (by have := lL.out; omega)]
  obtain ⟨OV, hOV⟩ : ∃ V, V = vs .u8 O := ⟨_, rfl⟩
  have HOV := Lib.hid hOV
  obtain ⟨MV, hMV⟩ : ∃ V, V = vs .u32 m := ⟨_, rfl⟩
  have HMV := Lib.hid hMV
  rw [← hL, ← hOV, ← hMV]
  clear hL hm hb hO hOV hMV
  go_enter Try.func54, Try.ntmps54
  go_upto_region 2 with (fail)
  generalize hW : (((w.alloc (.cells MV 70)).alloc (.cells OV 80)).alloc (.cells (vs .u32 (fil L 0 0)) 70)).alloc (.cells (vs .u32 (fil L 0 0)) 70) = W0
  have HW := Lib.hid (calm4 hW)
  clear hW hz
  have M0 : Hid (Ar W0 w.heap.size 70 .u32 m) := by show _ = _; rw [HW.out.1, HMV.out]
  have O0 : Hid (Ar W0 (w.heap.size + 1) 80 .u8 O) := by show _ = _; rw [HW.out.2.1, HOV.out]
  have R0 : Hid (Ar W0 (w.heap.size + 1 + 1) 70 .u32 (fil L 0 0)) := HW.out.2.2.1
  have X0 : Hid (Ar W0 (w.heap.size + 1 + 1 + 1) 70 .u32 (fil L 0 0)) := HW.out.2.2.2.1
  have F0 : Hid (Fr (fun _ => False) w W0) := HW.out.2.2.2.2
  clear HW HMV
  go_upto_region 3 with (refine wpList_load_row rfl 80 (.tmp 3) rfl (w.heap.size + 1) rfl 80 (vs .u8 O) (0, 0) _ O0.out Try.underlying80 rfl sO.out ?_)
  rw [← HOV.out]
  go_loopw [6, 7, 9] (fun _ _ u9 wr => ∃ i : Nat, u9 = .int .i64 i ∧ i ≤ 16 ∧ Hid (Ar wr w.heap.size 70 .u32 m) ∧ Hid (Ar wr (w.heap.size + 1 + 1) 70 .u32 (fil L 0 0)) ∧ Hid (Ar wr (w.heap.size + 1 + 1 + 1) 70 .u32 (fil L i 0)) ∧ Hid (Fr (fun _ => False) w wr)) (fun _ _ u9 _ => 16 - (intOf u9).toNat)
  case atStart => exact ⟨0, rfl, by omega, M0, R0, X0, F0⟩
  case round =>
  clear M0 R0 X0 F0 O0
  obtain ⟨i, rfl, hi, hM, hR, hX, hF⟩ := hrel
  by_cases hil : i < 16
  · obtain ⟨n, hn, hOi⟩ := HO.out i hil
    obtain ⟨y, hy⟩ : ∃ y : Int, m[n]? = some y := ⟨_, getD_some (by rw [HM.out.1]; exact hn)⟩
    have gL := HL.out i hil
    rw [List.getD_eq_getElem?_getD, List.getD_eq_getElem?_getD, hOi, show (some (n : Int)).getD 0 = (n : Int) from rfl, Int.toNat_natCast, hy] at gL
    have gL2 : L[i]? = some y := gL
    have hOV : OV[i]? = some (.int .u8 (n : Int)) := by rw [HOV.out, vs_get, hOi]; rfl
    have cM := hM.out.cell hy
    have cX := hX.out.cell (fil_get L i 0 (by have := lL.out; omega))
    have fX := hX.out.frozen i
    have X2 := Lib.hid (hX.out.set i y)
    rw [fil_set L i 0 _ gL2] at X2
    have GM := Lib.hid hM.out
    have GR := Lib.hid hR.out
    have j1 : (i : Int) < 16 := by omega
    have j2 : 0 ≤ (i : Int) := by omega
    have j3 : ((i : Int)).toNat = i := by omega
    have k1 : (n : Int) < 16 := by omega
    have k2 : 0 ≤ (n : Int) := by omega
    have k3 : ((n : Int)).toNat = n := by omega
    have hI : ∀ W, (Instr.index 80 (.agg OV) (.int .i64 (i : Int))).run Try.prog W = .ok (.int .u8 (n : Int)) W := fun W => index_cell Try.underlying80 Try.underlying5 size5 OV i hil hOV W
    clear gL gL2 hX hy hOi hOV hn
    go_wp2
    go_roundw
    case rel => exact ⟨i + 1, by go_num, by omega, GM.out.far (by show ¬ w.heap.size = (w.heap.size + 1 + 1 + 1); omega) _, GR.out.far (by show ¬ (w.heap.size + 1 + 1) = (w.heap.size + 1 + 1 + 1); omega) _, X2, hF.out.setCell _ (.inr (by show w.heap.size ≤ w.heap.size + 1 + 1 + 1; omega))⟩
    case measure => simp [intOf]; omega
  obtain rfl : i = 16 := by omega
  have X9 : Hid (Ar wr (w.heap.size + 1 + 1 + 1) 70 .u32 L) := by
    have h := hX.out
    have e := fil_all L (0 : Int)
    rw [lL.out] at e
    rwa [e] at h
  clear hX
  go_wp2_with (first
    | refine wpList_load_row rfl 70 (.tmp 5) rfl (w.heap.size + 1 + 1 + 1) rfl 70 (vs .u32 L) (0, 0) _ X9.out Try.underlying70 rfl s1.out ?_
    | refine wpList_store_row rfl 70 (.tmp 4) (.tmp 19) rfl (w.heap.size + 1 + 1) (vs .u32 L) rfl rfl 70 _ hR.out s1.out e0.out (vs_all _ _) ?_)
  refine bodyPost_ret (results_cell_row Try.results54 _ _ _ 70 _ (0, 0) _ rfl (setRow_heap _ _ _ _ _ _ hR.out) Try.underlying70 rfl s1.out) rfl ⟨rfl, hF.out.setRow _ (.inr (by omega))⟩

set_option maxRecDepth 100000 in
set_option maxHeartbeats 16000000 in
theorem bytes_is (h : List Int) (w : World) (hh : V8 h) : Calls Try.prog 47 #[.agg (vs .u32 h)] w fun e w' => e = .returned (.agg (vs .u8 (bsw h))) ∧ Fr (fun _ => False) w w' := by
  obtain ⟨L, hL⟩ : ∃ L, L = bsw h := ⟨_, rfl⟩
  have lL : Hid (L.length = 32) := by show _ = _; rw [hL, bsw_length, hh.1]
  have HL : Hid (∀ i, i < 8 → ∃ x, h[i]? = some x ∧ Wd x ∧ L[4 * i]? = some (x % 256) ∧ L[4 * i + 1]? = some (x / 256 % 256) ∧ L[4 * i + 2]? = some (x / 65536 % 256) ∧ L[4 * i + 3]? = some (x / 16777216 % 256)) := by
    show ∀ _, _
    intro i hi
    obtain ⟨e, g⟩ := hh.get hi
    exact ⟨_, e, g, by rw [hL]; exact bsw_get h i _ e⟩
  have lH : Hid (h.length = 8) := hh.1
  have hz : ∀ W : World, (zeroValue 24).run Try.prog W = .ok (.agg (vs .u8 (fil L 0 0))) W := fun W => by rw [fil_zero, lL.out]; exact zeroK W
  have s1 : Hid ((Try.prog.info? 24).map (·.size) = some (vs .u8 L).size) := by show _ = _; rw [szK, vs_size, lL.out]
  have sH : Hid ((Try.prog.info? 52).map (·.size) = some (vs .u32 h).size) := by show _ = _; rw [szE, vs_size, hh.1]
  have e0 : Hid ((vs .u8 (fil L 0 0)).size = (vs .u8 L).size) := by show _ = _; rw [vs_size, vs_size, fil_length L 0 0 (by have := lL.out; omega)]
  obtain ⟨HV, hHV⟩ : ∃ V, V = vs .u32 h := ⟨_, rfl⟩
  have HHV := Lib.hid hHV
  rw [← hL, ← hHV]
  clear hL hh hHV
  go_enter Try.func47, Try.ntmps47
  go_upto_region 2 with (fail)
  generalize hW : ((w.alloc (.cells HV 52)).alloc (.cells (vs .u8 (fil L 0 0)) 24)).alloc (.cells (vs .u8 (fil L 0 0)) 24) = W0
  have HW := Lib.hid (calm3 hW)
  clear hW hz
  have H0 : Hid (Ar W0 w.heap.size 52 .u32 h) := by show _ = _; rw [HW.out.1, HHV.out]
  have R0 : Hid (Ar W0 (w.heap.size + 1) 24 .u8 (fil L 0 0)) := HW.out.2.1
  have X0 : Hid (Ar W0 (w.heap.size + 1 + 1) 24 .u8 (fil L (4 * 0) 0)) := HW.out.2.2.1
  have F0 : Hid (Fr (fun _ => False) w W0) := HW.out.2.2.2
  clear HW
  go_upto_region 3 with (refine wpList_load_row rfl 52 (.tmp 1) rfl (w.heap.size) rfl 52 (vs .u32 h) (0, 0) _ H0.out Try.underlying52 rfl sH.out ?_)
  rw [← HHV.out]
  go_loopw [4, 5, 7] (fun _ _ u7 wr => ∃ i : Nat, u7 = .int .i64 i ∧ i ≤ 8 ∧ Hid (Ar wr (w.heap.size + 1) 24 .u8 (fil L 0 0)) ∧ Hid (Ar wr (w.heap.size + 1 + 1) 24 .u8 (fil L (4 * i) 0)) ∧ Hid (Fr (fun _ => False) w wr)) (fun _ _ u7 _ => 8 - (intOf u7).toNat)
  case atStart => exact ⟨0, rfl, by omega, R0, X0, F0⟩
  case round =>
  clear R0 X0 F0 H0
  obtain ⟨i, rfl, hi, hR, hX, hF⟩ := hrel
  by_cases hil : i < 8
  · obtain ⟨x, hx, wx, g0, g1, g2, g3⟩ := HL.out i hil
    have hV : HV[i]? = some (.int .u32 x) := by rw [HHV.out, vs_get, hx]; rfl
    have hI : ∀ W, (Instr.index 52 (.agg HV) (.int .i64 (i : Int))).run Try.prog W = .ok (.int .u32 x) W := fun W => index_cell Try.underlying52 Try.underlying50 sz47 HV i hil hV W
    obtain ⟨y0, e0⟩ : ∃ y, IntKind.u8.wrap x = y := ⟨_, rfl⟩
    obtain ⟨y1, e1⟩ : ∃ y, IntKind.u8.wrap (x / 256) = y := ⟨_, rfl⟩
    obtain ⟨y2, e2⟩ : ∃ y, IntKind.u8.wrap (x / 65536) = y := ⟨_, rfl⟩
    obtain ⟨y3, e3⟩ : ∃ y, IntKind.u8.wrap (x / 16777216) = y := ⟨_, rfl⟩
    rw [← IntKind.wrap_u8, e0] at g0
    rw [← IntKind.wrap_u8, e1] at g1
    rw [← IntKind.wrap_u8, e2] at g2
    rw [← IntKind.wrap_u8, e3] at g3
    have lf := fil_length L (4 * i) 0 (by have := lL.out; omega)
    have A0 := hX.out
    have A1 := A0.set (4 * i) y0
    rw [fil_set L (4 * i) 0 _ g0] at A1
    have A2 := A1.set (4 * i + 1) y1
    rw [fil_set L (4 * i + 1) 0 _ g1] at A2
    have A3 := A2.set (4 * i + 2) y2
    rw [fil_set L (4 * i + 2) 0 _ g2] at A3
    have A4 := A3.set (4 * i + 3) y3
    rw [fil_set L (4 * i + 3) 0 _ g3] at A4
    have c0 := A0.cell (i := 4 * i) (fil_get L (4 * i) 0 (by have := lL.out; omega))
    have c1 := A0.cell (i := 4 * i + 1) (fil_getp L (4 * i) (4 * i + 1) 0 (by omega) (by have := lL.out; omega))
    have c2 := A0.cell (i := 4 * i + 2) (fil_getp L (4 * i) (4 * i + 2) 0 (by omega) (by have := lL.out; omega))
    have c3 := A0.cell (i := 4 * i + 3) (fil_getp L (4 * i) (4 * i + 3) 0 (by omega) (by have := lL.out; omega))
    have f0 := A0.frozen (4 * i)
    have f1 := A0.frozen (4 * i + 1)
    have f2 := A0.frozen (4 * i + 2)
    have f3 := A0.frozen (4 * i + 3)
    have X2 := Lib.hid A4
    have GR := Lib.hid hR.out
    have j0 : (i : Int) < 8 := by omega
    have j1 : IntKind.i64.wrap (4 * (i : Int)) = 4 * i := by rw [IntKind.wrap_i64]; omega
    have j2 : IntKind.i64.wrap (4 * (i : Int) + 1) = 4 * i + 1 := by rw [IntKind.wrap_i64]; omega
    have j3 : IntKind.i64.wrap (4 * (i : Int) + 2) = 4 * i + 2 := by rw [IntKind.wrap_i64]; omega
    have j4 : IntKind.i64.wrap (4 * (i : Int) + 3) = 4 * i + 3 := by rw [IntKind.wrap_i64]; omega
    have t0 : (4 * (i : Int)).toNat = 4 * i := by omega
    have t1 : (4 * (i : Int) + 1).toNat = 4 * i + 1 := by omega
    have t2 : (4 * (i : Int) + 2).toNat = 4 * i + 2 := by omega
    have t3 : (4 * (i : Int) + 3).toNat = 4 * i + 3 := by omega
    have p0 : 0 ≤ 4 * (i : Int) := by omega
    have p1 : 0 ≤ 4 * (i : Int) + 1 := by omega
    have p2 : 0 ≤ 4 * (i : Int) + 2 := by omega
    have p3 : 0 ≤ 4 * (i : Int) + 3 := by omega
    have q0 : 4 * (i : Int) < 32 := by omega
    have q1 : 4 * (i : Int) + 1 < 32 := by omega
    have q2 : 4 * (i : Int) + 2 < 32 := by omega
    have q3 : 4 * (i : Int) + 3 < 32 := by omega
    clear A0 A1 A2 A3 A4 g0 g1 g2 g3 hX hx wx hV lf
    go_wp2
    go_roundw
    case rel => exact ⟨i + 1, by go_num, by omega, (((GR.out.far (by show ¬ (w.heap.size + 1) = (w.heap.size + 1 + 1); omega) _).far (by show ¬ (w.heap.size + 1) = (w.heap.size + 1 + 1); omega) _).far (by show ¬ (w.heap.size + 1) = (w.heap.size + 1 + 1); omega) _).far (by show ¬ (w.heap.size + 1) = (w.heap.size + 1 + 1); omega) _, X2, (((hF.out.setCell _ (.inr (by show w.heap.size ≤ w.heap.size + 1 + 1; omega))).setCell _ (.inr (by show w.heap.size ≤ w.heap.size + 1 + 1; omega))).setCell _ (.inr (by show w.heap.size ≤ w.heap.size + 1 + 1; omega))).setCell _ (.inr (by show w.heap.size ≤ w.heap.size + 1 + 1; omega))⟩
    case measure => simp [intOf]; omega
  obtain rfl : i = 8 := by omega
  have X9 : Hid (Ar wr (w.heap.size + 1 + 1) 24 .u8 L) := by
    have h := hX.out
    have e := fil_all L (0 : Int)
    rw [lL.out] at e
    rwa [e] at h
  clear hX
  go_wp2_with (first
    | refine wpList_load_row rfl 24 (.tmp 3) rfl (w.heap.size + 1 + 1) rfl 24 (vs .u8 L) (0, 0) _ X9.out Try.underlying24 rfl s1.out ?_
    | refine wpList_store_row rfl 24 (.tmp 2) (.tmp 38) rfl (w.heap.size + 1) (vs .u8 L) rfl rfl 24 _ hR.out s1.out e0.out (vs_all _ _) ?_)
  refine bodyPost_ret (results_cell_row Try.results47 _ _ _ 24 _ (0, 0) _ rfl (setRow_heap _ _ _ _ _ _ hR.out) Try.underlying24 rfl s1.out) rfl ⟨rfl, hF.out.setRow _ (.inr (by omega))⟩
end Go.Proofs.Ytebknlhooijkcaa

/- The program's start, orders, beside: contracts. Condition: eight words. -/
namespace Go.Proofs.Ytebknlhooijkcaa
set_option linter.unusedSimpArgs false
set_option linter.unusedVariables false
open Go.ChangeShapes Go.WideShapes Go.ChangeAt Go.RowKit

theorem szOO : (Try.prog.info? 81).map (·.size) = some 160 := by kernel_rfl
theorem zeroOO : ∀ W : World, (zeroValue 81).run Try.prog W = .ok (.agg (vs .u8 (List.replicate 160 0))) W := fun _ => by kernel_rfl
set_option maxRecDepth 100000 in
set_option maxHeartbeats 4000000 in
theorem start_w (w : World) : Calls Try.prog 43 #[] w fun e w' => e = .returned (.agg (vs .u32 iv)) ∧ Fr (fun _ => False) w w' := by
  obtain ⟨Z, hZ⟩ : ∃ Z, Z = List.replicate 8 (0 : Int) := ⟨_, rfl⟩
  have hz : ∀ W : World, (zeroValue 52).run Try.prog W = .ok (.agg (vs .u32 Z)) W := fun W => by rw [hZ]; exact zeroE W
  have lZ : Hid (Z.length = 8) := by show _ = _; rw [hZ]; rfl
  clear hZ
  obtain ⟨V, hV⟩ : ∃ V, V = iv := ⟨_, rfl⟩
  have lV : Hid (V.length = 8) := by show _ = _; rw [hV]; rfl
  have HV := Lib.hid hV
  have s1 : Hid ((Try.prog.info? 52).map (·.size) = some (vs .u32 V).size) := by show _ = _; rw [szE, vs_size, lV.out]
  have e0 : Hid ((vs .u32 Z).size = (vs .u32 V).size) := by show _ = _; rw [vs_size, vs_size, lZ.out, lV.out]
  rw [← hV]
  clear hV
  go_enter Try.func43, Try.ntmps43
  go_upto_region 1 with (fail)
  generalize hW : w.alloc (.cells (vs .u32 Z) 52) = W0
  have HW := Lib.hid (calm1a hW)
  clear hW hz
  have R0 : Hid (Ar W0 w.heap.size 52 .u32 Z) := HW.out.1
  have F0 : Hid (Fr (fun _ => False) w W0) := HW.out.2
  clear HW
  refine wp_region_head (C := Calm W0) 1 (Fr.refl _ _) ?_
  simp only [List.take_succ_cons, List.take_zero, List.drop_succ_cons, List.drop_zero]
  refine BigFrame.wpQuiet_want rfl fun K hK => quiet_run (.agg (vs .u32 V)) (fun W _ => by rw [HV.out]; kernel_rfl) (hK _ ?_)
  refine wpQuiet_nil ?_
  intro w9 hw9
  have F9 : Hid (Fr (fun _ => False) w w9) := F0.out.trans hw9
  have G9 := Lib.hid hw9
  clear hw9
  try simp only [Act.put, List.setIfInBounds_toArray, List.set_cons_succ, List.set_cons_zero]
  go_wp2_with (refine wpList_store_row rfl 52 (.tmp 0) (.tmp 1) rfl (w.heap.size) (vs .u32 V) rfl rfl 52 _ (Ar.fr R0.out G9.out (fun x => x)) s1.out e0.out (vs_all _ _) ?_)
  refine bodyPost_ret (results_cell_row Try.results43 _ _ _ 52 _ (0, 0) _ rfl (setRow_heap _ _ _ _ _ _ (Ar.fr R0.out G9.out (fun x => x))) Try.underlying52 rfl s1.out) rfl ⟨rfl, F9.out.setRow _ (.inr (Nat.le_refl _))⟩
set_option maxRecDepth 100000 in
set_option maxHeartbeats 4000000 in
theorem orders_is (w : World) : Calls Try.prog 52 #[] w fun e w' => e = .returned (.agg (vs .u8 oti)) ∧ Fr (fun _ => False) w w' := by
  obtain ⟨Z, hZ⟩ : ∃ Z, Z = List.replicate 160 (0 : Int) := ⟨_, rfl⟩
  have hz : ∀ W : World, (zeroValue 81).run Try.prog W = .ok (.agg (vs .u8 Z)) W := fun W => by rw [hZ]; exact zeroOO W
  have lZ : Hid (Z.length = 160) := by show _ = _; rw [hZ]; rfl
  clear hZ
  obtain ⟨V, hV⟩ : ∃ V, V = oti := ⟨_, rfl⟩
  have lV : Hid (V.length = 160) := by show _ = _; rw [hV]; rfl
  have HV := Lib.hid hV
  have s1 : Hid ((Try.prog.info? 81).map (·.size) = some (vs .u8 V).size) := by show _ = _; rw [szOO, vs_size, lV.out]
  have e0 : Hid ((vs .u8 Z).size = (vs .u8 V).size) := by show _ = _; rw [vs_size, vs_size, lZ.out, lV.out]
  rw [← hV]
  clear hV
  go_enter Try.func52, Try.ntmps52
  go_upto_region 1 with (fail)
  generalize hW : w.alloc (.cells (vs .u8 Z) 81) = W0
  have HW := Lib.hid (calm1a hW)
  clear hW hz
  have R0 : Hid (Ar W0 w.heap.size 81 .u8 Z) := HW.out.1
  have F0 : Hid (Fr (fun _ => False) w W0) := HW.out.2
  clear HW
  refine wp_region_head (C := Calm W0) 11 (Fr.refl _ _) ?_
  simp only [List.take_succ_cons, List.take_zero, List.drop_succ_cons, List.drop_zero]
  refine BigFrame.wpQuiet_want rfl fun K hK => quiet_run (.agg (vs .u8 [0, 1, 2, 3, 4, 5, 6, 7, 8, 9, 10, 11, 12, 13, 14, 15])) (fun W _ => by kernel_rfl) (hK _ ?_)
  refine BigFrame.wpQuiet_want rfl fun K hK => quiet_run (.agg (vs .u8 [14, 10, 4, 8, 9, 15, 13, 6, 1, 12, 0, 2, 11, 7, 5, 3])) (fun W _ => by kernel_rfl) (hK _ ?_)
  refine BigFrame.wpQuiet_want rfl fun K hK => quiet_run (.agg (vs .u8 [11, 8, 12, 0, 5, 2, 15, 13, 10, 14, 3, 6, 7, 1, 9, 4])) (fun W _ => by kernel_rfl) (hK _ ?_)
  refine BigFrame.wpQuiet_want rfl fun K hK => quiet_run (.agg (vs .u8 [7, 9, 3, 1, 13, 12, 11, 14, 2, 6, 5, 10, 4, 0, 15, 8])) (fun W _ => by kernel_rfl) (hK _ ?_)
  refine BigFrame.wpQuiet_want rfl fun K hK => quiet_run (.agg (vs .u8 [9, 0, 5, 7, 2, 4, 10, 15, 14, 1, 11, 12, 6, 8, 3, 13])) (fun W _ => by kernel_rfl) (hK _ ?_)
  refine BigFrame.wpQuiet_want rfl fun K hK => quiet_run (.agg (vs .u8 [2, 12, 6, 10, 0, 11, 8, 3, 4, 13, 7, 5, 15, 14, 1, 9])) (fun W _ => by kernel_rfl) (hK _ ?_)
  refine BigFrame.wpQuiet_want rfl fun K hK => quiet_run (.agg (vs .u8 [12, 5, 1, 15, 14, 13, 4, 10, 0, 7, 6, 3, 9, 2, 8, 11])) (fun W _ => by kernel_rfl) (hK _ ?_)
  refine BigFrame.wpQuiet_want rfl fun K hK => quiet_run (.agg (vs .u8 [13, 11, 7, 14, 12, 1, 3, 9, 5, 0, 15, 4, 8, 6, 2, 10])) (fun W _ => by kernel_rfl) (hK _ ?_)
  refine BigFrame.wpQuiet_want rfl fun K hK => quiet_run (.agg (vs .u8 [6, 15, 14, 9, 11, 3, 0, 8, 12, 2, 13, 7, 1, 4, 10, 5])) (fun W _ => by kernel_rfl) (hK _ ?_)
  refine BigFrame.wpQuiet_want rfl fun K hK => quiet_run (.agg (vs .u8 [10, 2, 8, 4, 7, 6, 1, 5, 15, 11, 9, 14, 3, 12, 13, 0])) (fun W _ => by kernel_rfl) (hK _ ?_)
  refine BigFrame.wpQuiet_want rfl fun K hK => quiet_run (.agg (vs .u8 V)) (fun W _ => by rw [HV.out]; kernel_rfl) (hK _ ?_)
  refine wpQuiet_nil ?_
  intro w9 hw9
  have F9 : Hid (Fr (fun _ => False) w w9) := F0.out.trans hw9
  have G9 := Lib.hid hw9
  clear hw9
  try simp only [Act.put, List.setIfInBounds_toArray, List.set_cons_succ, List.set_cons_zero]
  go_wp2_with (refine wpList_store_row rfl 81 (.tmp 0) (.tmp 11) rfl (w.heap.size) (vs .u8 V) rfl rfl 81 _ (Ar.fr R0.out G9.out (fun x => x)) s1.out e0.out (vs_all _ _) ?_)
  refine bodyPost_ret (results_cell_row Try.results52 _ _ _ 81 _ (0, 0) _ rfl (setRow_heap _ _ _ _ _ _ (Ar.fr R0.out G9.out (fun x => x))) Try.underlying81 rfl s1.out) rfl ⟨rfl, F9.out.setRow _ (.inr (Nat.le_refl _))⟩

/-- Words are copied into a row of words. -/
theorem run_op_copyW {o : Oper} {a : Act} (x y : Operand) (ho : o.op = .call { callee := .builtin .copy, args := #[x, y], argTypes := #[86, 86] }) (w : World) (g off dl dc : Nat) (hx : a.eval x = .slice (some ⟨g, off, none⟩) dl dc) (A : Addr) (sl sc : Nat) (hy : a.eval y = .slice (some A) sl sc)
    (cur : Array Value) (t : TypeId) (X : List Int) (hg : w.heap[g]? = some (.cells cur t (0, 0))) (hn : X.length = Nat.min sl dl) (hs : ∀ j b, X[j]? = some b → w.cell? (A.add j) = some (.int .u32 b)) (hf : off + X.length ≤ cur.size) :
    (execOp a.eval o).run Try.prog w = .ok (.value (.int .i64 X.length)) (w.setRow g (cur.toList.take off ++ X.map (Value.int .u32) ++ cur.toList.drop (off + X.length)).toArray) := by
  have h := run_copy_row Try.prog w 86 86 o.type 50 g off dl dc A sl sc cur t (X.map (Value.int .u32)) Try.underlying86 sz47 hg (by rw [List.length_map]; exact hn) (fun j v hv => by
    rw [List.getElem?_map] at hv
    cases hX : X[j]? with
    | none => rw [hX] at hv; cases hv
    | some b => rw [hX] at hv; injection hv with hv; subst hv; exact hs j b hX) (by rw [List.length_map]; exact hf) (fun u hu => by
      simp only [List.mem_map] at hu
      obtain ⟨x, _, rfl⟩ := hu
      rfl)
  rw [List.length_map] at h
  obtain ⟨dst, op, ty, pos, after, guard⟩ := o
  obtain rfl : op = _ := ho
  rw [BigFrame.execOp_builtin, BigFrame.builtin_copy]
  simp only [List.map_toArray, List.map_cons, List.map_nil, hx, hy, Sem.run_bind, h, Result.andThen_ok, Sem.run_pure]
  simp only [goInt]
set_option maxRecDepth 100000 in
set_option maxHeartbeats 16000000 in
theorem beside_is (h k : List Int) (w : World) (hh : h.length = 8) (hk : k.length = 8) :
    Calls Try.prog 51 #[.agg (vs .u32 h), .agg (vs .u32 k)] w fun e w' => e = .returned (.agg (vs .u32 (h ++ k))) ∧ Fr (fun _ => False) w w' := by
  obtain ⟨R, hR⟩ : ∃ R, R = h ++ k := ⟨_, rfl⟩
  have HR := Lib.hid hR
  have lR : Hid (R.length = 16) := by show _ = _; rw [hR, List.length_append, hh, hk]
  have lh := Lib.hid hh
  have lk := Lib.hid hk
  obtain ⟨HV, hHV⟩ : ∃ V, V = vs .u32 h := ⟨_, rfl⟩
  have HHV := Lib.hid hHV
  obtain ⟨KV, hKV⟩ : ∃ V, V = vs .u32 k := ⟨_, rfl⟩
  have HKV := Lib.hid hKV
  obtain ⟨Z, hZ⟩ : ∃ Z, Z = List.replicate 16 (0 : Int) := ⟨_, rfl⟩
  have hz : ∀ W : World, (zeroValue 70).run Try.prog W = .ok (.agg (vs .u32 Z)) W := fun W => by rw [hZ]; exact zeroS W
  have lZ : Hid (Z.length = 16) := by show _ = _; rw [hZ]; rfl
  have s1 : Hid ((Try.prog.info? 70).map (·.size) = some (vs .u32 R).size) := by show _ = _; rw [szS, vs_size, lR.out]
  have e0 : Hid ((vs .u32 Z).size = (vs .u32 R).size) := by show _ = _; rw [vs_size, vs_size, lZ.out, lR.out]
  rw [← hR, ← hHV, ← hKV]
  clear hR hh hk hHV hKV hZ
  go_enter Try.func51, Try.ntmps51
  go_upto_region 2 with (fail)
  generalize hW : (((w.alloc (.cells HV 52)).alloc (.cells KV 52)).alloc (.cells (vs .u32 Z) 70)).alloc (.cells (vs .u32 Z) 70) = W0
  have HW := Lib.hid (calm4 hW)
  clear hW hz
  have H0 : Hid (Ar W0 w.heap.size 52 .u32 h) := by show _ = _; rw [HW.out.1, HHV.out]
  have K0 : Hid (Ar W0 (w.heap.size + 1) 52 .u32 k) := by show _ = _; rw [HW.out.2.1, HKV.out]
  have R0 : Hid (Ar W0 (w.heap.size + 1 + 1) 70 .u32 Z) := HW.out.2.2.1
  have X0 : Hid (Ar W0 (w.heap.size + 1 + 1 + 1) 70 .u32 Z) := HW.out.2.2.2.1
  have F0 : Hid (Fr (fun _ => False) w W0) := HW.out.2.2.2.2
  clear HW HHV HKV
  refine wp_region_quiet_tail (C := Calm W0) 2 (by kernel_rfl) (by kernel_rfl) (Calm.start _ _ (Fr.refl _ _)) ?_
  simp only [List.take_succ_cons, List.take_zero, List.drop_succ_cons, List.drop_zero]
  refine BigFrame.wpQuiet_want rfl fun K hK => ?_
  try simp only [Act.put, List.setIfInBounds_toArray, List.set_cons_succ, List.set_cons_zero]
  go_big_quiet_op
  first
    | refine ⟨_, fun _ _ => rfl, hK _ ?_⟩
    | refine hK _ ?_
  refine BigFrame.wpQuiet_want rfl fun K hK => ?_
  try simp only [Act.put, List.setIfInBounds_toArray, List.set_cons_succ, List.set_cons_zero]
  go_big_quiet_op
  first
    | refine ⟨_, fun _ _ => rfl, hK _ ?_⟩
    | refine hK _ ?_
  refine wpQuiet_nil ?_
  intro w1 hw1
  have F1 : Hid (Fr (fun _ => False) w w1) := F0.out.trans hw1
  have G1 := Lib.hid hw1
  clear hw1
  try simp only [Act.put, List.setIfInBounds_toArray, List.set_cons_succ, List.set_cons_zero]
  have D2 := Lib.hid (Ar.fr X0.out G1.out (fun x => x))
  have S2 := Lib.hid (Ar.fr H0.out G1.out (fun x => x))
  refine wpList_plain rfl fun K' hK' => wp_value (.int .i64 (h.length : Int)) _ (run_op_copyW (.tmp 6) (.tmp 7) rfl w1 (w.heap.size + 1 + 1 + 1) 0 8 16 rfl ⟨w.heap.size, 0, none⟩ 8 8 rfl (vs .u32 Z) 70 h D2.out (by rw [lh.out]; rfl) (fun j b hj => ?_) (by rw [lh.out, vs_size, lZ.out]; omega)) (hK' _ _ ?_)
  · have h := S2.out.cell hj
    rwa [Addr_add_none, Nat.zero_add]
  have eO : ((vs .u32 Z).toList.take 0 ++ h.map (Value.int .u32) ++ (vs .u32 Z).toList.drop (0 + h.length)).toArray = vs .u32 (h ++ Z.drop 8) := by
    simp [vs, lh.out, List.map_drop]
  rw [eO]
  have X1 : Hid (Ar (w1.setRow (w.heap.size + 1 + 1 + 1) (vs .u32 (h ++ Z.drop 8))) (w.heap.size + 1 + 1 + 1) 70 .u32 (h ++ Z.drop 8)) := D2.out.row (h ++ Z.drop 8)
  have F1 : Hid (Fr (fun _ => False) w (w1.setRow (w.heap.size + 1 + 1 + 1) (vs .u32 (h ++ Z.drop 8)))) := F1.out.setRow _ (.inr (by show w.heap.size ≤ w.heap.size + 1 + 1 + 1; omega))
  have K1 := Lib.hid ((Ar.fr K0.out G1.out (fun x => x)).rowFar (g' := w.heap.size + 1 + 1 + 1) (by show ¬ (w.heap.size + 1) = w.heap.size + 1 + 1 + 1; omega) (vs .u32 (h ++ Z.drop 8)))
  have R1 := Lib.hid ((Ar.fr R0.out G1.out (fun x => x)).rowFar (g' := w.heap.size + 1 + 1 + 1) (by show ¬ (w.heap.size + 1 + 1) = w.heap.size + 1 + 1 + 1; omega) (vs .u32 (h ++ Z.drop 8)))
  generalize w1.setRow (w.heap.size + 1 + 1 + 1) (vs .u32 (h ++ Z.drop 8)) = W1 at *
  obtain ⟨Y, hY⟩ : ∃ Y, Y = h ++ Z.drop 8 := ⟨_, rfl⟩
  have HY := Lib.hid hY
  rw [← hY] at X1
  have lY : Hid (Y.length = 16) := by show _ = _; rw [hY, List.length_append, List.length_drop, lh.out, lZ.out]
  clear hY eO D2 S2 X0 R0 K0 G1 H0
  try simp only [Act.put, List.setIfInBounds_toArray, List.set_cons_succ, List.set_cons_zero]
  go_upto_region 3 with (fail)
  refine wp_region_quiet_tail (C := Calm W1) 2 (by kernel_rfl) (by kernel_rfl) (Calm.start _ _ (Fr.refl _ _)) ?_
  simp only [List.take_succ_cons, List.take_zero, List.drop_succ_cons, List.drop_zero]
  refine BigFrame.wpQuiet_want rfl fun K hK => ?_
  try simp only [Act.put, List.setIfInBounds_toArray, List.set_cons_succ, List.set_cons_zero]
  go_big_quiet_op
  first
    | refine ⟨_, fun _ _ => rfl, hK _ ?_⟩
    | refine hK _ ?_
  refine BigFrame.wpQuiet_want rfl fun K hK => ?_
  try simp only [Act.put, List.setIfInBounds_toArray, List.set_cons_succ, List.set_cons_zero]
  go_big_quiet_op
  first
    | refine ⟨_, fun _ _ => rfl, hK _ ?_⟩
    | refine hK _ ?_
  refine wpQuiet_nil ?_
  intro w2 hw2
  have F2 : Hid (Fr (fun _ => False) w w2) := F1.out.trans hw2
  have G2 := Lib.hid hw2
  clear hw2
  try simp only [Act.put, List.setIfInBounds_toArray, List.set_cons_succ, List.set_cons_zero]
  have D3 := Lib.hid (Ar.fr X1.out G2.out (fun x => x))
  have S3 := Lib.hid (Ar.fr K1.out G2.out (fun x => x))
  refine wpList_plain rfl fun K' hK' => wp_value (.int .i64 (k.length : Int)) _ (run_op_copyW (.tmp 9) (.tmp 10) rfl w2 (w.heap.size + 1 + 1 + 1) 8 8 8 rfl ⟨(w.heap.size + 1), 0, none⟩ 8 8 rfl (vs .u32 Y) 70 k D3.out (by rw [lk.out]; rfl) (fun j b hj => ?_) (by rw [lk.out, vs_size, lY.out]; omega)) (hK' _ _ ?_)
  · have h := S3.out.cell hj
    rwa [Addr_add_none, Nat.zero_add]
  have eO : ((vs .u32 Y).toList.take 8 ++ k.map (Value.int .u32) ++ (vs .u32 Y).toList.drop (8 + k.length)).toArray = vs .u32 R := by
    have e1 : Y.take 8 = h := by rw [HY.out, ← lh.out, List.take_left]
    have e2 : Y.drop 16 = [] := List.drop_of_length_le (by rw [lY.out]; exact Nat.le_refl 16)
    simp [vs, lk.out, ← List.map_drop, ← List.map_take, e1, e2, HR.out]
  rw [eO]
  have X2 : Hid (Ar (w2.setRow (w.heap.size + 1 + 1 + 1) (vs .u32 R)) (w.heap.size + 1 + 1 + 1) 70 .u32 R) := D3.out.row R
  have F2 : Hid (Fr (fun _ => False) w (w2.setRow (w.heap.size + 1 + 1 + 1) (vs .u32 R))) := F2.out.setRow _ (.inr (by show w.heap.size ≤ w.heap.size + 1 + 1 + 1; omega))
  have R2 := Lib.hid ((Ar.fr R1.out G2.out (fun x => x)).rowFar (g' := w.heap.size + 1 + 1 + 1) (by show ¬ (w.heap.size + 1 + 1) = w.heap.size + 1 + 1 + 1; omega) (vs .u32 R))
  generalize w2.setRow (w.heap.size + 1 + 1 + 1) (vs .u32 R) = W2 at *
  clear eO D3 S3 X1 R1 K1 G2 HY
  try simp only [Act.put, List.setIfInBounds_toArray, List.set_cons_succ, List.set_cons_zero]
  go_wp2_with (first
    | refine wpList_load_row rfl 70 (.tmp 5) rfl (w.heap.size + 1 + 1 + 1) rfl 70 (vs .u32 R) (0, 0) _ X2.out Try.underlying70 rfl s1.out ?_
    | refine wpList_store_row rfl 70 (.tmp 4) (.tmp 12) rfl (w.heap.size + 1 + 1) (vs .u32 R) rfl rfl 70 _ R2.out s1.out e0.out (vs_all _ _) ?_)
  refine bodyPost_ret (results_cell_row Try.results51 _ _ _ 70 _ (0, 0) _ rfl (setRow_heap _ _ _ _ _ _ R2.out) Try.underlying70 rfl s1.out) rfl ⟨rfl, F2.out.setRow _ (.inr (by omega))⟩
end Go.Proofs.Ytebknlhooijkcaa

/- The program's numbers: contract. Condition: 64 bytes. -/
namespace Go.Proofs.Ytebknlhooijkcaa
set_option linter.unusedSimpArgs false
set_option linter.unusedVariables false
open Go.ChangeShapes Go.WideShapes Go.ChangeAt Go.RowKit


/-- Four bytes make a word, by or. -/
theorem word4o {B : List Int} (hl : B.length = 64) (hb : Bys B) {i : Nat} (hi : i < 16) :
    ∃ b0 b1 b2 b3 s1 s2 s3 s4 s5 y, B[4 * i]? = some b0 ∧ B[4 * i + 1]? = some b1 ∧ B[4 * i + 2]? = some b2 ∧ B[4 * i + 3]? = some b3 ∧
      IntKind.u32.wrap b0 = b0 ∧ IntKind.u32.wrap b1 = b1 ∧ IntKind.u32.wrap b2 = b2 ∧ IntKind.u32.wrap b3 = b3 ∧
      IntKind.u32.wrap (b1 * 256) = s1 ∧ bits .or .u32 b0 s1 = s2 ∧ IntKind.u32.wrap (b2 * 65536) = s3 ∧ bits .or .u32 s2 s3 = s4 ∧ IntKind.u32.wrap (b3 * 16777216) = s5 ∧ bits .or .u32 s4 s5 = y ∧ (ws B)[i]? = some y := by
  obtain ⟨b0, b1, b2, b3, s1, s2, s3, s4, s5, y, h0, h1, h2, h3, e0, e1, e2, e3, e4, e5, e6, e7, e8, e9, e⟩ := word4 hl hb hi
  have g : ∀ j, j < 64 → B[j]? = some (B.getD j 0) ∧ 0 ≤ B.getD j 0 ∧ B.getD j 0 ≤ 255 := fun j hj => ⟨getD_some (by omega), hb _ (List.mem_of_getElem? (getD_some (by omega)))⟩
  have g0 := g (4 * i) (by omega)
  have g1 := g (4 * i + 1) (by omega)
  have g2 := g (4 * i + 2) (by omega)
  have g3 := g (4 * i + 3) (by omega)
  rw [h0] at g0
  rw [h1] at g1
  rw [h2] at g2
  rw [h3] at g3
  refine ⟨b0, b1, b2, b3, s1, s2, s3, s4, s5, y, g0.1, g1.1, g2.1, g3.1, e0, e1, e2, e3, e4, ?_, e6, ?_, e8, ?_, e⟩
  · rw [← e5, ← e4, wrap32, wrap32, show b1 * 256 % 4294967296 = b1 * 2 ^ 8 by simp; omega, join32 8 b0 b1 (by decide) g0.2.1 (by simp; omega) g1.2.1 (by simp; omega)]
    simp; omega
  · rw [wrap32] at e4 e5 e6 e7
    rw [← e7, ← e6, show b2 * 65536 % 4294967296 = b2 * 2 ^ 16 by simp; omega, join32 16 s2 b2 (by decide) (by omega) (by simp; omega) g2.2.1 (by simp; omega)]
    simp; omega
  · rw [wrap32] at e4 e5 e6 e7 e8 e9
    rw [← e9, ← e8, show b3 * 16777216 % 4294967296 = b3 * 2 ^ 24 by simp; omega, join32 24 s4 b3 (by decide) (by omega) (by simp; omega) g3.2.1 (by simp; omega)]
    simp; omega
set_option maxRecDepth 100000 in
set_option maxHeartbeats 16000000 in
theorem numbers_is (B : List Int) (w : World) (hl : B.length = 64) (hb : Bys B) : Calls Try.prog 46 #[.agg (vs .u8 B)] w fun e w' => e = .returned (.agg (vs .u32 (ws B))) ∧ Fr (fun _ => False) w w' := by
  obtain ⟨M, hM⟩ : ∃ M, M = ws B := ⟨_, rfl⟩
  have HM : Hid (M = ws B) := hM
  have lM : Hid (M.length = 16) := by show _ = _; rw [hM]; exact ws_length 16 B hl
  have lB := Lib.hid hl
  have BB := Lib.hid hb
  have hz : ∀ W : World, (zeroValue 70).run Try.prog W = .ok (.agg (vs .u32 (fil M 0 0))) W := fun W => by rw [fil_zero, lM.out]; exact zeroS W
  have s1 : Hid ((Try.prog.info? 70).map (·.size) = some (vs .u32 M).size) := by show _ = _; rw [szS, vs_size, lM.out]
  have e0 : Hid ((vs .u32 (fil M 0 0)).size = (vs .u32 M).size) := by show _ = _; rw [vs_size, vs_size, fil_length M 0 0 (by have := lM.out; omega)]
  obtain ⟨BV, hBV⟩ : ∃ V, V = vs .u8 B := ⟨_, rfl⟩
  have HBV := Lib.hid hBV
  rw [← hM, ← hBV]
  clear hM hl hb hBV
  go_enter Try.func46, Try.ntmps46
  go_upto_region 2 with (fail)
  generalize hW : ((w.alloc (.cells BV 54)).alloc (.cells (vs .u32 (fil M 0 0)) 70)).alloc (.cells (vs .u32 (fil M 0 0)) 70) = W0
  have HW := Lib.hid (calm3 hW)
  clear hW hz
  have B0 : Hid (Ar W0 w.heap.size 54 .u8 B) := by show _ = _; rw [HW.out.1, HBV.out]
  have R0 : Hid (Ar W0 (w.heap.size + 1) 70 .u32 (fil M 0 0)) := HW.out.2.1
  have X0 : Hid (Ar W0 (w.heap.size + 1 + 1) 70 .u32 (fil M 0 0)) := HW.out.2.2.1
  have F0 : Hid (Fr (fun _ => False) w W0) := HW.out.2.2.2
  clear HW HBV
  go_upto_region 3 with (fail)
  go_loopw [4, 5] (fun _ u5 wr => ∃ i : Nat, u5 = .int .i64 i ∧ i ≤ 16 ∧ Hid (Ar wr w.heap.size 54 .u8 B) ∧ Hid (Ar wr (w.heap.size + 1) 70 .u32 (fil M 0 0)) ∧ Hid (Ar wr (w.heap.size + 1 + 1) 70 .u32 (fil M i 0)) ∧ Hid (Fr (fun _ => False) w wr)) (fun _ u5 _ => 16 - (intOf u5).toNat)
  case atStart => exact ⟨0, rfl, by omega, B0, R0, X0, F0⟩
  case round =>
  clear B0 R0 X0 F0
  obtain ⟨i, rfl, hi, hB, hR, hX, hF⟩ := hrel
  by_cases hil : i < 16
  · obtain ⟨b0, b1, b2, b3, s1, s2, s3, s4, s5, y, a0, a1, a2, a3, e0, e1, e2, e3, e4, e5, e6, e7, e8, e9, hy⟩ := word4o lB.out BB.out hil
    rw [← HM.out] at hy
    have HYi := Lib.hid hy
    have C0 := Lib.hid a0
    have C1 := Lib.hid a1
    have C2 := Lib.hid a2
    have C3 := Lib.hid a3
    have j0 : (i : Int) < 16 := by omega
    have j1 : IntKind.i64.wrap (4 * (i : Int)) = 4 * i := by rw [IntKind.wrap_i64]; omega
    have j2 : IntKind.i64.wrap (4 * (i : Int) + 1) = 4 * i + 1 := by rw [IntKind.wrap_i64]; omega
    have j3 : IntKind.i64.wrap (4 * (i : Int) + 2) = 4 * i + 2 := by rw [IntKind.wrap_i64]; omega
    have j4 : IntKind.i64.wrap (4 * (i : Int) + 3) = 4 * i + 3 := by rw [IntKind.wrap_i64]; omega
    have t0 : (4 * (i : Int)).toNat = 4 * i := by omega
    have t1 : (4 * (i : Int) + 1).toNat = 4 * i + 1 := by omega
    have t2 : (4 * (i : Int) + 2).toNat = 4 * i + 2 := by omega
    have t3 : (4 * (i : Int) + 3).toNat = 4 * i + 3 := by omega
    have p0 : 0 ≤ 4 * (i : Int) := by omega
    have p1 : 0 ≤ 4 * (i : Int) + 1 := by omega
    have p2 : 0 ≤ 4 * (i : Int) + 2 := by omega
    have p3 : 0 ≤ 4 * (i : Int) + 3 := by omega
    have q0 : 4 * (i : Int) < 64 := by omega
    have q1 : 4 * (i : Int) + 1 < 64 := by omega
    have q2 : 4 * (i : Int) + 2 < 64 := by omega
    have q3 : 4 * (i : Int) + 3 < 64 := by omega
    have ti : ((i : Int)).toNat = i := by omega
    have pi : 0 ≤ (i : Int) := by omega
    clear a0 a1 a2 a3 hy
    go_upto_region 5 with (fail)
    refine wp_region_quiet_tail (C := Calm wr) 31 (by kernel_rfl) (by kernel_rfl) (Calm.start _ _ (Fr.refl _ _)) ?_
    simp only [List.take_succ_cons, List.take_zero, List.drop_succ_cons, List.drop_zero]
    refine BigFrame.wpQuiet_want rfl fun K hK => ?_
    try simp only [Act.put, List.setIfInBounds_toArray, List.set_cons_succ, List.set_cons_zero]
    go_big_quiet_op
    refine hK _ ?_
    refine BigFrame.wpQuiet_want rfl fun K hK => ?_
    try simp only [Act.put, List.setIfInBounds_toArray, List.set_cons_succ, List.set_cons_zero]
    go_big_quiet_op
    refine hK _ ?_
    refine BigFrame.wpQuiet_want rfl fun K hK => ?_
    try simp only [Act.put, List.setIfInBounds_toArray, List.set_cons_succ, List.set_cons_zero]
    go_big_quiet_op
    first
      | refine ⟨_, fun _ _ => rfl, hK _ ?_⟩
      | refine hK _ ?_
    refine BigFrame.wpQuiet_want rfl fun K hK => ?_
    try simp only [Act.put, List.setIfInBounds_toArray, List.set_cons_succ, List.set_cons_zero]
    go_big_quiet_op
    first
      | refine ⟨_, fun _ _ => rfl, hK _ ?_⟩
      | refine hK _ ?_
    refine BigFrame.wpQuiet_want rfl fun K hK => quiet_one 5 .u8 (.tmp 11) rfl w.heap.size (4 * i) rfl (b0) Try.underlying5 (fun _ h => (Ar.fr hB.out h (fun x => x)).cell C0.out) (hK _ ?_)
    refine BigFrame.wpQuiet_want rfl fun K hK => ?_
    try simp only [Act.put, List.setIfInBounds_toArray, List.set_cons_succ, List.set_cons_zero]
    go_big_quiet_op
    first
      | refine ⟨_, fun _ _ => rfl, hK _ ?_⟩
      | refine hK _ ?_
    refine BigFrame.wpQuiet_want rfl fun K hK => ?_
    try simp only [Act.put, List.setIfInBounds_toArray, List.set_cons_succ, List.set_cons_zero]
    go_big_quiet_op
    refine hK _ ?_
    refine BigFrame.wpQuiet_want rfl fun K hK => ?_
    try simp only [Act.put, List.setIfInBounds_toArray, List.set_cons_succ, List.set_cons_zero]
    go_big_quiet_op
    first
      | refine ⟨_, fun _ _ => rfl, hK _ ?_⟩
      | refine hK _ ?_
    refine BigFrame.wpQuiet_want rfl fun K hK => ?_
    try simp only [Act.put, List.setIfInBounds_toArray, List.set_cons_succ, List.set_cons_zero]
    go_big_quiet_op
    first
      | refine ⟨_, fun _ _ => rfl, hK _ ?_⟩
      | refine hK _ ?_
    refine BigFrame.wpQuiet_want rfl fun K hK => ?_
    try simp only [Act.put, List.setIfInBounds_toArray, List.set_cons_succ, List.set_cons_zero]
    go_big_quiet_op
    first
      | refine ⟨_, fun _ _ => rfl, hK _ ?_⟩
      | refine hK _ ?_
    refine BigFrame.wpQuiet_want rfl fun K hK => quiet_one 5 .u8 (.tmp 17) rfl w.heap.size (4 * i + 1) rfl (b1) Try.underlying5 (fun _ h => (Ar.fr hB.out h (fun x => x)).cell C1.out) (hK _ ?_)
    refine BigFrame.wpQuiet_want rfl fun K hK => ?_
    try simp only [Act.put, List.setIfInBounds_toArray, List.set_cons_succ, List.set_cons_zero]
    go_big_quiet_op
    first
      | refine ⟨_, fun _ _ => rfl, hK _ ?_⟩
      | refine hK _ ?_
    refine BigFrame.wpQuiet_want rfl fun K hK => ?_
    try simp only [Act.put, List.setIfInBounds_toArray, List.set_cons_succ, List.set_cons_zero]
    go_big_quiet_op
    first
      | refine ⟨_, fun _ _ => rfl, hK _ ?_⟩
      | refine hK _ ?_
    refine BigFrame.wpQuiet_want rfl fun K hK => ?_
    try simp only [Act.put, List.setIfInBounds_toArray, List.set_cons_succ, List.set_cons_zero]
    go_big_quiet_op
    first
      | refine ⟨_, fun _ _ => rfl, hK _ ?_⟩
      | refine hK _ ?_
    refine BigFrame.wpQuiet_want rfl fun K hK => ?_
    try simp only [Act.put, List.setIfInBounds_toArray, List.set_cons_succ, List.set_cons_zero]
    go_big_quiet_op
    refine hK _ ?_
    refine BigFrame.wpQuiet_want rfl fun K hK => ?_
    try simp only [Act.put, List.setIfInBounds_toArray, List.set_cons_succ, List.set_cons_zero]
    go_big_quiet_op
    first
      | refine ⟨_, fun _ _ => rfl, hK _ ?_⟩
      | refine hK _ ?_
    refine BigFrame.wpQuiet_want rfl fun K hK => ?_
    try simp only [Act.put, List.setIfInBounds_toArray, List.set_cons_succ, List.set_cons_zero]
    go_big_quiet_op
    first
      | refine ⟨_, fun _ _ => rfl, hK _ ?_⟩
      | refine hK _ ?_
    refine BigFrame.wpQuiet_want rfl fun K hK => ?_
    try simp only [Act.put, List.setIfInBounds_toArray, List.set_cons_succ, List.set_cons_zero]
    go_big_quiet_op
    first
      | refine ⟨_, fun _ _ => rfl, hK _ ?_⟩
      | refine hK _ ?_
    refine BigFrame.wpQuiet_want rfl fun K hK => quiet_one 5 .u8 (.tmp 25) rfl w.heap.size (4 * i + 2) rfl (b2) Try.underlying5 (fun _ h => (Ar.fr hB.out h (fun x => x)).cell C2.out) (hK _ ?_)
    refine BigFrame.wpQuiet_want rfl fun K hK => ?_
    try simp only [Act.put, List.setIfInBounds_toArray, List.set_cons_succ, List.set_cons_zero]
    go_big_quiet_op
    first
      | refine ⟨_, fun _ _ => rfl, hK _ ?_⟩
      | refine hK _ ?_
    refine BigFrame.wpQuiet_want rfl fun K hK => ?_
    try simp only [Act.put, List.setIfInBounds_toArray, List.set_cons_succ, List.set_cons_zero]
    go_big_quiet_op
    first
      | refine ⟨_, fun _ _ => rfl, hK _ ?_⟩
      | refine hK _ ?_
    refine BigFrame.wpQuiet_want rfl fun K hK => ?_
    try simp only [Act.put, List.setIfInBounds_toArray, List.set_cons_succ, List.set_cons_zero]
    go_big_quiet_op
    first
      | refine ⟨_, fun _ _ => rfl, hK _ ?_⟩
      | refine hK _ ?_
    refine BigFrame.wpQuiet_want rfl fun K hK => ?_
    try simp only [Act.put, List.setIfInBounds_toArray, List.set_cons_succ, List.set_cons_zero]
    go_big_quiet_op
    refine hK _ ?_
    refine BigFrame.wpQuiet_want rfl fun K hK => ?_
    try simp only [Act.put, List.setIfInBounds_toArray, List.set_cons_succ, List.set_cons_zero]
    go_big_quiet_op
    first
      | refine ⟨_, fun _ _ => rfl, hK _ ?_⟩
      | refine hK _ ?_
    refine BigFrame.wpQuiet_want rfl fun K hK => ?_
    try simp only [Act.put, List.setIfInBounds_toArray, List.set_cons_succ, List.set_cons_zero]
    go_big_quiet_op
    first
      | refine ⟨_, fun _ _ => rfl, hK _ ?_⟩
      | refine hK _ ?_
    refine BigFrame.wpQuiet_want rfl fun K hK => ?_
    try simp only [Act.put, List.setIfInBounds_toArray, List.set_cons_succ, List.set_cons_zero]
    go_big_quiet_op
    first
      | refine ⟨_, fun _ _ => rfl, hK _ ?_⟩
      | refine hK _ ?_
    refine BigFrame.wpQuiet_want rfl fun K hK => quiet_one 5 .u8 (.tmp 33) rfl w.heap.size (4 * i + 3) rfl (b3) Try.underlying5 (fun _ h => (Ar.fr hB.out h (fun x => x)).cell C3.out) (hK _ ?_)
    refine BigFrame.wpQuiet_want rfl fun K hK => ?_
    try simp only [Act.put, List.setIfInBounds_toArray, List.set_cons_succ, List.set_cons_zero]
    go_big_quiet_op
    first
      | refine ⟨_, fun _ _ => rfl, hK _ ?_⟩
      | refine hK _ ?_
    refine BigFrame.wpQuiet_want rfl fun K hK => ?_
    try simp only [Act.put, List.setIfInBounds_toArray, List.set_cons_succ, List.set_cons_zero]
    go_big_quiet_op
    first
      | refine ⟨_, fun _ _ => rfl, hK _ ?_⟩
      | refine hK _ ?_
    refine BigFrame.wpQuiet_want rfl fun K hK => ?_
    try simp only [Act.put, List.setIfInBounds_toArray, List.set_cons_succ, List.set_cons_zero]
    go_big_quiet_op
    first
      | refine ⟨_, fun _ _ => rfl, hK _ ?_⟩
      | refine hK _ ?_
    refine BigFrame.wpQuiet_want rfl fun K hK => ?_
    try simp only [Act.put, List.setIfInBounds_toArray, List.set_cons_succ, List.set_cons_zero]
    go_big_quiet_op
    first
      | refine ⟨_, fun _ _ => rfl, hK _ ?_⟩
      | refine hK _ ?_
    refine wpQuiet_nil ?_
    intro w9 hw9
    have F9 : Hid (Fr (fun _ => False) w w9) := hF.out.trans hw9
    have G9 := Lib.hid hw9
    clear hw9
    try simp only [Act.put, List.setIfInBounds_toArray, List.set_cons_succ, List.set_cons_zero]
    refine wpList_plain rfl fun K hK => wp_store_one 50 .u32 (.tmp 38) (.tmp 37) rfl (w.heap.size + 1 + 1) i rfl y rfl Try.underlying50 sz47 (Ar.fr hX.out G9.out (fun x => x)) (by rw [fil_length M i 0 (by have := lM.out; omega), lM.out]; exact hil) (hK _ _ ?_)
    have X9 := Lib.hid ((Ar.fr hX.out G9.out (fun x => x)).set i y)
    rw [fil_set M i 0 _ HYi.out] at X9
    have B9 : Hid (Ar (w9.setCell ⟨w.heap.size + 1 + 1, i, none⟩ (.int .u32 y)) w.heap.size 54 .u8 B) := (Ar.fr hB.out G9.out (fun x => x)).far (by show ¬ w.heap.size = (w.heap.size + 1 + 1); omega) _
    have R9 : Hid (Ar (w9.setCell ⟨w.heap.size + 1 + 1, i, none⟩ (.int .u32 y)) (w.heap.size + 1) 70 .u32 (fil M 0 0)) := (Ar.fr hR.out G9.out (fun x => x)).far (by show ¬ (w.heap.size + 1) = (w.heap.size + 1 + 1); omega) _
    have K9 : Hid (Fr (fun _ => False) w (w9.setCell ⟨w.heap.size + 1 + 1, i, none⟩ (.int .u32 y))) := F9.out.setCell _ (.inr (by show w.heap.size ≤ w.heap.size + 1 + 1; omega))
    generalize w9.setCell ⟨w.heap.size + 1 + 1, i, none⟩ (.int .u32 y) = Y9 at *
    clear hB hR hX hF F9 G9 C0 C1 C2 C3 e0 e1 e2 e3 e4 e5 e6 e7 e8 e9
    try simp only [Act.put, List.setIfInBounds_toArray, List.set_cons_succ, List.set_cons_zero]
    go_wp2
    go_roundw
    case rel => exact ⟨i + 1, by go_num, by omega, B9, R9, X9, K9⟩
    case measure => simp [intOf]; omega
  obtain rfl : i = 16 := by omega
  have X9 : Hid (Ar wr (w.heap.size + 1 + 1) 70 .u32 M) := by
    have h := hX.out
    have e := fil_all M (0 : Int)
    rw [lM.out] at e
    rwa [e] at h
  clear hX hil hi hB
  go_wp2_with (first
    | refine wpList_load_row rfl 70 (.tmp 3) rfl (w.heap.size + 1 + 1) rfl 70 (vs .u32 M) (0, 0) _ X9.out Try.underlying70 rfl s1.out ?_
    | refine wpList_store_row rfl 70 (.tmp 2) (.tmp 40) rfl (w.heap.size + 1) (vs .u32 M) rfl rfl 70 _ hR.out s1.out e0.out (vs_all _ _) ?_)
  refine bodyPost_ret (results_cell_row Try.results46 _ _ _ 70 _ (0, 0) _ rfl (setRow_heap _ _ _ _ _ _ hR.out) Try.underlying70 rfl s1.out) rfl ⟨rfl, hF.out.setRow _ (.inr (by omega))⟩
end Go.Proofs.Ytebknlhooijkcaa

/- The program's with: lemmas. No condition. -/
namespace Go.Proofs.Ytebknlhooijkcaa
set_option linter.unusedSimpArgs false
set_option linter.unusedVariables false
open Go.ChangeShapes Go.WideShapes Go.ChangeAt Go.RowKit


theorem xr_assoc {x y z : Int} (hx : Wd x) (hy : Wd y) (hz : Wd z) : xr x (xr y z) = xr (xr x y) z := by
  obtain ⟨a, rfl⟩ := Int.eq_ofNat_of_zero_le hx.1
  obtain ⟨b, rfl⟩ := Int.eq_ofNat_of_zero_le hy.1
  obtain ⟨c, rfl⟩ := Int.eq_ofNat_of_zero_le hz.1
  have h1 := hx.2
  have h2 := hy.2
  have h3 := hz.2
  have l1 := Nat.xor_lt_two_pow (n := 32) (x := a) (y := b) (by omega) (by omega)
  have l2 := Nat.xor_lt_two_pow (n := 32) (x := b) (y := c) (by omega) (by omega)
  rw [xr_nat b c (by omega) (by omega), xr_nat a b (by omega) (by omega), xr_nat a (b ^^^ c) (by omega) (by omega), xr_nat (a ^^^ b) c (by omega) (by omega), Nat.xor_assoc]
/-- An array of rows, indexed: a row. -/
theorem index_row {t e : TypeId} {n m : Nat} {e2 : TypeId} (ht : Try.prog.underlying t = some (.array n e)) (he : Try.prog.underlying e = some (.array m e2)) (hs : (Try.prog.info? e).map (·.size) = some m) (V : Array Value) (i : Nat) (hi : i < n) (w : World) :
    (Instr.index t (.agg V) (.int .i64 (i : Int))).run Try.prog w = .ok (.agg (V.extract (i * m) (i * m + m))) w := by
  cases hq : Try.prog.info? e with
  | none => simp [hq] at hs
  | some j =>
    have hj : j.size = m := by simpa [hq] using hs
    simp [Instr.index, part, isAgg, run_underlying ht, run_underlying he, asIntOf, hi, sizeOf, typeInfo, hq, hj, Sem.run_bind, Sem.run_pure, Result.andThen_ok]
def odr (i : Nat) : List Int := (oti.drop (i * 16)).take 16
theorem odr_vs (i : Nat) : (vs .u8 oti).extract (i * 16) (i * 16 + 16) = vs .u8 (odr i) := by
  apply Array.toList_inj.1
  simp [vs, odr, List.map_take, List.map_drop]
theorem odr_get {i j : Nat} (hi : i < 10) (hj : j < 16) : (odr i)[j]? = some ((ot (i * 16 + j) : Nat) : Int) := by
  rw [odr, List.getElem?_take, if_pos hj, List.getElem?_drop]
  exact oti_get _ (by omega)
theorem odr_length {i : Nat} (hi : i < 10) : (odr i).length = 16 := by
  rw [odr, List.length_take, List.length_drop]
  have : oti.length = 160 := rfl
  omega
theorem byv_odr (m : List Int) {i j : Nat} (hi : i < 10) (hj : j < 16) : (byv m (odr i)).getD j 0 = m.getD (ot (i * 16 + j)) 0 := by
  rw [List.getD_eq_getElem?_getD, byv_get m _ hj, List.getD_eq_getElem?_getD (l := odr i), odr_get hi hj]
  rfl
theorem rnB_rd (m v : List Int) {i : Nat} (hi : i < 10) : rnB (rd m v (8 * i)) (byv m (odr i)) = rd m v (8 * (i + 1)) := by
  have e (k : Nat) (hk : k < 8) : stp m (rd m v (8 * i + k)) (8 * i + k) = mx (rd m v (8 * i + k)) (pt (4 * k)) (pt (4 * k + 1)) (pt (4 * k + 2)) (pt (4 * k + 3)) ((byv m (odr i)).getD (2 * k) 0) ((byv m (odr i)).getD (2 * k + 1) 0) := by
    rw [byv_odr m hi (by omega), byv_odr m hi (by omega)]
    unfold stp
    rw [show (8 * i + k) % 8 = k by omega, show i * 16 + 2 * k = 2 * (8 * i + k) by omega, show i * 16 + (2 * k + 1) = 2 * (8 * i + k) + 1 by omega]
  rw [show 8 * (i + 1) = 8 * i + 7 + 1 by omega, rd_succ, e 7 (by decide), rd_succ, e 6 (by decide), rd_succ, e 5 (by decide), rd_succ, e 4 (by decide), rd_succ, e 3 (by decide), rd_succ, e 2 (by decide), rd_succ, e 1 (by decide), rd_succ]
  have e0 := e 0 (by decide)
  simp only [Nat.add_zero] at e0
  rw [e0]
  rfl
/-- A block's words are pressed. -/
def prm (h m : List Int) (tt : Int) (last : Bool) : List Int := fn h (rd m (v0 h tt last) 80)
theorem prm_ws (h B : List Int) (tt : Int) (last : Bool) : prm h (ws B) tt last = prs h B tt last := rfl
end Go.Proofs.Ytebknlhooijkcaa
