/- The program's with, a block that is not the last one: contract. Conditions: eight words, sixteen words. -/
import Derived.Test.YtebknlhooijkcaaZrc
namespace Go.Proofs.Ytebknlhooijkcaa
set_option linter.unusedSimpArgs false
set_option linter.unusedVariables false
open Go.ChangeShapes Go.WideShapes Go.ChangeAt Go.RowKit


set_option maxRecDepth 100000 in
set_option maxHeartbeats 16000000 in
theorem with_no (h m : List Int) (tt : Int) (w : World) (hh : V8 h) (hm : V16 m) :
    Calls Try.prog 45 #[.agg (vs .u32 h), .agg (vs .u32 m), .int .u64 tt, .bool false] w fun e w' => e = .returned (.agg (vs .u32 (prm h m tt false))) ∧ Fr (fun _ => False) w w' := by
  have HH := Lib.hid hh
  have MM := Lib.hid hm
  obtain ⟨R, hR⟩ : ∃ R, R = prm h m tt false := ⟨_, rfl⟩
  have HR := Lib.hid hR
  rw [← hR]
  obtain ⟨Z, hZ⟩ : ∃ Z, Z = List.replicate 8 (0 : Int) := ⟨_, rfl⟩
  have hz8 : ∀ W : World, (zeroValue 52).run Try.prog W = .ok (.agg (vs .u32 Z)) W := fun W => by rw [hZ]; exact zeroE W
  have lZ : Hid (Z.length = 8) := by show _ = _; rw [hZ]; rfl
  obtain ⟨Y, hY⟩ : ∃ Y, Y = List.replicate 16 (0 : Int) := ⟨_, rfl⟩
  have hz16 : ∀ W : World, (zeroValue 70).run Try.prog W = .ok (.agg (vs .u32 Y)) W := fun W => by rw [hY]; exact zeroS W
  obtain ⟨IV, hIV⟩ : ∃ I, I = iv := ⟨_, rfl⟩
  have HIV := Lib.hid hIV
  obtain ⟨HI, hHI⟩ : ∃ I, I = h ++ IV := ⟨_, rfl⟩
  have HHI := Lib.hid hHI
  have lI : Hid (HI.length = 16) := by show _ = _; rw [hHI, List.length_append, hh.1, hIV]; rfl
  have sH : Hid ((Try.prog.info? 52).map (·.size) = some (vs .u32 h).size) := by show _ = _; rw [szE, vs_size, hh.1]
  have sM : Hid ((Try.prog.info? 70).map (·.size) = some (vs .u32 m).size) := by show _ = _; rw [szS, vs_size, hm.1]
  have sI : Hid ((Try.prog.info? 70).map (·.size) = some (vs .u32 HI).size) := by show _ = _; rw [szS, vs_size, lI.out]
  have eI : Hid ((vs .u32 Y).size = (vs .u32 HI).size) := by show _ = _; rw [vs_size, vs_size, lI.out, hY]; rfl
  have CS : ∀ W, Calls Try.prog 43 #[] W fun e w' => e = .returned (.agg (vs .u32 IV)) ∧ Fr (fun _ => False) W w' := fun W => by rw [hIV]; exact start_w W
  have CB : ∀ W, Calls Try.prog 51 #[.agg (vs .u32 h), .agg (vs .u32 IV)] W fun e w' => e = .returned (.agg (vs .u32 HI)) ∧ Fr (fun _ => False) W w' := fun W => by rw [hHI, hIV]; exact beside_is h iv W hh.1 rfl
  clear hR hZ hh hm hY hIV hHI
  go_enter Try.func45, Try.ntmps45
  go_upto_region 1 with (fail)
  generalize hW : ((w.alloc (.cells (vs .u32 h) 52)).alloc (.cells (vs .u32 m) 70)).alloc (.cells (vs .u32 Z) 52) = W0
  have HW := Lib.hid (calm3 hW)
  clear hW
  have F0 : Hid (Fr (fun _ => False) w W0) := HW.out.2.2.2
  have X0_0 : Hid (W0.heap[w.heap.size]? = some (.cells (vs .u32 h) 52 (0, 0))) := HW.out.1
  have X0_1 : Hid (W0.heap[w.heap.size + 1]? = some (.cells (vs .u32 m) 70 (0, 0))) := HW.out.2.1
  have X0_2 : Hid (W0.heap[w.heap.size + 1 + 1]? = some (.cells (vs .u32 Z) 52 (0, 0))) := HW.out.2.2.1
  clear HW
  refine wp_region_inv2 (fun b a w' => ∃ g9 : Nat, Fr (fun _ => False) W0 w' ∧ (b 3 = true → W0.heap.size ≤ g9 ∧ w'.heap[g9]? = some (.cells (if b 4 = true then vs .u32 HI else vs .u32 Y) 70 (0, 0))) ∧ (b 4 = true → b 3 = true) ∧ a = ⟨#[.agg (vs .u32 h), .agg (vs .u32 m), .int .u64 tt, .bool false, .pointer (some ⟨w.heap.size, 0, none⟩), .pointer (some ⟨w.heap.size + 1, 0, none⟩), undef, undef, .pointer (some ⟨w.heap.size + 1 + 1, 0, none⟩), if b 3 = true then .pointer (some ⟨g9, 0, none⟩) else undef, undef, undef, undef, if b 0 = true then .agg (vs .u32 h) else undef, if b 1 = true then .agg (vs .u32 IV) else undef, if b 2 = true then .agg (vs .u32 HI) else undef, undef, undef, undef, undef, undef, undef, undef, undef, undef, undef, undef, undef, undef, undef, undef, undef, undef, undef, undef, undef, undef, undef, undef, undef, undef, undef, undef, undef, undef, undef, undef, undef, undef, undef, undef, undef, undef, undef, undef, undef, undef, undef, undef, undef, undef, undef], []⟩) (by kernel_rfl) (by kernel_rfl) ?start1 ?step1 ?done1
  case start1 => exact ⟨0, ⟨rfl, rfl, rfl, Nat.le_refl _, fun _ _ _ => rfl⟩, by simp, by simp, by simp⟩
  case step1 =>
    intro i o b a w1 ho hI hb hr hc
    obtain ⟨g9, hF, h3, hq3, rfl⟩ := hI
    match i, ho with
    | 0, ho =>
      injection ho with ho
      subst ho
      refine wp_quiet_here _ (quiet_load 52 (.tmp 4) rfl (w.heap.size) rfl 52 _ (0, 0) _ (fun _ h => (Fr.block h _ (Nat.lt_of_lt_of_le (heap_lt X0_0.out) hF.size) (fun x => x)).trans ((hF.block _ (heap_lt X0_0.out) (fun x => x)).trans X0_0.out)) Try.underlying52 rfl sH.out rfl) (fun w2 hw2 => ?_)
      refine ⟨g9, hF.trans hw2, ?_, ?_, ?_⟩
      · intro hx
        replace hx : b 3 = true := by simpa [upd] using hx
        obtain ⟨k1', k2⟩ := h3 hx
        refine ⟨k1', (hw2.block _ (heap_lt k2) (fun x => x)).trans ?_⟩
        rw [k2]
        simp [upd]
      · simpa [upd] using hq3
      · simp [upd, Act.put]
    | 1, ho =>
      injection ho with ho
      subst ho
      refine wp_quiet_here (.agg (vs .u32 IV)) ?_ (fun w2 hw2 => ?_)
      · simp only [Bool.false_eq_true] 
        go_big_quiet_op
        exact ⟨_, Calm.calls CS, by simp [Act.put]⟩
      refine ⟨g9, hF.trans hw2, ?_, ?_, ?_⟩
      · intro hx
        replace hx : b 3 = true := by simpa [upd] using hx
        obtain ⟨k1', k2⟩ := h3 hx
        refine ⟨k1', (hw2.block _ (heap_lt k2) (fun x => x)).trans ?_⟩
        rw [k2]
        simp [upd]
      · simpa [upd] using hq3
      · simp [upd, Act.put]
    | 2, ho =>
      injection ho with ho
      subst ho
      simp [Region.binds] at hr
      have d0 : b 0 = true := by simp only [hr]
      have d1 : b 1 = true := by simp only [hr]
      simp only [hr, if_true]
      refine wp_quiet_here (.agg (vs .u32 HI)) ?_ (fun w2 hw2 => ?_)
      · go_big_quiet_op
        exact ⟨_, Calm.calls CB, by simp [Act.put]⟩
      refine ⟨g9, hF.trans hw2, ?_, ?_, ?_⟩
      · intro hx
        replace hx : b 3 = true := by simpa [upd] using hx
        obtain ⟨k1', k2⟩ := h3 hx
        refine ⟨k1', (hw2.block _ (heap_lt k2) (fun x => x)).trans ?_⟩
        rw [k2]
        simp [upd]
      · simpa [upd] using hq3
      · simp [upd, Act.put, hr]
    | 3, ho =>
      injection ho with ho
      subst ho
      refine wp_alloc_any 70 rfl (vs .u32 Y) hz16 ?_
      refine ⟨w1.heap.size, hF.alloc _, ?_, ?_, ?_⟩
      · intro _
        refine ⟨hF.size, (heap_alloc_new w1 _).trans ?_⟩
        have hs : b 4 = false := by
          rcases hbs : b 4 with _ | _
          · rfl
          · rw [hq3 hbs] at hb
            cases hb
        simp [upd, hs]
      · simp [upd]
      · simp [upd, Act.put]
    | 4, ho =>
      injection ho with ho
      subst ho
      simp [Region.binds] at hr
      have d2 : b 2 = true := by simp only [hr]
      have d3 : b 3 = true := by simp only [hr]
      simp only [hr, if_true]
      obtain ⟨k1, k2⟩ := h3 d3
      rw [hb] at k2
      simp only [Bool.false_eq_true, if_false] at k2
      refine wp_store_row 70 (.tmp 9) (.tmp 15) rfl g9 (vs .u32 HI) rfl rfl 70 _ k2 sI.out eI.out (vs_all _ _) ?_
      refine ⟨g9, hF.setRow _ (.inr k1), ?_, ?_, ?_⟩
      · intro _
        refine ⟨k1, (setRow_heap _ _ _ _ _ _ k2).trans ?_⟩
        simp [upd]
      · simp [upd, d3]
      · simp [upd, Act.put, hr]
    | j + 5, ho => exact absurd ho (by simp)
  intro b a W2 hall hI
  obtain ⟨g9, hF, h3, hq3, rfl⟩ := hI
  have t0 : b 0 = true := hall 0 (by simp)
  have t1 : b 1 = true := hall 1 (by simp)
  have t2 : b 2 = true := hall 2 (by simp)
  have t3 : b 3 = true := hall 3 (by simp)
  have t4 : b 4 = true := hall 4 (by simp)
  simp only [t0, t1, t2, t3, t4, if_true, true_implies] at h3 hq3 ⊢
  have F2 : Hid (Fr (fun _ => False) w W2) := F0.out.trans hF
  have X2_0 := Lib.hid ((hF.block _ (heap_lt X0_0.out) (fun x => x)).trans X0_0.out)
  have X2_1 := Lib.hid ((hF.block _ (heap_lt X0_1.out) (fun x => x)).trans X0_1.out)
  have X2_2 := Lib.hid ((hF.block _ (heap_lt X0_2.out) (fun x => x)).trans X0_2.out)
  have X2_3 := Lib.hid h3.2
  have Yg9 : w.heap.size ≤ g9 := Nat.le_trans F0.out.size h3.1
  have Dg9_0 : (w.heap.size) ≠ g9 := by
    have q := heap_lt X0_0.out
    have q2 := h3.1
    omega
  have Dg9_1 : (w.heap.size + 1) ≠ g9 := by
    have q := heap_lt X0_1.out
    have q2 := h3.1
    omega
  have Dg9_2 : (w.heap.size + 1 + 1) ≠ g9 := by
    have q := heap_lt X0_2.out
    have q2 := h3.1
    omega
  clear hall hF h3 hq3 t0 t1 t2 t3 t4 X0_0 X0_1 X0_2 F0
  have A1 : Hid (Ar W2 g9 70 .u32 HI) := X2_3.out
  have H1 : Hid (Ar W2 w.heap.size 52 .u32 h) := X2_0.out
  have M1 : Hid (Ar W2 (w.heap.size + 1) 70 .u32 m) := X2_1.out
  have Z1 : Hid (Ar W2 (w.heap.size + 1 + 1) 52 .u32 Z) := X2_2.out
  have NG : Hid (w.heap.size + 2 < g9) := by
    have h1 := Z1.out.lt
    show _ < _
    omega
  clear X2_0 X2_1 X2_2 X2_3 CS CB sI eI
  obtain ⟨p, hp⟩ : ∃ p, IntKind.u32.wrap tt = p := ⟨_, rfl⟩
  obtain ⟨x12, hx12⟩ : ∃ x, bits .xor .u32 1359893119 p = x := ⟨_, rfl⟩
  obtain ⟨p2, hp2⟩ : ∃ p, IntKind.u32.wrap (tt / 4294967296) = p := ⟨_, rfl⟩
  obtain ⟨x13, hx13⟩ : ∃ x, bits .xor .u32 2600822924 p2 = x := ⟨_, rfl⟩
  have HX : Hid (v0 h tt false = (h ++ [1779033703, 3144134277, 1013904242, 2773480762, x12, x13, 528734635, 1541459225])) := by
    show _ = _
    rw [← hx12, ← hx13, ← hp, ← hp2, wrap32, wrap32]
    rfl
  have e12 : HI[12]? = some 1359893119 := by rw [HHI.out, HIV.out]; exact app_get HH.out.1 4
  have r1 := A1.out.cell e12
  have r2 := A1.out.frozen 12
  go_upto_region 3 with (fail)
  have A2 : Hid (Ar (W2.setCell ⟨g9, 12, none⟩ (.int .u32 x12)) g9 70 .u32 (HI.set 12 x12)) := A1.out.set 12 x12
  have H2 : Hid (Ar (W2.setCell ⟨g9, 12, none⟩ (.int .u32 x12)) w.heap.size 52 .u32 h) := H1.out.far (by show ¬ w.heap.size = g9; have := NG.out; omega) _
  have M2 : Hid (Ar (W2.setCell ⟨g9, 12, none⟩ (.int .u32 x12)) (w.heap.size + 1) 70 .u32 m) := M1.out.far (by show ¬ (w.heap.size + 1) = g9; have := NG.out; omega) _
  have Z2 : Hid (Ar (W2.setCell ⟨g9, 12, none⟩ (.int .u32 x12)) (w.heap.size + 1 + 1) 52 .u32 Z) := Z1.out.far (by show ¬ (w.heap.size + 1 + 1) = g9; have := NG.out; omega) _
  have K2 : Hid (Fr (fun _ => False) w (W2.setCell ⟨g9, 12, none⟩ (.int .u32 x12))) := F2.out.setCell _ (.inr (by show w.heap.size ≤ g9; have := NG.out; omega))
  generalize W2.setCell ⟨g9, 12, none⟩ (.int .u32 x12) = U2 at *
  clear r1 r2 e12 A1 H1 M1 Z1 F2
  have e13 : (HI.set 12 x12)[13]? = some 2600822924 := by rw [HHI.out, HIV.out, app_set HH.out.1 4]; exact app_get HH.out.1 5
  have r1 := A2.out.cell e13
  have r2 := A2.out.frozen 13
  go_upto_region 4 with (fail)
  have A3 : Hid (Ar (U2.setCell ⟨g9, 13, none⟩ (.int .u32 x13)) g9 70 .u32 ((HI.set 12 x12).set 13 x13)) := A2.out.set 13 x13
  have H3 : Hid (Ar (U2.setCell ⟨g9, 13, none⟩ (.int .u32 x13)) w.heap.size 52 .u32 h) := H2.out.far (by show ¬ w.heap.size = g9; have := NG.out; omega) _
  have M3 : Hid (Ar (U2.setCell ⟨g9, 13, none⟩ (.int .u32 x13)) (w.heap.size + 1) 70 .u32 m) := M2.out.far (by show ¬ (w.heap.size + 1) = g9; have := NG.out; omega) _
  have Z3 : Hid (Ar (U2.setCell ⟨g9, 13, none⟩ (.int .u32 x13)) (w.heap.size + 1 + 1) 52 .u32 Z) := Z2.out.far (by show ¬ (w.heap.size + 1 + 1) = g9; have := NG.out; omega) _
  have K3 : Hid (Fr (fun _ => False) w (U2.setCell ⟨g9, 13, none⟩ (.int .u32 x13))) := K2.out.setCell _ (.inr (by show w.heap.size ≤ g9; have := NG.out; omega))
  generalize U2.setCell ⟨g9, 13, none⟩ (.int .u32 x13) = U3 at *
  clear r1 r2 e13 A2 H2 M2 Z2 K2
  go_upto_region 6 with (fail)
  obtain ⟨U4, rfl⟩ : ∃ W, W = U3 := ⟨_, rfl⟩
  have A4 := A3
  have H4 := H3
  have M4 := M3
  have Z4 := Z3
  have K4 := K3
  clear A3 H3 M3 Z3 K3
  have HU : Hid ((HI.set 12 x12).set 13 x13 = v0 h tt false) := by
    show _ = _
    rw [HX.out, HHI.out, HIV.out, app_set HH.out.1 4, app_set HH.out.1 5]
    rfl
  obtain ⟨U, hU⟩ : ∃ U, U = v0 h tt false := ⟨_, rfl⟩
  have OU : Hid (V16 U) := by rw [hU]; exact v0_ok HH.out tt _
  rw [HU.out, ← hU] at A4
  rw [prm, ← hU] at HR
  clear hU HU HX hp hx12 hp2 hx13 lI HHI HIV
  obtain ⟨OT5, hOT⟩ : ∃ O, O = vs .u8 oti := ⟨_, rfl⟩
  have HOT := Lib.hid hOT
  have CO : ∀ W, Calls Try.prog 52 #[] W fun e w' => e = .returned (.agg OT5) ∧ Fr (fun _ => False) W w' := fun W => by rw [hOT]; exact orders_is W
  clear hOT
  go_upto_region 7 with (go_at_call 52; refine (CO _).mono ?_; rintro e U5 ⟨rfl, hf⟩; have G5 := Lib.hid hf; clear hf)
  have A5 : Hid (Ar U5 g9 70 .u32 (rd m U (8 * 0))) := A4.out.fr G5.out (fun x => x)
  have H5 := Lib.hid (H4.out.fr G5.out (fun x => x))
  have M5 := Lib.hid (M4.out.fr G5.out (fun x => x))
  have Z5 := Lib.hid (Z4.out.fr G5.out (fun x => x))
  have K5 := Lib.hid (K4.out.trans G5.out)
  clear A4 H4 M4 Z4 K4 G5 CO
  obtain ⟨ZO, hZO⟩ : ∃ Z, Z = List.replicate 16 (0 : Int) := ⟨_, rfl⟩
  have lZO : Hid (ZO.length = 16) := by show _ = _; rw [hZO]; rfl
  have hzO : ∀ W : World, (zeroValue 80).run Try.prog W = .ok (.agg (vs .u8 ZO)) W := fun W => by rw [hZO]; exact zero26 W
  clear hZO
  go_loopw [35] (fun u35 wr => ∃ i : Nat, u35 = .int .i64 i ∧ i ≤ 10 ∧ Hid (Ar wr g9 70 .u32 (rd m U (8 * i))) ∧ Hid (Fr (fun j => j = g9) U5 wr)) (fun u35 _ => 10 - (intOf u35).toNat)
  case atStart => exact ⟨0, rfl, by omega, A5, Lib.hid (Fr.refl _ _)⟩
  case round =>
  clear A5
  obtain ⟨i, rfl, hi, hV, hF⟩ := hrel
  by_cases hil : i < 10
  · obtain ⟨O, hO⟩ : ∃ O, O = odr i := ⟨_, rfl⟩
    obtain ⟨OV, hOV⟩ : ∃ V, V = vs .u8 O := ⟨_, rfl⟩
    have hI : ∀ W, (Instr.index 81 (.agg OT5) (.int .i64 (i : Int))).run Try.prog W = .ok (.agg OV) W := fun W => by rw [HOT.out, hOV, hO, ← odr_vs]; exact index_row Try.underlying81 Try.underlying80 szO _ i hil W
    have lO : Hid (O.length = 16) := by show _ = _; rw [hO]; exact odr_length hil
    have sO : Hid ((Try.prog.info? 80).map (·.size) = some OV.size) := by show _ = _; rw [szO, hOV, vs_size, lO.out]
    have eO : Hid ((vs .u8 ZO).size = OV.size) := by show _ = _; rw [hOV, vs_size, vs_size, lO.out, lZO.out]
    have aO : Hid (OV.all (·.oneCell') = true) := by show _ = _; rw [hOV]; exact vs_all _ _
    obtain ⟨X, hX⟩ : ∃ X, X = byv m O := ⟨_, rfl⟩
    obtain ⟨D, hD⟩ : ∃ D, D = rd m U (8 * i) := ⟨_, rfl⟩
    obtain ⟨E, hE⟩ : ∃ E, E = rnB D X := ⟨_, rfl⟩
    have HE : Hid (E = rd m U (8 * (i + 1))) := by show _ = _; rw [hE, hD, hX, hO]; exact rnB_rd m U hil
    have OD : Hid (V16 D) := by rw [hD]; exact rd_ok OU.out _
    have lE : Hid (E.length = 16) := by show _ = _; rw [HE.out]; exact (rd_ok OU.out _).1
    have CY : ∀ W, Calls Try.prog 54 #[.agg (vs .u32 m), .agg OV] W fun e w' => e = .returned (.agg (vs .u32 X)) ∧ Fr (fun _ => False) W w' := fun W => by rw [hX, hOV]; exact by_is m O W MM.out lO.out (fun j hj => ⟨ot (i * 16 + j), ot_lt _, by rw [hO]; exact odr_get hil hj⟩)
    have CM : ∀ W, Calls Try.prog 53 #[.agg (vs .u32 D), .agg (vs .u32 X)] W fun e w' => e = .returned (.agg (vs .u32 E)) ∧ Fr (fun _ => False) W w' := fun W => by rw [hE]; exact mixed_is D X W OD.out (by rw [hX, byv_length])
    have sD : Hid ((Try.prog.info? 70).map (·.size) = some (vs .u32 D).size) := by show _ = _; rw [szS, vs_size, OD.out.1]
    have sE : Hid ((Try.prog.info? 70).map (·.size) = some (vs .u32 E).size) := by show _ = _; rw [szS, vs_size, lE.out]
    have eE : Hid ((vs .u32 D).size = (vs .u32 E).size) := by show _ = _; rw [vs_size, vs_size, OD.out.1, lE.out]
    rw [← hD] at hV
    have j0 : (i : Int) < 10 := by omega
    clear hO hOV hX hD hE
    go_upto_region 9 with (refine wpList_store_row rfl 80 (.tmp 11) (.tmp 37) rfl wr.heap.size OV rfl rfl 80 (vs .u8 ZO) (heap_alloc_new wr (.cells (vs .u8 ZO) 80)) sO.out eO.out aO.out ?_)
    obtain ⟨q, hq⟩ : ∃ q, q = wr.heap.size := ⟨_, rfl⟩
    have hff : Fr (fun _ => False) wr ((wr.alloc (.cells (vs .u8 ZO) 80)).setRow wr.heap.size OV) := ((Fr.refl _ wr).alloc _).setRow _ (.inr (Nat.le_refl _))
    have BO : Hid (((wr.alloc (.cells (vs .u8 ZO) 80)).setRow wr.heap.size OV).heap[q]? = some (.cells OV 80 (0, 0))) := by rw [hq]; exact setRow_heap _ _ _ _ _ _ (heap_alloc_new wr (.cells (vs .u8 ZO) 80))
    replace hV := Lib.hid (hV.out.fr hff (fun x => x))
    replace hF := Lib.hid (hF.out.trans hff.any)
    rw [← hq] at hV hF BO ⊢
    clear hff hq
    generalize (wr.alloc (.cells (vs .u8 ZO) 80)).setRow q OV = V5 at *
    try simp only [Act.put, List.setIfInBounds_toArray, List.set_cons_succ, List.set_cons_zero]
    have MV : Hid (Ar V5 (w.heap.size + 1) 70 .u32 m) := M5.out.fr hF.out (show ¬ (w.heap.size + 1) = g9 by have := NG.out; omega)
    refine wp_region_quiet_tail (C := Calm V5) 5 (by kernel_rfl) (by kernel_rfl) (Calm.start _ _ (Fr.refl _ _)) ?_
    simp only [List.take_succ_cons, List.take_zero, List.drop_succ_cons, List.drop_zero]
    refine BigFrame.wpQuiet_want rfl fun K hK => quiet_load 70 (.tmp 9) rfl (g9) rfl 70 _ (0, 0) _ (fun _ h => Calm.at hV.out h) Try.underlying70 rfl sD.out (hK _ ?_)
    refine BigFrame.wpQuiet_want rfl fun K hK => quiet_load 70 (.tmp 5) rfl ((w.heap.size + 1)) rfl 70 _ (0, 0) _ (fun _ h => Calm.at MV.out h) Try.underlying70 rfl sM.out (hK _ ?_)
    refine BigFrame.wpQuiet_want rfl fun K hK => quiet_load 80 (.tmp 11) rfl (q) rfl 80 _ (0, 0) _ (fun _ h => Calm.at BO.out h) Try.underlying80 rfl sO.out (hK _ ?_)
    refine BigFrame.wpQuiet_want rfl fun K hK => ?_
    try simp only [Act.put, List.setIfInBounds_toArray, List.set_cons_succ, List.set_cons_zero]
    go_big_quiet_op
    refine ⟨_, Calm.calls CY, hK _ ?_⟩
    refine BigFrame.wpQuiet_want rfl fun K hK => ?_
    try simp only [Act.put, List.setIfInBounds_toArray, List.set_cons_succ, List.set_cons_zero]
    go_big_quiet_op
    refine ⟨_, Calm.calls CM, hK _ ?_⟩
    refine wpQuiet_nil ?_
    intro w9 hw9
    have G9 := Lib.hid hw9
    clear hw9
    try simp only [Act.put, List.setIfInBounds_toArray, List.set_cons_succ, List.set_cons_zero]
    refine wpList_store_row rfl 70 (.tmp 9) (.tmp 42) rfl g9 (vs .u32 E) rfl rfl 70 (vs .u32 D) (Ar.fr hV.out G9.out (fun x => x)) sE.out eE.out (vs_all _ _) ?_
    have V9 : Hid (Ar (w9.setRow g9 (vs .u32 E)) g9 70 .u32 (rd m U (8 * (i + 1)))) := by rw [← HE.out]; exact (Ar.fr hV.out G9.out (fun x => x)).row E
    have K9 : Hid (Fr (fun j => j = g9) U5 (w9.setRow g9 (vs .u32 E))) := (hF.out.trans G9.out.any).setRow _ (.inl rfl)
    generalize w9.setRow g9 (vs .u32 E) = Y9 at *
    clear hV hF G9 HE CM CY MV BO sD sE eE OD lE
    try simp only [Act.put, List.setIfInBounds_toArray, List.set_cons_succ, List.set_cons_zero]
    go_wp2
    go_roundw
    case rel => exact ⟨i + 1, by go_num, by omega, V9, K9⟩
    case measure => simp [intOf]; omega
  obtain rfl : i = 10 := by omega
  obtain ⟨D, hD⟩ : ∃ D, D = rd m U 80 := ⟨_, rfl⟩
  have OD : Hid (V16 D) := by rw [hD]; exact rd_ok OU.out _
  have V9 : Hid (Ar wr g9 70 .u32 D) := by rw [hD]; exact hV.out
  have HE : Hid (R = fn h D) := by show _ = _; rw [HR.out, hD]
  obtain ⟨V, rfl⟩ : ∃ V : World, V = wr := ⟨_, rfl⟩
  have H6 := Lib.hid (H5.out.fr hF.out (show ¬ w.heap.size = g9 by have := NG.out; omega))
  have Z6 := Lib.hid (Z5.out.fr hF.out (show ¬ (w.heap.size + 1 + 1) = g9 by have := NG.out; omega))
  have K6 : Hid (Fr (fun _ => False) w V) := K5.out.trans' hF.out (fun j hj e => by have := NG.out; omega)
  clear hV hF hD M5 H5 Z5 K5 HOT HR OU hil hi hzO lZO sM
  go_upto_region 12 with (fail)
  have lR : Hid (R.length = 8) := by show _ = _; rw [HE.out, fn_length]
  have H4 : Hid (Ar V w.heap.size 52 .u32 (R.take 0 ++ h.drop 0)) := H6.out
  go_loopw [12, 44] (fun _ u44 wr => ∃ i : Nat, u44 = .int .i64 i ∧ i ≤ 8 ∧ Hid (Ar wr w.heap.size 52 .u32 (R.take i ++ h.drop i)) ∧ Hid (Fr (fun j => j = w.heap.size) V wr)) (fun _ u44 _ => 8 - (intOf u44).toNat)
  case atStart => exact ⟨0, rfl, by omega, H4, Lib.hid (Fr.refl _ _)⟩
  case round =>
  clear H6 H4
  obtain ⟨i, rfl, hi, hH, hF⟩ := hrel
  by_cases hil : i < 8
  · obtain ⟨x, hx⟩ : ∃ x, h[i]? = some x := ⟨_, getD_some (by rw [HH.out.1]; exact hil)⟩
    obtain ⟨a, ha⟩ : ∃ x, D[i]? = some x := ⟨_, getD_some (by rw [OD.out.1]; omega)⟩
    obtain ⟨b, hb⟩ : ∃ x, D[i + 8]? = some x := ⟨_, getD_some (by rw [OD.out.1]; omega)⟩
    obtain ⟨s, hs⟩ : ∃ s, bits .xor .u32 a b = s := ⟨_, rfl⟩
    obtain ⟨y, hy⟩ : ∃ y, bits .xor .u32 x s = y := ⟨_, rfl⟩
    have RY : Hid (R[i]? = some y) := by
      show _ = _
      rw [HE.out, fn_get h D hil, List.getD_eq_getElem?_getD, hx, List.getD_eq_getElem?_getD, ha, List.getD_eq_getElem?_getD, hb, ← hy, ← hs]
      show some (xr (xr x a) b) = some (xr x (xr a b))
      rw [xr_assoc (HH.out.2 x (List.mem_of_getElem? hx)) (OD.out.2 a (List.mem_of_getElem? ha)) (OD.out.2 b (List.mem_of_getElem? hb))]
    have X1 : Hid ((R.take i ++ h.drop i)[i]? = some x) := by
      show _ = _
      rw [half_get (Nat.le_refl i) (by rw [lR.out, HH.out.1]) (by rw [HH.out.1]; exact hil), List.getD_eq_getElem?_getD, hx]
      rfl
    have XA := Lib.hid ha
    have XB := Lib.hid hb
    have D2 := Lib.hid (V9.out.fr hF.out (show ¬ g9 = w.heap.size by have := NG.out; omega))
    have qi : (i : Int) < 8 := by omega
    have qi2 : (i : Int) < 16 := by omega
    have pi : 0 ≤ (i : Int) := by omega
    have ti : ((i : Int)).toNat = i := by omega
    have wi : IntKind.i64.wrap ((i : Int) + 8) = (i : Int) + 8 := by rw [IntKind.wrap_i64]; omega
    have ti8 : ((i : Int) + 8).toNat = i + 8 := by omega
    have pi8 : 0 ≤ (i : Int) + 8 := by omega
    have qi8 : (i : Int) + 8 < 16 := by omega
    clear hx ha hb
    go_upto_region 14 with (fail)
    refine wp_region_quiet_tail (C := Calm wr) 13 (by kernel_rfl) (by kernel_rfl) (Calm.start _ _ (Fr.refl _ _)) ?_
    simp only [List.take_succ_cons, List.take_zero, List.drop_succ_cons, List.drop_zero]
    refine BigFrame.wpQuiet_want rfl fun K hK => ?_
    try simp only [Act.put, List.setIfInBounds_toArray, List.set_cons_succ, List.set_cons_zero]
    go_big_quiet_op
    refine hK _ ?_
    refine BigFrame.wpQuiet_want rfl fun K hK => ?_
    try simp only [Act.put, List.setIfInBounds_toArray, List.set_cons_succ, List.set_cons_zero]
    go_big_quiet_op
    first
      | refine ⟨_, fun _ _ => rfl, hK _ ?_⟩
      | refine hK _ ?_
    refine BigFrame.wpQuiet_want rfl fun K hK => quiet_one 50 .u32 (.tmp 48) rfl w.heap.size (i) rfl (x) Try.underlying50 (fun _ h => (Ar.fr hH.out h (fun x => x)).cell X1.out) (hK _ ?_)
    refine BigFrame.wpQuiet_want rfl fun K hK => ?_
    try simp only [Act.put, List.setIfInBounds_toArray, List.set_cons_succ, List.set_cons_zero]
    go_big_quiet_op
    refine hK _ ?_
    refine BigFrame.wpQuiet_want rfl fun K hK => ?_
    try simp only [Act.put, List.setIfInBounds_toArray, List.set_cons_succ, List.set_cons_zero]
    go_big_quiet_op
    first
      | refine ⟨_, fun _ _ => rfl, hK _ ?_⟩
      | refine hK _ ?_
    refine BigFrame.wpQuiet_want rfl fun K hK => quiet_one 50 .u32 (.tmp 51) rfl g9 (i) rfl (a) Try.underlying50 (fun _ h => (Ar.fr D2.out h (fun x => x)).cell XA.out) (hK _ ?_)
    refine BigFrame.wpQuiet_want rfl fun K hK => ?_
    try simp only [Act.put, List.setIfInBounds_toArray, List.set_cons_succ, List.set_cons_zero]
    go_big_quiet_op
    refine hK _ ?_
    refine BigFrame.wpQuiet_want rfl fun K hK => ?_
    try simp only [Act.put, List.setIfInBounds_toArray, List.set_cons_succ, List.set_cons_zero]
    go_big_quiet_op
    first
      | refine ⟨_, fun _ _ => rfl, hK _ ?_⟩
      | refine hK _ ?_
    refine BigFrame.wpQuiet_want rfl fun K hK => ?_
    try simp only [Act.put, List.setIfInBounds_toArray, List.set_cons_succ, List.set_cons_zero]
    go_big_quiet_op
    first
      | refine ⟨_, fun _ _ => rfl, hK _ ?_⟩
      | refine hK _ ?_
    refine BigFrame.wpQuiet_want rfl fun K hK => quiet_one 50 .u32 (.tmp 55) rfl g9 (i + 8) rfl (b) Try.underlying50 (fun _ h => (Ar.fr D2.out h (fun x => x)).cell XB.out) (hK _ ?_)
    refine BigFrame.wpQuiet_want rfl fun K hK => ?_
    try simp only [Act.put, List.setIfInBounds_toArray, List.set_cons_succ, List.set_cons_zero]
    go_big_quiet_op
    first
      | refine ⟨_, fun _ _ => rfl, hK _ ?_⟩
      | refine hK _ ?_
    refine BigFrame.wpQuiet_want rfl fun K hK => ?_
    try simp only [Act.put, List.setIfInBounds_toArray, List.set_cons_succ, List.set_cons_zero]
    go_big_quiet_op
    first
      | refine ⟨_, fun _ _ => rfl, hK _ ?_⟩
      | refine hK _ ?_
    refine BigFrame.wpQuiet_want rfl fun K hK => ?_
    try simp only [Act.put, List.setIfInBounds_toArray, List.set_cons_succ, List.set_cons_zero]
    go_big_quiet_op
    first
      | refine ⟨_, fun _ _ => rfl, hK _ ?_⟩
      | refine hK _ ?_
    refine wpQuiet_nil ?_
    intro w9 hw9
    have G9 := Lib.hid hw9
    clear hw9
    try simp only [Act.put, List.setIfInBounds_toArray, List.set_cons_succ, List.set_cons_zero]
    refine wpList_plain rfl fun K hK => wp_store_one 50 .u32 (.tmp 59) (.tmp 58) rfl w.heap.size i rfl y rfl Try.underlying50 sz47 (Ar.fr hH.out G9.out (fun x => x)) (by rw [List.length_append, List.length_take, List.length_drop, lR.out, HH.out.1]; omega) (hK _ _ ?_)
    have N9 := Lib.hid ((Ar.fr hH.out G9.out (fun x => x)).set i y)
    rw [half_set (by rw [HH.out.1]; exact hil) (by rw [lR.out, HH.out.1]) RY.out] at N9
    have K9 : Hid (Fr (fun j => j = w.heap.size) V (w9.setCell ⟨w.heap.size, i, none⟩ (.int .u32 y))) := (hF.out.trans G9.out.any).setCell _ (.inl rfl)
    generalize w9.setCell ⟨w.heap.size, i, none⟩ (.int .u32 y) = Y9 at *
    clear hH hF G9 X1 XA XB D2 RY hs hy
    try simp only [Act.put, List.setIfInBounds_toArray, List.set_cons_succ, List.set_cons_zero]
    go_wp2
    go_roundw
    case rel => exact ⟨i + 1, by go_num, by omega, N9, K9⟩
    case measure => simp [intOf]; omega
  obtain rfl : i = 8 := by omega
  have H9 : Hid (Ar wr w.heap.size 52 .u32 R) := by
    have e := hH.out
    rwa [List.take_of_length_le (by rw [lR.out]; exact Nat.le_refl 8), List.drop_of_length_le (by rw [HH.out.1]; exact Nat.le_refl 8), List.append_nil] at e
  have Z9 := Lib.hid (Z6.out.fr hF.out (show ¬ (w.heap.size + 1 + 1) = w.heap.size by omega))
  have F9 : Hid (Fr (fun _ => False) w wr) := K6.out.trans' hF.out (fun j hj e => by omega)
  have s9 : Hid ((Try.prog.info? 52).map (·.size) = some (vs .u32 R).size) := by show _ = _; rw [szE, vs_size, lR.out]
  have e9 : Hid ((vs .u32 Z).size = (vs .u32 R).size) := by show _ = _; rw [vs_size, vs_size, lZ.out, lR.out]
  clear hH hF Z6 K6 V9 hil hi
  go_wp2_with (first
    | refine wpList_load_row rfl 52 (.tmp 4) rfl (w.heap.size) rfl 52 (vs .u32 R) (0, 0) _ H9.out Try.underlying52 rfl s9.out ?_
    | refine wpList_store_row rfl 52 (.tmp 8) (.tmp 61) rfl (w.heap.size + 1 + 1) (vs .u32 R) rfl rfl 52 _ Z9.out s9.out e9.out (vs_all _ _) ?_)
  refine bodyPost_ret (results_cell_row Try.results45 _ _ _ 52 _ (0, 0) _ rfl (setRow_heap _ _ _ _ _ _ Z9.out) Try.underlying52 rfl s9.out) rfl ⟨rfl, F9.out.setRow _ (.inr (by omega))⟩
end Go.Proofs.Ytebknlhooijkcaa
