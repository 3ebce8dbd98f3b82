/- The reference's Two: contract. Conditions: a chain of 32 bytes, slices that lie in memory, lengths below 2^47. -/
import Derived.Test.YtebknlhooijkcaaYh
namespace Go.Proofs.Ytebknlhooijkcaa
set_option linter.unusedSimpArgs false
set_option linter.unusedVariables false
open Go.ChangeShapes Go.WideShapes Go.ChangeAt Go.RowKit


/-- Two new rows, stored. -/
theorem rows2a (w : World) (Z : List Int) : Ar ((w.alloc (.cells (vs .u8 Z) 32)).alloc (.cells (vs .u8 Z) 32)) w.heap.size 32 .u8 Z := (calm2 rfl).1
theorem rows2b (w : World) (Z E1 : List Int) : Ar (((w.alloc (.cells (vs .u8 Z) 32)).alloc (.cells (vs .u8 Z) 32)).setRow w.heap.size (vs .u8 E1)) (w.heap.size + 1) 32 .u8 Z := (show Ar ((w.alloc (.cells (vs .u8 Z) 32)).alloc (.cells (vs .u8 Z) 32)) (w.heap.size + 1) 32 .u8 Z from (calm2 rfl).2.1).rowFar (by omega) _
theorem rows2 (w : World) (Z E1 E2 : List Int) : Ar ((((w.alloc (.cells (vs .u8 Z) 32)).alloc (.cells (vs .u8 Z) 32)).setRow w.heap.size (vs .u8 E1)).setRow (w.heap.size + 1) (vs .u8 E2)) w.heap.size 32 .u8 E1 ∧ Ar ((((w.alloc (.cells (vs .u8 Z) 32)).alloc (.cells (vs .u8 Z) 32)).setRow w.heap.size (vs .u8 E1)).setRow (w.heap.size + 1) (vs .u8 E2)) (w.heap.size + 1) 32 .u8 E2 ∧ Fr (fun _ => False) w ((((w.alloc (.cells (vs .u8 Z) 32)).alloc (.cells (vs .u8 Z) 32)).setRow w.heap.size (vs .u8 E1)).setRow (w.heap.size + 1) (vs .u8 E2)) :=
  ⟨((rows2a w Z).row E1).rowFar (by omega) _, (rows2b w Z E1).row E2, (((show Fr (fun _ => False) w ((w.alloc (.cells (vs .u8 Z) 32)).alloc (.cells (vs .u8 Z) 32)) from (calm2 rfl).2.2).setRow _ (.inr (Nat.le_refl _))).setRow _ (.inr (by omega)))⟩
/-- Three new rows, stored. -/
theorem rows3a (w : World) (Z : List Int) : Ar (((w.alloc (.cells (vs .u8 Z) 32)).alloc (.cells (vs .u8 Z) 32)).alloc (.cells (vs .u8 Z) 32)) w.heap.size 32 .u8 Z := (calm3r rfl).1
theorem rows3b (w : World) (Z E1 : List Int) : Ar ((((w.alloc (.cells (vs .u8 Z) 32)).alloc (.cells (vs .u8 Z) 32)).alloc (.cells (vs .u8 Z) 32)).setRow w.heap.size (vs .u8 E1)) (w.heap.size + 1) 32 .u8 Z := (show Ar (((w.alloc (.cells (vs .u8 Z) 32)).alloc (.cells (vs .u8 Z) 32)).alloc (.cells (vs .u8 Z) 32)) (w.heap.size + 1) 32 .u8 Z from (calm3r rfl).2.1).rowFar (by omega) _
theorem rows3c (w : World) (Z E1 E2 : List Int) : Ar (((((w.alloc (.cells (vs .u8 Z) 32)).alloc (.cells (vs .u8 Z) 32)).alloc (.cells (vs .u8 Z) 32)).setRow w.heap.size (vs .u8 E1)).setRow (w.heap.size + 1) (vs .u8 E2)) (w.heap.size + 2) 32 .u8 Z := ((show Ar (((w.alloc (.cells (vs .u8 Z) 32)).alloc (.cells (vs .u8 Z) 32)).alloc (.cells (vs .u8 Z) 32)) (w.heap.size + 2) 32 .u8 Z from (calm3r rfl).2.2.1).rowFar (by omega) _).rowFar (by omega) _
theorem rows3 (w : World) (Z E1 E2 E3 : List Int) : Ar ((((((w.alloc (.cells (vs .u8 Z) 32)).alloc (.cells (vs .u8 Z) 32)).alloc (.cells (vs .u8 Z) 32)).setRow w.heap.size (vs .u8 E1)).setRow (w.heap.size + 1) (vs .u8 E2)).setRow (w.heap.size + 2) (vs .u8 E3)) w.heap.size 32 .u8 E1 ∧ Ar ((((((w.alloc (.cells (vs .u8 Z) 32)).alloc (.cells (vs .u8 Z) 32)).alloc (.cells (vs .u8 Z) 32)).setRow w.heap.size (vs .u8 E1)).setRow (w.heap.size + 1) (vs .u8 E2)).setRow (w.heap.size + 2) (vs .u8 E3)) (w.heap.size + 1) 32 .u8 E2 ∧ Ar ((((((w.alloc (.cells (vs .u8 Z) 32)).alloc (.cells (vs .u8 Z) 32)).alloc (.cells (vs .u8 Z) 32)).setRow w.heap.size (vs .u8 E1)).setRow (w.heap.size + 1) (vs .u8 E2)).setRow (w.heap.size + 2) (vs .u8 E3)) (w.heap.size + 2) 32 .u8 E3 ∧ Fr (fun _ => False) w ((((((w.alloc (.cells (vs .u8 Z) 32)).alloc (.cells (vs .u8 Z) 32)).alloc (.cells (vs .u8 Z) 32)).setRow w.heap.size (vs .u8 E1)).setRow (w.heap.size + 1) (vs .u8 E2)).setRow (w.heap.size + 2) (vs .u8 E3)) :=
  ⟨(((rows3a w Z).row E1).rowFar (by omega) _).rowFar (by omega) _, ((rows3b w Z E1).row E2).rowFar (by omega) _, (rows3c w Z E1 E2).row E3, ((((show Fr (fun _ => False) w (((w.alloc (.cells (vs .u8 Z) 32)).alloc (.cells (vs .u8 Z) 32)).alloc (.cells (vs .u8 Z) 32)) from (calm3r rfl).2.2.2).setRow _ (.inr (Nat.le_refl _))).setRow _ (.inr (by omega))).setRow _ (.inr (by omega)))⟩
set_option maxRecDepth 100000 in
set_option maxHeartbeats 16000000 in
theorem rtwo_is (ch : List Int) (g2 : Nat) (A2 : Option Addr) (m2 c2 : Nat) (b : List Int) (w : World) (lc : ch.length = 32) (bc : Bys ch) (h2 : Sl w g2 (.slice A2 m2 c2) b) (hm2 : m2 ≤ 140737488351232) :
    Calls Try.prog 21 #[.agg (vs .u8 ch), .slice A2 m2 c2] w fun e w' => e = .returned (.tuple #[.agg (vs .u8 (ex (ext ch b) [] 1)), .agg (vs .u8 (ex (ext ch b) [] 2))]) ∧ Fr (fun _ => False) w w' := by
  obtain ⟨E1, hE1⟩ : ∃ E, E = ex (ext ch b) [] 1 := ⟨_, rfl⟩
  have l1 : Hid (E1.length = 32 ∧ Bys E1) := by rw [hE1]; exact ⟨ex_length _ _ _, ex_bys _ _ _⟩
  have s1 : Hid ((Try.prog.info? 32).map (·.size) = some (vs .u8 E1).size) := by show _ = _; rw [szKY, vs_size, l1.out.1]
  obtain ⟨E2, hE2⟩ : ∃ E, E = ex (ext ch b) [] 2 := ⟨_, rfl⟩
  have l2 : Hid (E2.length = 32 ∧ Bys E2) := by rw [hE2]; exact ⟨ex_length _ _ _, ex_bys _ _ _⟩
  have s2 : Hid ((Try.prog.info? 32).map (·.size) = some (vs .u8 E2).size) := by show _ = _; rw [szKY, vs_size, l2.out.1]
  obtain ⟨E3, hE3⟩ : ∃ E, E = ex (ext ch b) [] 3 := ⟨_, rfl⟩
  have l3 : Hid (E3.length = 32 ∧ Bys E3) := by rw [hE3]; exact ⟨ex_length _ _ _, ex_bys _ _ _⟩
  have s3 : Hid ((Try.prog.info? 32).map (·.size) = some (vs .u8 E3).size) := by show _ = _; rw [szKY, vs_size, l3.out.1]
  have C3 : ∀ W, Fr (fun _ => False) w W → Calls Try.prog 23 #[.agg (vs .u8 ch), .slice A2 m2 c2] W fun e w' => e = .returned (.tuple #[.agg (vs .u8 E1), .agg (vs .u8 E2), .agg (vs .u8 E3)]) ∧ Fr (fun _ => False) W w' := fun W hf => by
    rw [hE1, hE2, hE3]
    exact rthree_is ch g2 A2 m2 c2 b W lc bc (h2.fr hf (fun _ x => x)) hm2
  have sc : Hid ((Try.prog.info? 32).map (·.size) = some (vs .u8 ch).size) := by show _ = _; rw [szKY, vs_size, lc]
  obtain ⟨Z, hZ⟩ : ∃ Z, Z = List.replicate 32 (0 : Int) := ⟨_, rfl⟩
  have hz : ∀ W : World, (zeroValue 32).run Try.prog W = .ok (.agg (vs .u8 Z)) W := fun W => by rw [hZ]; exact zeroKY W
  have e1 : Hid ((vs .u8 Z).size = (vs .u8 E1).size) := by show _ = _; rw [vs_size, vs_size, l1.out.1, hZ]; rfl
  have e2 : Hid ((vs .u8 Z).size = (vs .u8 E2).size) := by show _ = _; rw [vs_size, vs_size, l2.out.1, hZ]; rfl
  have e3 : Hid ((vs .u8 Z).size = (vs .u8 E3).size) := by show _ = _; rw [vs_size, vs_size, l3.out.1, hZ]; rfl
  rw [← hE1, ← hE2]
  clear hE1 hE2 hE3 hZ lc bc h2 hm2
  go_enter Try.func21, Try.ntmps21
  go_upto_region 1 with (fail)
  obtain ⟨bx, hbx⟩ : ∃ x, x = w.heap.size := ⟨_, rfl⟩
  obtain ⟨r1, hr1⟩ : ∃ x, x = w.heap.size + 1 := ⟨_, rfl⟩
  obtain ⟨r2, hr2⟩ : ∃ x, x = w.heap.size + 2 := ⟨_, rfl⟩
  try rw [show w.heap.size + 1 + 1 = w.heap.size + 2 from rfl]
  rw [← hr1, ← hr2, ← hbx]
  generalize hW : ((w.alloc (.cells (vs .u8 ch) 32)).alloc (.cells (vs .u8 Z) 32)).alloc (.cells (vs .u8 Z) 32) = W0
  have HW := calm3r hW
  rw [← hr1, ← hr2, ← hbx] at HW
  have C0 : Hid (Ar W0 bx 32 .u8 ch) := HW.1
  have R1 : Hid (Ar W0 r1 32 .u8 Z) := HW.2.1
  have R2 : Hid (Ar W0 r2 32 .u8 Z) := HW.2.2.1
  have F0 : Hid (Fr (fun _ => False) w W0) := HW.2.2.2
  have NR : Hid (w.heap.size ≤ r1 ∧ r1 < r2) := by show _ ∧ _; omega
  clear HW hW hbx hr1 hr2
  try simp only [Act.put, List.setIfInBounds_toArray, List.set_cons_succ, List.set_cons_zero]
  go_upto_region 2 with (first
    | refine wpList_load_row rfl 32 (.tmp 2) rfl bx rfl 32 (vs .u8 ch) (0, 0) _ C0.out Try.underlying32 rfl sc.out ?_
    | (go_at_call 23; refine (C3 _ F0.out).mono ?_; rintro e w3 ⟨rfl, hf⟩; have F3 := Lib.hid hf; clear hf)
    | refine wpList_store_row rfl 32 (.tmp 6) (.tmp 13) rfl w3.heap.size (vs .u8 E1) rfl rfl 32 (vs .u8 Z) (rows3a w3 Z) s1.out e1.out (vs_all _ _) ?_
    | refine wpList_store_row rfl 32 (.tmp 7) (.tmp 14) rfl (w3.heap.size + 1) (vs .u8 E2) rfl rfl 32 (vs .u8 Z) (rows3b w3 Z E1) s2.out e2.out (vs_all _ _) ?_
    | refine wpList_store_row rfl 32 (.tmp 8) (.tmp 15) rfl (w3.heap.size + 2) (vs .u8 E3) rfl rfl 32 (vs .u8 Z) (rows3c w3 Z E1 E2) s3.out e3.out (vs_all _ _) ?_)
  have HW := rows3 w3 Z E1 E2 E3
  obtain ⟨q1, hq1⟩ : ∃ x, x = w3.heap.size := ⟨_, rfl⟩
  obtain ⟨q2, hq2⟩ : ∃ x, x = w3.heap.size + 1 := ⟨_, rfl⟩
  obtain ⟨q3, hq3⟩ : ∃ x, x = w3.heap.size + 2 := ⟨_, rfl⟩
  try rw [show w3.heap.size + 1 + 1 = w3.heap.size + 2 from rfl]
  rw [← hq2, ← hq3, ← hq1] at HW ⊢
  have NQ : Hid (r1 < q1 ∧ r2 < q1) := by
    have h1 := R1.out.lt
    have h2 := R2.out.lt
    have h3 := F3.out.size
    show _ ∧ _; omega
  have NQ2 : Hid (q1 < q2) := by show _ < _; omega
  generalize ((((((w3.alloc (.cells (vs .u8 Z) 32)).alloc (.cells (vs .u8 Z) 32)).alloc (.cells (vs .u8 Z) 32)).setRow q1 (vs .u8 E1)).setRow (q2) (vs .u8 E2)).setRow (q3) (vs .u8 E3)) = W3 at *
  have A1 := Lib.hid HW.1
  have B1 := Lib.hid HW.2.1
  have FA := Lib.hid HW.2.2.2
  have H3 := Lib.hid ((F0.out.trans F3.out).trans FA.out)
  have Q1 := Lib.hid (R1.out.fr (F3.out.trans FA.out) (fun x => x))
  have Q2 := Lib.hid (R2.out.fr (F3.out.trans FA.out) (fun x => x))
  clear HW hq1 hq2 hq3 R1 R2 C0 F0 F3 C3 hz FA
  try simp only [Act.put, List.setIfInBounds_toArray, List.set_cons_succ, List.set_cons_zero]
  have NN := NR.out
  refine wp_region_inv2 (fun b a w' => Fr (fun j => j = r1 ∨ j = r2) W3 w' ∧ Ar w' (r1) 32 .u8 (if b 2 = true then E1 else Z) ∧ Ar w' (r2) 32 .u8 (if b 3 = true then E2 else Z) ∧ a = ⟨#[Value.agg (vs IntKind.u8 ch), Value.slice A2 m2 c2, Value.pointer (some { block := bx, off := 0 }), undef, Value.pointer (some { block := r1, off := 0 }), Value.pointer (some { block := r2, off := 0 }), Value.pointer (some { block := q1, off := 0 }), Value.pointer (some { block := q2, off := 0 }), Value.pointer (some { block := q3, off := 0 }), Value.tuple #[Value.agg (vs IntKind.u8 E1), Value.agg (vs IntKind.u8 E2), Value.agg (vs IntKind.u8 E3)], Value.agg (vs IntKind.u8 ch), Value.slice A2 m2 c2, Value.tuple #[Value.agg (vs IntKind.u8 E1), Value.agg (vs IntKind.u8 E2), Value.agg (vs IntKind.u8 E3)], Value.agg (vs IntKind.u8 E1), Value.agg (vs IntKind.u8 E2), Value.agg (vs IntKind.u8 E3), if b 0 = true then .agg (vs .u8 E1) else undef, if b 1 = true then .agg (vs .u8 E2) else undef], []⟩) (by kernel_rfl) (by kernel_rfl) ?start2 ?step2 ?done2
  case start2 => exact ⟨⟨rfl, rfl, rfl, Nat.le_refl _, fun _ _ _ => rfl⟩, by simp only [Bool.false_eq_true, if_false]; exact Q1.out, by simp only [Bool.false_eq_true, if_false]; exact Q2.out, by simp⟩
  case step2 =>
    intro i5 o5 b a w1 ho hI hb hr hcl
    obtain ⟨hF, row2, row3, rfl⟩ := hI
    match i5, ho with
    | 0, ho =>
      injection ho with ho
      subst ho
      refine wp_quiet_here (.agg (vs .u8 E1)) (quiet_load 32 (.tmp 6) rfl q1 rfl 32 _ (0, 0) _ (fun _ h => ((A1.out.fr hF (show ¬ (q1 = r1 ∨ q1 = r2) by have := NQ.out; have := NQ2.out; omega)).fr h (fun x => x))) Try.underlying32 rfl s1.out rfl) (fun w2 hw2 => ?_)
      refine ⟨hF.trans hw2.any, ?_, ?_, ?_⟩
      · have hh := row2.fr hw2 (fun x => x)
        simpa [upd] using hh
      · have hh := row3.fr hw2 (fun x => x)
        simpa [upd] using hh
      · simp [upd, Act.put]
    | 1, ho =>
      injection ho with ho
      subst ho
      refine wp_quiet_here (.agg (vs .u8 E2)) (quiet_load 32 (.tmp 7) rfl q2 rfl 32 _ (0, 0) _ (fun _ h => ((B1.out.fr hF (show ¬ (q2 = r1 ∨ q2 = r2) by have := NQ.out; have := NQ2.out; omega)).fr h (fun x => x))) Try.underlying32 rfl s2.out rfl) (fun w2 hw2 => ?_)
      refine ⟨hF.trans hw2.any, ?_, ?_, ?_⟩
      · have hh := row2.fr hw2 (fun x => x)
        simpa [upd] using hh
      · have hh := row3.fr hw2 (fun x => x)
        simpa [upd] using hh
      · simp [upd, Act.put]
    | 2, ho =>
      injection ho with ho
      subst ho
      simp [Region.binds] at hr
      have d0 : b 0 = true := by simp only [hr]
      simp only [hr, if_true]
      have k2 : Ar w1 (r1) 32 .u8 Z := by
        have hh := row2
        simpa only [hb, Bool.false_eq_true, if_false] using hh
      refine wp_store_row 32 (.tmp 4) (.tmp 16) rfl (r1) (vs .u8 E1) rfl rfl 32 _ k2 s1.out e1.out (vs_all _ _) ?_
      have hfS : Fr (fun j => j = r1) w1 (w1.setRow (r1) (vs .u8 E1)) := (Fr.refl _ _).setRow _ (.inl rfl)
      refine ⟨hF.setRow _ (.inl (by simp)), ?_, ?_, ?_⟩
      · have hh := k2.row E1
        simpa [upd] using hh
      · have hh := row3.fr hfS (by omega)
        simpa [upd] using hh
      · simp [upd, Act.put, hr]
    | 3, ho =>
      injection ho with ho
      subst ho
      simp [Region.binds] at hr
      have d0 : b 0 = true := by simp only [hr]
      have d1 : b 1 = true := by simp only [hr]
      have d2 : b 2 = true := by simp only [hr]
      simp only [hr, if_true]
      have k2 : Ar w1 (r2) 32 .u8 Z := by
        have hh := row3
        simpa only [hb, Bool.false_eq_true, if_false] using hh
      refine wp_store_row 32 (.tmp 5) (.tmp 17) rfl (r2) (vs .u8 E2) rfl rfl 32 _ k2 s2.out e2.out (vs_all _ _) ?_
      have hfS : Fr (fun j => j = r2) w1 (w1.setRow (r2) (vs .u8 E2)) := (Fr.refl _ _).setRow _ (.inl rfl)
      refine ⟨hF.setRow _ (.inl (by simp)), ?_, ?_, ?_⟩
      · have hh := row2.fr hfS (by omega)
        simpa [upd] using hh
      · have hh := k2.row E2
        simpa [upd] using hh
      · simp [upd, Act.put, hr]
    | j + 4, ho => exact absurd ho (by simp)
  intro b a w9 hall hI
  obtain ⟨hF, row2, row3, rfl⟩ := hI
  have t0 : b 0 = true := hall 0 (by simp)
  have t1 : b 1 = true := hall 1 (by simp)
  have t2 : b 2 = true := hall 2 (by simp)
  have t3 : b 3 = true := hall 3 (by simp)
  simp only [t0, t1, t2, t3, if_true]
  simp only [t2, if_true] at row2
  have Q2 := Lib.hid row2
  simp only [t3, if_true] at row3
  have Q3 := Lib.hid row3
  have G9 := Lib.hid hF
  clear hall hF row2 row3 t0 t1 t2 t3
  have F9 : Hid (Fr (fun _ => False) w w9) := H3.out.trans' G9.out (fun j hj e => by have := NR.out; omega)
  go_wp2
  refine bodyPost_ret (results_two_rows Try.results21 _ _ r1 r2 32 32 (vs .u8 E1) (vs .u8 E2) (0, 0) (0, 0) _ _ rfl Q2.out Try.underlying32 rfl s1.out rfl Q3.out Try.underlying32 rfl s2.out) rfl ⟨rfl, F9.out⟩
end Go.Proofs.Ytebknlhooijkcaa
