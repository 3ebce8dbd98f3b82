/- KdfChains answers true for all chains and bytes: the given statement KdfChainsSaid. No condition. -/
import Derived.Test.YtebknlhooijkcaaYo8
namespace Go.Proofs.Ytebknlhooijkcaa
set_option linter.unusedSimpArgs false
set_option linter.unusedVariables false
open Go.ChangeShapes Go.WideShapes Go.ChangeAt Go.RowKit

set_option maxRecDepth 100000 in
set_option maxHeartbeats 16000000 in
theorem law_chains_any (k0 : List Int) (g1 : Nat) (A1 : Option Addr) (m1 s1 : Nat) (l1 : List Int) (w : World) (lk0 : k0.length = 32) (bk0 : Bys k0) (hs1 : Sl w g1 (.slice A1 m1 s1) l1) (hn1 : m1 ≤ 140737488351232) (hg1 : l1 ≠ [] → g1 < w.heap.size) :
    Calls Try.prog 6 #[.agg (vs .u8 k0), .slice A1 m1 s1] w fun e w' => e = .returned (.bool true) ∧ Fr (fun _ => False) w w' := by
  obtain ⟨E1, hE1⟩ : ∃ E, E = ex (ext k0 l1) [] 1 := ⟨_, rfl⟩
  have l1' : Hid (E1.length = 32) := by show _ = _; rw [hE1]; exact ex_length _ _ _
  have z1 : Hid ((Try.prog.info? 32).map (·.size) = some (vs .u8 E1).size) := by show _ = _; rw [szKY, vs_size, l1'.out]
  have HE1 : ∀ W, (Op.equalIn 10000 32 (.agg (vs .u8 E1)) (.agg (vs .u8 E1))).run Try.prog W = .ok true W := fun W => (eqKY E1 E1 l1'.out l1'.out W).trans (by rw [decide_eq_true rfl])
  obtain ⟨E2, hE2⟩ : ∃ E, E = ex (ext k0 l1) [] 2 := ⟨_, rfl⟩
  have l2' : Hid (E2.length = 32) := by show _ = _; rw [hE2]; exact ex_length _ _ _
  have z2 : Hid ((Try.prog.info? 32).map (·.size) = some (vs .u8 E2).size) := by show _ = _; rw [szKY, vs_size, l2'.out]
  have HE2 : ∀ W, (Op.equalIn 10000 32 (.agg (vs .u8 E2)) (.agg (vs .u8 E2))).run Try.prog W = .ok true W := fun W => (eqKY E2 E2 l2'.out l2'.out W).trans (by rw [decide_eq_true rfl])
  obtain ⟨E3, hE3⟩ : ∃ E, E = ex (ext k0 l1) [] 3 := ⟨_, rfl⟩
  have l3' : Hid (E3.length = 32) := by show _ = _; rw [hE3]; exact ex_length _ _ _
  have z3 : Hid ((Try.prog.info? 32).map (·.size) = some (vs .u8 E3).size) := by show _ = _; rw [szKY, vs_size, l3'.out]
  have HE3 : ∀ W, (Op.equalIn 10000 32 (.agg (vs .u8 E3)) (.agg (vs .u8 E3))).run Try.prog W = .ok true W := fun W => (eqKY E3 E3 l3'.out l3'.out W).trans (by rw [decide_eq_true rfl])
  have C1 : ∀ W, Fr (fun _ => False) w W → Calls Try.prog 20 #[.agg (vs .u8 k0), .slice A1 m1 s1] W fun e w' => e = .returned (.tuple #[.agg (vs .u8 E1), .agg (vs .u8 E2)]) ∧ Fr (fun _ => False) W w' := fun W hf => by
    rw [hE1, hE2]
    exact ktwo_is k0 g1 A1 m1 s1 l1 W lk0 bk0 (hs1.fr hf (fun _ x => x)) (by omega)
  have C2 : ∀ W, Fr (fun _ => False) w W → Calls Try.prog 21 #[.agg (vs .u8 k0), .slice A1 m1 s1] W fun e w' => e = .returned (.tuple #[.agg (vs .u8 E1), .agg (vs .u8 E2)]) ∧ Fr (fun _ => False) W w' := fun W hf => by
    rw [hE1, hE2]
    exact rtwo_is k0 g1 A1 m1 s1 l1 W lk0 bk0 (hs1.fr hf (fun _ x => x)) (by omega)
  have C3 : ∀ W, Fr (fun _ => False) w W → Calls Try.prog 22 #[.agg (vs .u8 k0), .slice A1 m1 s1] W fun e w' => e = .returned (.tuple #[.agg (vs .u8 E1), .agg (vs .u8 E2), .agg (vs .u8 E3)]) ∧ Fr (fun _ => False) W w' := fun W hf => by
    rw [hE1, hE2, hE3]
    exact kthree_is k0 g1 A1 m1 s1 l1 W lk0 bk0 (hs1.fr hf (fun _ x => x)) (by omega)
  have C4 : ∀ W, Fr (fun _ => False) w W → Calls Try.prog 23 #[.agg (vs .u8 k0), .slice A1 m1 s1] W fun e w' => e = .returned (.tuple #[.agg (vs .u8 E1), .agg (vs .u8 E2), .agg (vs .u8 E3)]) ∧ Fr (fun _ => False) W w' := fun W hf => by
    rw [hE1, hE2, hE3]
    exact rthree_is k0 g1 A1 m1 s1 l1 W lk0 bk0 (hs1.fr hf (fun _ x => x)) (by omega)
  have sk : Hid ((Try.prog.info? 32).map (·.size) = some (vs .u8 k0).size) := by show _ = _; rw [szKY, vs_size, lk0]
  obtain ⟨Z, hZ⟩ : ∃ Z, Z = List.replicate 32 (0 : Int) := ⟨_, rfl⟩
  have hz : ∀ W : World, (zeroValue 32).run Try.prog W = .ok (.agg (vs .u8 Z)) W := fun W => by rw [hZ]; exact zeroKY W
  have e1 : Hid ((vs .u8 Z).size = (vs .u8 E1).size) := by show _ = _; rw [vs_size, vs_size, l1'.out, hZ]; rfl
  have e2 : Hid ((vs .u8 Z).size = (vs .u8 E2).size) := by show _ = _; rw [vs_size, vs_size, l2'.out, hZ]; rfl
  have e3 : Hid ((vs .u8 Z).size = (vs .u8 E3).size) := by show _ = _; rw [vs_size, vs_size, l3'.out, hZ]; rfl
  clear hE1 hE2 hE3 hZ hs1 hn1 hg1 lk0 bk0
  go_enter Try.func6, Try.ntmps6
  go_upto_region 1 with (fail)
  obtain ⟨bx, hbx⟩ : ∃ x, x = w.heap.size := ⟨_, rfl⟩
  have K0 : Hid (Ar (w.alloc (.cells (vs .u8 k0) 32)) bx 32 .u8 k0) := by rw [hbx]; exact Ar.new w 32 .u8 k0
  have F0 : Hid (Fr (fun _ => False) w (w.alloc (.cells (vs .u8 k0) 32))) := (Fr.refl _ _).alloc _
  rw [← hbx]
  generalize w.alloc (.cells (vs .u8 k0) 32) = W0 at *
  clear hbx
  try simp only [Act.put, List.setIfInBounds_toArray, List.set_cons_succ, List.set_cons_zero]
  go_upto_region 2 with (first
    | refine wpList_load_row rfl 32 (.tmp 2) rfl bx rfl 32 (vs .u8 k0) (0, 0) _ K0.out Try.underlying32 rfl sk.out ?_
    | (go_at_call 20; refine (C1 _ F0.out).mono ?_; rintro e w1 ⟨rfl, hf⟩; have G1 := Lib.hid hf; clear hf)
    | refine wpList_store_row rfl 32 (.tmp 5) (.tmp 19) rfl w1.heap.size (vs .u8 E1) rfl rfl 32 (vs .u8 Z) (rows2a w1 Z) z1.out e1.out (vs_all _ _) ?_
    | refine wpList_store_row rfl 32 (.tmp 6) (.tmp 20) rfl (w1.heap.size + 1) (vs .u8 E2) rfl rfl 32 (vs .u8 Z) (rows2b w1 Z E1) z2.out e2.out (vs_all _ _) ?_)
  have HW := rows2 w1 Z E1 E2
  obtain ⟨q1a, hq1a⟩ : ∃ x, x = w1.heap.size := ⟨_, rfl⟩
  obtain ⟨q1b, hq1b⟩ : ∃ x, x = w1.heap.size + 1 := ⟨_, rfl⟩
  rw [← hq1b, ← hq1a] at HW ⊢
  generalize ((((w1.alloc (.cells (vs .u8 Z) 32)).alloc (.cells (vs .u8 Z) 32)).setRow q1a (vs .u8 E1)).setRow q1b (vs .u8 E2)) = V1 at *
  have FA := Lib.hid HW.2.2
  have GG := Lib.hid (G1.out.trans FA.out)
  have Aq1a := Lib.hid HW.1
  have Aq1b := Lib.hid HW.2.1
  have K1 := Lib.hid (K0.out.fr GG.out (fun x => x))
  have F1 := Lib.hid (F0.out.trans GG.out)
  clear HW hq1a hq1b FA GG G1 K0 F0 C1
  try simp only [Act.put, List.setIfInBounds_toArray, List.set_cons_succ, List.set_cons_zero]
  go_upto_region 3 with (first
    | refine wpList_load_row rfl 32 (.tmp 2) rfl bx rfl 32 (vs .u8 k0) (0, 0) _ K1.out Try.underlying32 rfl sk.out ?_
    | (go_at_call 21; refine (C2 _ F1.out).mono ?_; rintro e w2 ⟨rfl, hf⟩; have G2 := Lib.hid hf; clear hf)
    | refine wpList_store_row rfl 32 (.tmp 7) (.tmp 25) rfl w2.heap.size (vs .u8 E1) rfl rfl 32 (vs .u8 Z) (rows2a w2 Z) z1.out e1.out (vs_all _ _) ?_
    | refine wpList_store_row rfl 32 (.tmp 8) (.tmp 26) rfl (w2.heap.size + 1) (vs .u8 E2) rfl rfl 32 (vs .u8 Z) (rows2b w2 Z E1) z2.out e2.out (vs_all _ _) ?_)
  have HW := rows2 w2 Z E1 E2
  obtain ⟨q2a, hq2a⟩ : ∃ x, x = w2.heap.size := ⟨_, rfl⟩
  obtain ⟨q2b, hq2b⟩ : ∃ x, x = w2.heap.size + 1 := ⟨_, rfl⟩
  rw [← hq2b, ← hq2a] at HW ⊢
  generalize ((((w2.alloc (.cells (vs .u8 Z) 32)).alloc (.cells (vs .u8 Z) 32)).setRow q2a (vs .u8 E1)).setRow q2b (vs .u8 E2)) = V2 at *
  have FA := Lib.hid HW.2.2
  have GG := Lib.hid (G2.out.trans FA.out)
  have Aq2a := Lib.hid HW.1
  have Aq2b := Lib.hid HW.2.1
  replace Aq1a := Lib.hid (Aq1a.out.fr GG.out (fun x => x))
  replace Aq1b := Lib.hid (Aq1b.out.fr GG.out (fun x => x))
  have K2 := Lib.hid (K1.out.fr GG.out (fun x => x))
  have F2 := Lib.hid (F1.out.trans GG.out)
  clear HW hq2a hq2b FA GG G2 K1 F1 C2
  try simp only [Act.put, List.setIfInBounds_toArray, List.set_cons_succ, List.set_cons_zero]
  go_upto_region 4 with (first
    | refine wpList_load_row rfl 32 (.tmp 2) rfl bx rfl 32 (vs .u8 k0) (0, 0) _ K2.out Try.underlying32 rfl sk.out ?_
    | (go_at_call 22; refine (C3 _ F2.out).mono ?_; rintro e w3 ⟨rfl, hf⟩; have G3 := Lib.hid hf; clear hf)
    | refine wpList_store_row rfl 32 (.tmp 9) (.tmp 31) rfl w3.heap.size (vs .u8 E1) rfl rfl 32 (vs .u8 Z) (rows3a w3 Z) z1.out e1.out (vs_all _ _) ?_
    | refine wpList_store_row rfl 32 (.tmp 10) (.tmp 32) rfl (w3.heap.size + 1) (vs .u8 E2) rfl rfl 32 (vs .u8 Z) (rows3b w3 Z E1) z2.out e2.out (vs_all _ _) ?_
    | refine wpList_store_row rfl 32 (.tmp 11) (.tmp 33) rfl (w3.heap.size + 2) (vs .u8 E3) rfl rfl 32 (vs .u8 Z) (rows3c w3 Z E1 E2) z3.out e3.out (vs_all _ _) ?_)
  have HW := rows3 w3 Z E1 E2 E3
  obtain ⟨q3a, hq3a⟩ : ∃ x, x = w3.heap.size := ⟨_, rfl⟩
  obtain ⟨q3b, hq3b⟩ : ∃ x, x = w3.heap.size + 1 := ⟨_, rfl⟩
  obtain ⟨q3c, hq3c⟩ : ∃ x, x = w3.heap.size + 2 := ⟨_, rfl⟩
  try rw [show w3.heap.size + 1 + 1 = w3.heap.size + 2 from rfl]
  rw [← hq3b, ← hq3c, ← hq3a] at HW ⊢
  generalize ((((((w3.alloc (.cells (vs .u8 Z) 32)).alloc (.cells (vs .u8 Z) 32)).alloc (.cells (vs .u8 Z) 32)).setRow q3a (vs .u8 E1)).setRow q3b (vs .u8 E2)).setRow q3c (vs .u8 E3)) = V3 at *
  have FA := Lib.hid HW.2.2.2
  have GG := Lib.hid (G3.out.trans FA.out)
  have Aq3a := Lib.hid HW.1
  have Aq3b := Lib.hid HW.2.1
  have Aq3c := Lib.hid HW.2.2.1
  replace Aq1a := Lib.hid (Aq1a.out.fr GG.out (fun x => x))
  replace Aq1b := Lib.hid (Aq1b.out.fr GG.out (fun x => x))
  replace Aq2a := Lib.hid (Aq2a.out.fr GG.out (fun x => x))
  replace Aq2b := Lib.hid (Aq2b.out.fr GG.out (fun x => x))
  have K3 := Lib.hid (K2.out.fr GG.out (fun x => x))
  have F3 := Lib.hid (F2.out.trans GG.out)
  clear HW hq3a hq3b hq3c FA GG G3 K2 F2 C3
  try simp only [Act.put, List.setIfInBounds_toArray, List.set_cons_succ, List.set_cons_zero]
  go_upto_region 5 with (first
    | refine wpList_load_row rfl 32 (.tmp 2) rfl bx rfl 32 (vs .u8 k0) (0, 0) _ K3.out Try.underlying32 rfl sk.out ?_
    | (go_at_call 23; refine (C4 _ F3.out).mono ?_; rintro e w4 ⟨rfl, hf⟩; have G4 := Lib.hid hf; clear hf)
    | refine wpList_store_row rfl 32 (.tmp 12) (.tmp 38) rfl w4.heap.size (vs .u8 E1) rfl rfl 32 (vs .u8 Z) (rows3a w4 Z) z1.out e1.out (vs_all _ _) ?_
    | refine wpList_store_row rfl 32 (.tmp 13) (.tmp 39) rfl (w4.heap.size + 1) (vs .u8 E2) rfl rfl 32 (vs .u8 Z) (rows3b w4 Z E1) z2.out e2.out (vs_all _ _) ?_
    | refine wpList_store_row rfl 32 (.tmp 14) (.tmp 40) rfl (w4.heap.size + 2) (vs .u8 E3) rfl rfl 32 (vs .u8 Z) (rows3c w4 Z E1 E2) z3.out e3.out (vs_all _ _) ?_)
  have HW := rows3 w4 Z E1 E2 E3
  obtain ⟨q4a, hq4a⟩ : ∃ x, x = w4.heap.size := ⟨_, rfl⟩
  obtain ⟨q4b, hq4b⟩ : ∃ x, x = w4.heap.size + 1 := ⟨_, rfl⟩
  obtain ⟨q4c, hq4c⟩ : ∃ x, x = w4.heap.size + 2 := ⟨_, rfl⟩
  try rw [show w4.heap.size + 1 + 1 = w4.heap.size + 2 from rfl]
  rw [← hq4b, ← hq4c, ← hq4a] at HW ⊢
  generalize ((((((w4.alloc (.cells (vs .u8 Z) 32)).alloc (.cells (vs .u8 Z) 32)).alloc (.cells (vs .u8 Z) 32)).setRow q4a (vs .u8 E1)).setRow q4b (vs .u8 E2)).setRow q4c (vs .u8 E3)) = V4 at *
  have FA := Lib.hid HW.2.2.2
  have GG := Lib.hid (G4.out.trans FA.out)
  have Aq4a := Lib.hid HW.1
  have Aq4b := Lib.hid HW.2.1
  have Aq4c := Lib.hid HW.2.2.1
  replace Aq1a := Lib.hid (Aq1a.out.fr GG.out (fun x => x))
  replace Aq1b := Lib.hid (Aq1b.out.fr GG.out (fun x => x))
  replace Aq2a := Lib.hid (Aq2a.out.fr GG.out (fun x => x))
  replace Aq2b := Lib.hid (Aq2b.out.fr GG.out (fun x => x))
  replace Aq3a := Lib.hid (Aq3a.out.fr GG.out (fun x => x))
  replace Aq3b := Lib.hid (Aq3b.out.fr GG.out (fun x => x))
  replace Aq3c := Lib.hid (Aq3c.out.fr GG.out (fun x => x))
  have K4 := Lib.hid (K3.out.fr GG.out (fun x => x))
  have F4 := Lib.hid (F3.out.trans GG.out)
  clear HW hq4a hq4b hq4c FA GG G4 K3 F3 C4
  try simp only [Act.put, List.setIfInBounds_toArray, List.set_cons_succ, List.set_cons_zero]
  go_wp2_with (first
    | refine wpList_load_row rfl 32 (.tmp 5) rfl q1a rfl 32 (vs .u8 E1) (0, 0) _ Aq1a.out Try.underlying32 rfl z1.out ?_
    | refine wpList_load_row_w rfl 32 (.tmp 5) rfl q1a rfl 32 (vs .u8 E1) (0, 0) _ Aq1a.out Try.underlying32 rfl z1.out ?_
    | refine wpList_load_row rfl 32 (.tmp 7) rfl q2a rfl 32 (vs .u8 E1) (0, 0) _ Aq2a.out Try.underlying32 rfl z1.out ?_
    | refine wpList_load_row_w rfl 32 (.tmp 7) rfl q2a rfl 32 (vs .u8 E1) (0, 0) _ Aq2a.out Try.underlying32 rfl z1.out ?_
    | refine wpList_load_row rfl 32 (.tmp 6) rfl q1b rfl 32 (vs .u8 E2) (0, 0) _ Aq1b.out Try.underlying32 rfl z2.out ?_
    | refine wpList_load_row_w rfl 32 (.tmp 6) rfl q1b rfl 32 (vs .u8 E2) (0, 0) _ Aq1b.out Try.underlying32 rfl z2.out ?_
    | refine wpList_load_row rfl 32 (.tmp 8) rfl q2b rfl 32 (vs .u8 E2) (0, 0) _ Aq2b.out Try.underlying32 rfl z2.out ?_
    | refine wpList_load_row_w rfl 32 (.tmp 8) rfl q2b rfl 32 (vs .u8 E2) (0, 0) _ Aq2b.out Try.underlying32 rfl z2.out ?_
    | refine wpList_load_row rfl 32 (.tmp 9) rfl q3a rfl 32 (vs .u8 E1) (0, 0) _ Aq3a.out Try.underlying32 rfl z1.out ?_
    | refine wpList_load_row_w rfl 32 (.tmp 9) rfl q3a rfl 32 (vs .u8 E1) (0, 0) _ Aq3a.out Try.underlying32 rfl z1.out ?_
    | refine wpList_load_row rfl 32 (.tmp 12) rfl q4a rfl 32 (vs .u8 E1) (0, 0) _ Aq4a.out Try.underlying32 rfl z1.out ?_
    | refine wpList_load_row_w rfl 32 (.tmp 12) rfl q4a rfl 32 (vs .u8 E1) (0, 0) _ Aq4a.out Try.underlying32 rfl z1.out ?_
    | refine wpList_load_row rfl 32 (.tmp 10) rfl q3b rfl 32 (vs .u8 E2) (0, 0) _ Aq3b.out Try.underlying32 rfl z2.out ?_
    | refine wpList_load_row_w rfl 32 (.tmp 10) rfl q3b rfl 32 (vs .u8 E2) (0, 0) _ Aq3b.out Try.underlying32 rfl z2.out ?_
    | refine wpList_load_row rfl 32 (.tmp 13) rfl q4b rfl 32 (vs .u8 E2) (0, 0) _ Aq4b.out Try.underlying32 rfl z2.out ?_
    | refine wpList_load_row_w rfl 32 (.tmp 13) rfl q4b rfl 32 (vs .u8 E2) (0, 0) _ Aq4b.out Try.underlying32 rfl z2.out ?_
    | refine wpList_load_row rfl 32 (.tmp 11) rfl q3c rfl 32 (vs .u8 E3) (0, 0) _ Aq3c.out Try.underlying32 rfl z3.out ?_
    | refine wpList_load_row_w rfl 32 (.tmp 11) rfl q3c rfl 32 (vs .u8 E3) (0, 0) _ Aq3c.out Try.underlying32 rfl z3.out ?_
    | refine wpList_load_row rfl 32 (.tmp 14) rfl q4c rfl 32 (vs .u8 E3) (0, 0) _ Aq4c.out Try.underlying32 rfl z3.out ?_
    | refine wpList_load_row_w rfl 32 (.tmp 14) rfl q4c rfl 32 (vs .u8 E3) (0, 0) _ Aq4c.out Try.underlying32 rfl z3.out ?_
    | (go_at_call 15; refine (works_is _).mono ?_; rintro e w10 ⟨rfl, hf⟩; have F10 := Lib.hid (F4.out.trans hf); clear hf))
  go_ret
  exact ⟨rfl, F10.out⟩

set_option maxRecDepth 100000 in
theorem law_chains_lifted (os : Os) (started : os.Started) (H : Type) (enc : TypeId × Value → H) :
    ReturnsInHanded {} Try.checked os 6 .any (Rows.kdfChainsSpec.pre6 enc Try.prog Try.f6 Rows.kdfChainsRow.domain false) (Rows.kdfChainsSpec.post enc Try.prog Try.f6 false true false false) := by
  refine returnsInHanded_of_change_sized (C := Try.checked) own started (by kernel_rfl) Try.func6
    (ChangeSpec.witness6 (enc := enc) (C := Try.checked) false ⟨#[], #[.agg (vs .u8 (List.replicate 32 0)), .slice none 0 0], []⟩ 8 (by kernel_rfl) (by kernel_rfl) (by kernel_rfl) (by kernel_rfl)) ?_
  intro W base args ds gs before hval0 hW hcnd hsz0 _
  have hsz : (DataW.weightsEach Try.prog (Try.f6.params.toList ++ Rows.kdfChainsSpec.plain.varTypes Try.prog) (ds ++ gs)).all (· ≤ reachBytes) = true := hsz0
  clear hsz0
  have hval : ∀ (j : Nat) t v, Try.f6.params[j]? = some t → args[j]? = some v → Value.okWide Try.prog W .any base t v := hval0
  have hW' := hW
  obtain ⟨p, q, hA0, hV, rfl, hfz, hnd⟩ := hW
  have hA : DataW.TrodAll enc Try.prog W 0 (fun _ => true) true Try.f6.params.toList args.toList ds p := hA0
  rw [Try.params6] at hA hval hsz
  obtain ⟨v0, vs0, d0, ds0, p0, q0, hargs, rfl, rfl, h0, r0⟩ := trodAll_cons hA
  obtain ⟨v1, vs1, d1, ds1, p1, q1, rfl, rfl, rfl, h1, r1⟩ := trodAll_cons r0
  obtain ⟨rfl, rfl, rfl⟩ := trodAll_nil r1
  obtain rfl : args = #[v0, v1] := by cases args; simp_all
  obtain ⟨rfl, rfl⟩ := trodVars_none hV
  have hlt1 : ∀ x ∈ p1, x.block < W.heap.size := fun x hx => hW'.lt x (by simp [hx])
  obtain ⟨k0, rfl, lk0, bk0⟩ := open_key (hval 0 32 v0 rfl rfl) h0
  obtain ⟨A1, m1, s1, g1, l1, rfl, hs1, hg1⟩ := open_sl (hval 1 22 v1 rfl rfl) h1 hlt1
  have hn1 : m1 ≤ 140737488351232 := by
    rcases open_len h1 with e | ⟨el, sp, rfl, hle⟩
    · omega
    · have := sized_slice hsz (j := 1) (t := 22) (e := 5) rfl rfl Try.underlying22
      rw [Try.bytes5] at this
      simp only [reachBytes] at this
      omega
  clear hA0 hval0
  refine (law_chains_any k0 g1 A1 m1 s1 l1 W lk0 bk0 hs1 hn1 hg1).mono fun e W' ⟨he, hg⟩ => ?_
  subst he
  exact ⟨_, rfl, post_true rfl hW' (by kernel_rfl) rfl rfl hg⟩

theorem kdfChains_holds : Rows.KdfChainsSaid :=
  OpenClaim.holds_of_wide 6 Try.f6 rfl rfl rfl rfl rfl rfl rfl ⟨rfl, rfl, rfl, rfl, rfl⟩ rfl rfl rfl rfl rfl (by kernel_rfl) Try.func6 (by kernel_rfl)
    (of_decide_eq_true (by kernel_rfl)) (by unfold Func.isWrapper; first | (rw [if_pos (by decide +kernel)]; kernel_rfl) | (rw [if_neg (by decide +kernel)]; exact ⟨rfl, rfl⟩))
    (fun os started H enc _ => law_chains_lifted os started H enc)
#print axioms kdfChains_holds
end Go.Proofs.Ytebknlhooijkcaa
