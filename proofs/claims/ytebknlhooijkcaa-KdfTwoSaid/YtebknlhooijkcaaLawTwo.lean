/- KdfTwo answers true for all chains and bytes: the given statement KdfTwoSaid. No condition. -/
import Derived.Test.YtebknlhooijkcaaYo8
namespace Go.Proofs.Ytebknlhooijkcaa
set_option linter.unusedSimpArgs false
set_option linter.unusedVariables false
open Go.ChangeShapes Go.WideShapes Go.ChangeAt Go.RowKit

set_option maxRecDepth 100000 in
set_option maxHeartbeats 16000000 in
theorem law_two_any (k0 : List Int) (g1 : Nat) (A1 : Option Addr) (m1 s1 : Nat) (l1 : List Int) (w : World) (lk0 : k0.length = 32) (bk0 : Bys k0) (hs1 : Sl w g1 (.slice A1 m1 s1) l1) (hn1 : m1 ≤ 140737488351232) (hg1 : l1 ≠ [] → g1 < w.heap.size) :
    Calls Try.prog 9 #[.agg (vs .u8 k0), .slice A1 m1 s1] w fun e w' => e = .returned (.bool true) ∧ Fr (fun _ => False) w w' := by
  obtain ⟨X, hX⟩ : ∃ X, X = ext k0 l1 := ⟨_, rfl⟩
  obtain ⟨E1, hE1⟩ : ∃ E, E = ex X [] 1 := ⟨_, rfl⟩
  have l1' : Hid (E1.length = 32) := by show _ = _; rw [hE1]; exact ex_length _ _ _
  have b1' : Hid (Bys E1) := by show Bys _; rw [hE1]; exact ex_bys _ _ _
  have z1 : Hid ((Try.prog.info? 32).map (·.size) = some (vs .u8 E1).size) := by show _ = _; rw [szKY, vs_size, l1'.out]
  obtain ⟨E2, hE2⟩ : ∃ E, E = ex X [] 2 := ⟨_, rfl⟩
  have l2' : Hid (E2.length = 32) := by show _ = _; rw [hE2]; exact ex_length _ _ _
  have b2' : Hid (Bys E2) := by show Bys _; rw [hE2]; exact ex_bys _ _ _
  have z2 : Hid ((Try.prog.info? 32).map (·.size) = some (vs .u8 E2).size) := by show _ = _; rw [szKY, vs_size, l2'.out]
  obtain ⟨E3, hE3⟩ : ∃ E, E = ex X [] 3 := ⟨_, rfl⟩
  have l3' : Hid (E3.length = 32) := by show _ = _; rw [hE3]; exact ex_length _ _ _
  have b3' : Hid (Bys E3) := by show Bys _; rw [hE3]; exact ex_bys _ _ _
  have z3 : Hid ((Try.prog.info? 32).map (·.size) = some (vs .u8 E3).size) := by show _ = _; rw [szKY, vs_size, l3'.out]
  have HE1 : ∀ W, (Op.equalIn 10000 32 (.agg (vs .u8 E1)) (.agg (vs .u8 E1))).run Try.prog W = .ok true W := fun W => (eqKY E1 E1 l1'.out l1'.out W).trans (by rw [decide_eq_true rfl])
  have HE2 : ∀ W, (Op.equalIn 10000 32 (.agg (vs .u8 E2)) (.agg (vs .u8 E2))).run Try.prog W = .ok true W := fun W => (eqKY E2 E2 l2'.out l2'.out W).trans (by rw [decide_eq_true rfl])
  have C3 : ∀ W, Fr (fun _ => False) w W → Calls Try.prog 20 #[.agg (vs .u8 k0), .slice A1 m1 s1] W fun e w' => e = .returned (.tuple #[.agg (vs .u8 E1), .agg (vs .u8 E2)]) ∧ Fr (fun _ => False) W w' := fun W hf => by
    rw [hE1, hE2, hX]
    exact ktwo_is k0 g1 A1 m1 s1 l1 W lk0 bk0 (hs1.fr hf (fun _ x => x)) (by omega)
  have C4 : ∀ W, Fr (fun _ => False) w W → Calls Try.prog 22 #[.agg (vs .u8 k0), .slice A1 m1 s1] W fun e w' => e = .returned (.tuple #[.agg (vs .u8 E1), .agg (vs .u8 E2), .agg (vs .u8 E3)]) ∧ Fr (fun _ => False) W w' := fun W hf => by
    rw [hE1, hE2, hE3, hX]
    exact kthree_is k0 g1 A1 m1 s1 l1 W lk0 bk0 (hs1.fr hf (fun _ x => x)) (by omega)
  have CX : ∀ W bx, Fr (fun _ => False) w W → Ar W bx 32 .u8 k0 → Calls Try.prog 16 #[.slice (some ⟨bx, 0, none⟩) 32 32, .slice A1 m1 s1] W fun e w' => e = .returned (.agg (vs .u8 X)) ∧ Fr (fun _ => False) W w' := fun W bx hf ha => by
    rw [hX]
    exact kextract_is bx _ 32 32 k0 g1 A1 m1 s1 l1 W (ha.slt bk0 lk0 (by decide)) (by decide) (hs1.fr hf (fun _ x => x)) (by omega)
  obtain ⟨LL, hL⟩ : ∃ L, L = (E1 ++ E2) ++ E3 := ⟨_, rfl⟩
  have lL : Hid (LL.length = 96) := by show _ = _; rw [hL]; simp only [List.length_append, l1'.out, l2'.out, l3'.out]
  have P1 : Hid (LL.take 32 = E1) := by show _ = _; rw [hL, List.append_assoc]; exact List.take_left' l1'.out
  have P2 : Hid ((LL.drop 32).take (64 - 32) = E2) := by show _ = _; rw [hL, List.append_assoc, List.drop_left' l1'.out]; exact List.take_left' l2'.out
  have P3 : Hid (LL.drop 64 = E3) := by show _ = _; rw [hL]; exact List.drop_left' (by rw [List.length_append, l1'.out, l2'.out])
  have CP : ∀ W, Calls Try.prog 18 #[.agg (vs .u8 X), .slice none 0 0, .int .i64 96] W fun e w' => ∃ v, e = .returned (.tuple #[v, .int .i64 0]) ∧ Nw W w' v LL ∧ Fr (fun _ => False) W w' := fun W => by
    have e := kexpand_is X 0 none 0 0 [] 96 W (by rw [hX]; exact ext_length _ _) (by rw [hX]; exact ext_bys _ _) (Sl.nil _ _) (by decide)
    have e2 : expv X [] 96 = (LL, 0) := by
      have h3 := exs3 X []
      rw [← hE1, ← hE2, ← hE3, ← hL] at h3
      rw [expv, if_neg (by decide), if_neg (by decide), ← h3]
      rfl
    rw [e2] at e
    exact e
  have sk : Hid ((Try.prog.info? 32).map (·.size) = some (vs .u8 k0).size) := by show _ = _; rw [szKY, vs_size, lk0]
  obtain ⟨Z, hZ⟩ : ∃ Z, Z = List.replicate 32 (0 : Int) := ⟨_, rfl⟩
  have hz : ∀ W : World, (zeroValue 32).run Try.prog W = .ok (.agg (vs .u8 Z)) W := fun W => by rw [hZ]; exact zeroKY W
  have e1 : Hid ((vs .u8 Z).size = (vs .u8 E1).size) := by show _ = _; rw [vs_size, vs_size, l1'.out, hZ]; rfl
  have e2 : Hid ((vs .u8 Z).size = (vs .u8 E2).size) := by show _ = _; rw [vs_size, vs_size, l2'.out, hZ]; rfl
  have e3 : Hid ((vs .u8 Z).size = (vs .u8 E3).size) := by show _ = _; rw [vs_size, vs_size, l3'.out, hZ]; rfl
  clear hE1 hE2 hE3 hZ hL hX hs1 hn1 hg1 lk0 bk0
  go_enter Try.func9, Try.ntmps9
  go_upto_region 1 with (fail)
  obtain ⟨bx, hbx⟩ : ∃ x, x = w.heap.size := ⟨_, rfl⟩
  have K0 : Hid (Ar (w.alloc (.cells (vs .u8 k0) 32)) bx 32 .u8 k0) := by rw [hbx]; exact Ar.new w 32 .u8 k0
  have F0 : Hid (Fr (fun _ => False) w (w.alloc (.cells (vs .u8 k0) 32))) := (Fr.refl _ _).alloc _
  rw [← hbx]
  generalize w.alloc (.cells (vs .u8 k0) 32) = W0 at *
  clear hbx
  try simp only [Act.put, List.setIfInBounds_toArray, List.set_cons_succ, List.set_cons_zero]
  go_upto_region 3 with (go_at_call 15; refine (works_is _).mono ?_; rintro e w2 ⟨rfl, hf⟩; have K2 := Lib.hid (K0.out.fr hf (fun x => x)); have F2 := Lib.hid (F0.out.trans hf); clear hf)
  clear K0 F0
  go_upto_region 4 with (first
    | refine wpList_load_row rfl 32 (.tmp 2) rfl bx rfl 32 (vs .u8 k0) (0, 0) _ K2.out Try.underlying32 rfl sk.out ?_
    | (go_at_call 20; refine (C3 _ F2.out).mono ?_; rintro e w3 ⟨rfl, hf⟩; have G3 := Lib.hid hf; clear hf)
    | refine wpList_store_row rfl 32 (.tmp 5) (.tmp 18) rfl w3.heap.size (vs .u8 E1) rfl rfl 32 (vs .u8 Z) (rows2a w3 Z) z1.out e1.out (vs_all _ _) ?_
    | refine wpList_store_row rfl 32 (.tmp 6) (.tmp 19) rfl (w3.heap.size + 1) (vs .u8 E2) rfl rfl 32 (vs .u8 Z) (rows2b w3 Z E1) z2.out e2.out (vs_all _ _) ?_)
  have HW := rows2 w3 Z E1 E2
  obtain ⟨q3a, hq3a⟩ : ∃ x, x = w3.heap.size := ⟨_, rfl⟩
  obtain ⟨q3b, hq3b⟩ : ∃ x, x = w3.heap.size + 1 := ⟨_, rfl⟩
  rw [← hq3b, ← hq3a] at HW ⊢
  generalize ((((w3.alloc (.cells (vs .u8 Z) 32)).alloc (.cells (vs .u8 Z) 32)).setRow q3a (vs .u8 E1)).setRow q3b (vs .u8 E2)) = V3 at *
  have FA := Lib.hid HW.2.2
  have GG := Lib.hid (G3.out.trans FA.out)
  have Aq3a := Lib.hid HW.1
  have Aq3b := Lib.hid HW.2.1
  have K3 := Lib.hid (K2.out.fr GG.out (fun x => x))
  have F3 := Lib.hid (F2.out.trans GG.out)
  clear HW hq3a hq3b FA GG G3 K2 F2 C3
  try simp only [Act.put, List.setIfInBounds_toArray, List.set_cons_succ, List.set_cons_zero]
  go_upto_region 5 with (first
    | refine wpList_load_row rfl 32 (.tmp 2) rfl bx rfl 32 (vs .u8 k0) (0, 0) _ K3.out Try.underlying32 rfl sk.out ?_
    | (go_at_call 22; refine (C4 _ F3.out).mono ?_; rintro e w4 ⟨rfl, hf⟩; have G4 := Lib.hid hf; clear hf)
    | refine wpList_store_row rfl 32 (.tmp 7) (.tmp 24) rfl w4.heap.size (vs .u8 E1) rfl rfl 32 (vs .u8 Z) (rows3a w4 Z) z1.out e1.out (vs_all _ _) ?_
    | refine wpList_store_row rfl 32 (.tmp 8) (.tmp 25) rfl (w4.heap.size + 1) (vs .u8 E2) rfl rfl 32 (vs .u8 Z) (rows3b w4 Z E1) z2.out e2.out (vs_all _ _) ?_
    | refine wpList_store_row rfl 32 (.tmp 9) (.tmp 26) rfl (w4.heap.size + 2) (vs .u8 E3) rfl rfl 32 (vs .u8 Z) (rows3c w4 Z E1 E2) z3.out e3.out (vs_all _ _) ?_)
  have HW := rows3 w4 Z E1 E2 E3
  obtain ⟨q4a, hq4a⟩ : ∃ x, x = w4.heap.size := ⟨_, rfl⟩
  obtain ⟨q4b, hq4b⟩ : ∃ x, x = w4.heap.size + 1 := ⟨_, rfl⟩
  obtain ⟨q4c, hq4c⟩ : ∃ x, x = w4.heap.size + 2 := ⟨_, rfl⟩
  try rw [show w4.heap.size + 1 + 1 = w4.heap.size + 2 from rfl]
  rw [← hq4b, ← hq4c, ← hq4a] at HW ⊢
  generalize ((((((w4.alloc (.cells (vs .u8 Z) 32)).alloc (.cells (vs .u8 Z) 32)).alloc (.cells (vs .u8 Z) 32)).setRow q4a (vs .u8 E1)).setRow q4b (vs .u8 E2)).setRow q4c (vs .u8 E3)) = V4 at *
  have FA := Lib.hid HW.2.2.2
  have GG := Lib.hid (G4.out.trans FA.out)
  have Aq4a := Lib.hid HW.1
  have Aq4b := Lib.hid HW.2.1
  have Aq4c := Lib.hid HW.2.2.1
  replace Aq3a := Lib.hid (Aq3a.out.fr GG.out (fun x => x))
  replace Aq3b := Lib.hid (Aq3b.out.fr GG.out (fun x => x))
  have K4 := Lib.hid (K3.out.fr GG.out (fun x => x))
  have F4 := Lib.hid (F3.out.trans GG.out)
  clear HW hq4a hq4b hq4c FA GG G4 K3 F3 C4
  try simp only [Act.put, List.setIfInBounds_toArray, List.set_cons_succ, List.set_cons_zero]
  go_upto_region 6 with (first
    | (go_at_call 16; refine (CX _ bx F4.out K4.out).mono ?_; rintro e w5 ⟨rfl, hf⟩; have F5 := Lib.hid hf; clear hf)
    | (go_at_call 18; refine (CP _).mono ?_; rintro e w6 ⟨v, rfl, hn, hf⟩; obtain ⟨g, c, rfl, hg, hc, hs⟩ := hn.open (by rw [lL.out]; decide); rw [lL.out] at hs hc ⊢; have HC := Lib.hid hc; have S6 := Lib.hid hs; have F6 := Lib.hid (F5.out.trans hf); clear hn hf hg hc hs))
  replace Aq3a := Lib.hid (Aq3a.out.fr F6.out (fun x => x))
  replace Aq3b := Lib.hid (Aq3b.out.fr F6.out (fun x => x))
  replace Aq4a := Lib.hid (Aq4a.out.fr F6.out (fun x => x))
  replace Aq4b := Lib.hid (Aq4b.out.fr F6.out (fun x => x))
  replace Aq4c := Lib.hid (Aq4c.out.fr F6.out (fun x => x))
  have F7 := Lib.hid (F4.out.trans F6.out)
  have HC2 := HC.out
  have ca1 := cutA_at g c 32 (by omega) (by decide)
  have ca2 := cutA_at g c 64 (by omega) (by decide)
  have S61 : Hid (Sl w6 g (.slice (some ⟨g, 0, none⟩) 32 c) E1) := by have h := S6.out.take 32 (by rw [lL.out]; decide); rwa [P1.out] at h
  have S62 : Hid (Sl w6 g (.slice (some ⟨g, 32, none⟩) 32 (c - 32)) E2) := by have h := S6.out.mid 32 64 (by decide) (by decide); rwa [P2.out, ca1] at h
  have S63 : Hid (Sl w6 g (.slice (some ⟨g, 64, none⟩) 32 (c - 64)) E3) := by have h := S6.out.from_ 64 (by decide); rwa [P3.out, ca2] at h
  have S71 : Hid (Sl w6 q4a (.slice (some ⟨q4a, 0, none⟩) 32 32) E1) := Aq4a.out.slt b1'.out l1'.out (by decide)
  have S72 : Hid (Sl w6 q4b (.slice (some ⟨q4b, 0, none⟩) 32 32) E2) := Aq4b.out.slt b2'.out l2'.out (by decide)
  have S73 : Hid (Sl w6 q4c (.slice (some ⟨q4c, 0, none⟩) 32 32) E3) := Aq4c.out.slt b3'.out l3'.out (by decide)
  clear S6 K4 F4 F5 F6 CX CP hz P1 P2 P3
  refine wp_region_quiet (C := Calm w6) (by kernel_rfl) (by kernel_rfl) (Calm.start _ _ (Fr.refl _ _)) ?_
  refine BigFrame.wpQuiet_want rfl fun K hK => quiet_load 32 (.tmp 5) rfl (q3a) rfl 32 _ (0, 0) _ (fun _ h => Calm.at Aq3a.out h) Try.underlying32 rfl z1.out (hK _ ?_)
  refine BigFrame.wpQuiet_want rfl fun K hK => quiet_load 32 (.tmp 7) rfl (q4a) rfl 32 _ (0, 0) _ (fun _ h => Calm.at Aq4a.out h) Try.underlying32 rfl z1.out (hK _ ?_)
  refine BigFrame.wpQuiet_want rfl fun K hK => ?_
  try simp only [Act.put, List.setIfInBounds_toArray, List.set_cons_succ, List.set_cons_zero]
  go_big_quiet_op
  first
    | refine ⟨_, fun _ _ => rfl, hK _ ?_⟩
    | refine hK _ ?_
  refine BigFrame.wpQuiet_want rfl fun K hK => ?_
  try simp only [Act.put, List.setIfInBounds_toArray, List.set_cons_succ, List.set_cons_zero]
  go_big_quiet_op
  refine hK _ ?_
  refine BigFrame.wpQuiet_want rfl fun K hK => quiet_load 32 (.tmp 6) rfl (q3b) rfl 32 _ (0, 0) _ (fun _ h => Calm.at Aq3b.out h) Try.underlying32 rfl z2.out (hK _ ?_)
  refine BigFrame.wpQuiet_want rfl fun K hK => quiet_load 32 (.tmp 8) rfl (q4b) rfl 32 _ (0, 0) _ (fun _ h => Calm.at Aq4b.out h) Try.underlying32 rfl z2.out (hK _ ?_)
  refine BigFrame.wpQuiet_want rfl fun K hK => ?_
  try simp only [Act.put, List.setIfInBounds_toArray, List.set_cons_succ, List.set_cons_zero]
  go_big_quiet_op
  first
    | refine ⟨_, fun _ _ => rfl, hK _ ?_⟩
    | refine hK _ ?_
  refine BigFrame.wpQuiet_want rfl fun K hK => ?_
  try simp only [Act.put, List.setIfInBounds_toArray, List.set_cons_succ, List.set_cons_zero]
  go_big_quiet_op
  first
    | refine ⟨_, fun _ _ => rfl, hK _ ?_⟩
    | refine hK _ ?_
  refine BigFrame.wpQuiet_want rfl fun K hK => ?_
  try simp only [Act.put, List.setIfInBounds_toArray, List.set_cons_succ, List.set_cons_zero]
  go_big_quiet_op
  refine hK _ ?_
  refine BigFrame.wpQuiet_want rfl fun K hK => ?_
  try simp only [Act.put, List.setIfInBounds_toArray, List.set_cons_succ, List.set_cons_zero]
  go_big_quiet_op
  refine hK _ ?_
  refine BigFrame.wpQuiet_want rfl fun K hK => ?_
  try simp only [Act.put, List.setIfInBounds_toArray, List.set_cons_succ, List.set_cons_zero]
  go_big_quiet_op
  first
    | refine ⟨_, fun _ _ => rfl, hK _ ?_⟩
    | refine hK _ ?_
  refine BigFrame.wpQuiet_want rfl fun K hK => ?_
  try simp only [Act.put, List.setIfInBounds_toArray, List.set_cons_succ, List.set_cons_zero]
  go_big_quiet_op
  first
    | refine ⟨_, fun _ _ => rfl, hK _ ?_⟩
    | refine hK _ ?_
  refine BigFrame.wpQuiet_want rfl fun K hK => ?_
  try simp only [Act.put, List.setIfInBounds_toArray, List.set_cons_succ, List.set_cons_zero]
  go_big_quiet_op
  refine hK _ ?_
  refine BigFrame.wpQuiet_want rfl fun K hK => ?_
  try simp only [Act.put, List.setIfInBounds_toArray, List.set_cons_succ, List.set_cons_zero]
  go_big_quiet_op
  refine hK _ ?_
  refine BigFrame.wpQuiet_want rfl fun K hK => ?_
  try simp only [Act.put, List.setIfInBounds_toArray, List.set_cons_succ, List.set_cons_zero]
  go_big_quiet_op
  first
    | refine ⟨_, fun _ _ => rfl, hK _ ?_⟩
    | refine hK _ ?_
  refine BigFrame.wpQuiet_want rfl fun K hK => ?_
  try simp only [Act.put, List.setIfInBounds_toArray, List.set_cons_succ, List.set_cons_zero]
  go_big_quiet_op
  first
    | refine ⟨_, fun _ _ => rfl, hK _ ?_⟩
    | refine hK _ ?_
  refine BigFrame.wpQuiet_want rfl fun K hK => ?_
  try simp only [Act.put, List.setIfInBounds_toArray, List.set_cons_succ, List.set_cons_zero]
  go_big_quiet_op
  first
    | refine ⟨_, fun _ _ => rfl, hK _ ?_⟩
    | refine hK _ ?_
  refine BigFrame.wpQuiet_want rfl fun K hK => ?_
  try simp only [Act.put, List.setIfInBounds_toArray, List.set_cons_succ, List.set_cons_zero]
  go_big_quiet_op
  refine hK _ ?_
  refine BigFrame.wpQuiet_want rfl fun K hK => ?_
  try simp only [Act.put, List.setIfInBounds_toArray, List.set_cons_succ, List.set_cons_zero]
  go_big_quiet_op
  refine hK _ ?_
  refine BigFrame.wpQuiet_want rfl fun K hK => quiet_run (.slice (some ⟨g, 0, none⟩) 32 c) (fun W _ => run_slice_hi (.tmp 52) _ rfl (some ⟨g, 0, none⟩) 96 c 32 32 rfl (by omega) rfl rfl W) (hK _ ?_)
  refine BigFrame.wpQuiet_want rfl fun K hK => ?_
  try simp only [Act.put, List.setIfInBounds_toArray, List.set_cons_succ, List.set_cons_zero]
  go_big_quiet_op
  first
    | refine ⟨_, fun _ _ => rfl, hK _ ?_⟩
    | refine hK _ ?_
  refine BigFrame.wpQuiet_want rfl fun K hK => ?_
  try simp only [Act.put, List.setIfInBounds_toArray, List.set_cons_succ, List.set_cons_zero]
  go_big_quiet_op
  refine ⟨_, fun W h => ((eq_yes W (S61.out.fr h (fun _ x => x)) (S71.out.fr h (fun _ x => x)) rfl).mono fun e w' ⟨he, hf⟩ => ⟨he, h.trans hf⟩), hK _ ?_⟩
  refine BigFrame.wpQuiet_want rfl fun K hK => ?_
  try simp only [Act.put, List.setIfInBounds_toArray, List.set_cons_succ, List.set_cons_zero]
  go_big_quiet_op
  first
    | refine ⟨_, fun _ _ => rfl, hK _ ?_⟩
    | refine hK _ ?_
  refine BigFrame.wpQuiet_want rfl fun K hK => ?_
  try simp only [Act.put, List.setIfInBounds_toArray, List.set_cons_succ, List.set_cons_zero]
  go_big_quiet_op
  refine hK _ ?_
  refine BigFrame.wpQuiet_want rfl fun K hK => ?_
  try simp only [Act.put, List.setIfInBounds_toArray, List.set_cons_succ, List.set_cons_zero]
  go_big_quiet_op
  refine hK _ ?_
  refine BigFrame.wpQuiet_want rfl fun K hK => quiet_run (.slice (some ⟨g, 32, none⟩) 32 (c - 32)) (fun W _ => run_slice_midV (.tmp 58) _ _ (some ⟨g, 0, none⟩) 96 c 32 64 32 64 (.slice (some ⟨g, 32, none⟩) 32 (c - 32)) rfl rfl (by rw [ca1]) (by decide) (by omega) rfl rfl rfl rfl W) (hK _ ?_)
  refine BigFrame.wpQuiet_want rfl fun K hK => ?_
  try simp only [Act.put, List.setIfInBounds_toArray, List.set_cons_succ, List.set_cons_zero]
  go_big_quiet_op
  first
    | refine ⟨_, fun _ _ => rfl, hK _ ?_⟩
    | refine hK _ ?_
  refine BigFrame.wpQuiet_want rfl fun K hK => ?_
  try simp only [Act.put, List.setIfInBounds_toArray, List.set_cons_succ, List.set_cons_zero]
  go_big_quiet_op
  refine ⟨_, fun W h => ((eq_yes W (S62.out.fr h (fun _ x => x)) (S72.out.fr h (fun _ x => x)) rfl).mono fun e w' ⟨he, hf⟩ => ⟨he, h.trans hf⟩), hK _ ?_⟩
  refine BigFrame.wpQuiet_want rfl fun K hK => ?_
  try simp only [Act.put, List.setIfInBounds_toArray, List.set_cons_succ, List.set_cons_zero]
  go_big_quiet_op
  first
    | refine ⟨_, fun _ _ => rfl, hK _ ?_⟩
    | refine hK _ ?_
  refine BigFrame.wpQuiet_want rfl fun K hK => ?_
  try simp only [Act.put, List.setIfInBounds_toArray, List.set_cons_succ, List.set_cons_zero]
  go_big_quiet_op
  refine hK _ ?_
  refine BigFrame.wpQuiet_want rfl fun K hK => ?_
  try simp only [Act.put, List.setIfInBounds_toArray, List.set_cons_succ, List.set_cons_zero]
  go_big_quiet_op
  refine hK _ ?_
  refine BigFrame.wpQuiet_want rfl fun K hK => quiet_run (.slice (some ⟨g, 64, none⟩) 32 (c - 64)) (fun W _ => run_slice_fromV (.tmp 64) _ (some ⟨g, 0, none⟩) 96 c 64 64 (.slice (some ⟨g, 64, none⟩) 32 (c - 64)) rfl (by rw [ca2]) (by decide) (by omega) rfl rfl rfl W) (hK _ ?_)
  refine BigFrame.wpQuiet_want rfl fun K hK => ?_
  try simp only [Act.put, List.setIfInBounds_toArray, List.set_cons_succ, List.set_cons_zero]
  go_big_quiet_op
  first
    | refine ⟨_, fun _ _ => rfl, hK _ ?_⟩
    | refine hK _ ?_
  refine BigFrame.wpQuiet_want rfl fun K hK => ?_
  try simp only [Act.put, List.setIfInBounds_toArray, List.set_cons_succ, List.set_cons_zero]
  go_big_quiet_op
  refine ⟨_, fun W h => ((eq_yes W (S63.out.fr h (fun _ x => x)) (S73.out.fr h (fun _ x => x)) rfl).mono fun e w' ⟨he, hf⟩ => ⟨he, h.trans hf⟩), hK _ ?_⟩
  refine BigFrame.wpQuiet_want rfl fun K hK => ?_
  try simp only [Act.put, List.setIfInBounds_toArray, List.set_cons_succ, List.set_cons_zero]
  go_big_quiet_op
  first
    | refine ⟨_, fun _ _ => rfl, hK _ ?_⟩
    | refine hK _ ?_
  refine BigFrame.wpQuiet_want rfl fun K hK => ?_
  try simp only [Act.put, List.setIfInBounds_toArray, List.set_cons_succ, List.set_cons_zero]
  go_big_quiet_op
  refine hK _ ?_
  refine wpQuiet_nil ?_
  intro w9 hw9
  have F9 : Hid (Fr (fun _ => False) w w9) := F7.out.trans hw9
  have G9 := Lib.hid hw9
  clear hw9
  try simp only [Act.put, List.setIfInBounds_toArray, List.set_cons_succ, List.set_cons_zero]
  go_wp2
  go_ret
  exact ⟨rfl, F9.out⟩

set_option maxRecDepth 100000 in
theorem law_two_lifted (os : Os) (started : os.Started) (H : Type) (enc : TypeId × Value → H) :
    ReturnsInHanded {} Try.checked os 9 .any (Rows.kdfTwoSpec.pre6 enc Try.prog Try.f9 Rows.kdfTwoRow.domain false) (Rows.kdfTwoSpec.post enc Try.prog Try.f9 false true false false) := by
  refine returnsInHanded_of_change_sized (C := Try.checked) own started (by kernel_rfl) Try.func9
    (ChangeSpec.witness6 (enc := enc) (C := Try.checked) false ⟨#[], #[.agg (vs .u8 (List.replicate 32 0)), .slice none 0 0], []⟩ 8 (by kernel_rfl) (by kernel_rfl) (by kernel_rfl) (by kernel_rfl)) ?_
  intro W base args ds gs before hval0 hW hcnd hsz0 _
  have hsz : (DataW.weightsEach Try.prog (Try.f9.params.toList ++ Rows.kdfTwoSpec.plain.varTypes Try.prog) (ds ++ gs)).all (· ≤ reachBytes) = true := hsz0
  clear hsz0
  have hval : ∀ (j : Nat) t v, Try.f9.params[j]? = some t → args[j]? = some v → Value.okWide Try.prog W .any base t v := hval0
  have hW' := hW
  obtain ⟨p, q, hA0, hV, rfl, hfz, hnd⟩ := hW
  have hA : DataW.TrodAll enc Try.prog W 0 (fun _ => true) true Try.f9.params.toList args.toList ds p := hA0
  rw [Try.params9] at hA hval hsz
  obtain ⟨v0, vs0, d0, ds0, p0, q0, hargs, rfl, rfl, h0, r0⟩ := trodAll_cons hA
  obtain ⟨v1, vs1, d1, ds1, p1, q1, rfl, rfl, rfl, h1, r1⟩ := trodAll_cons r0
  obtain ⟨rfl, rfl, rfl⟩ := trodAll_nil r1
  obtain rfl : args = #[v0, v1] := by cases args; simp_all
  obtain ⟨rfl, rfl⟩ := trodVars_none hV
  have hlt1 : ∀ x ∈ p1, x.block < W.heap.size := fun x hx => hW'.lt x (by simp [hx])
  obtain ⟨k0, rfl, lk0, bk0⟩ := open_key (hval 0 32 v0 rfl rfl) h0
  obtain ⟨A1, m1, s1, g1, l1, rfl, hs1, hg1⟩ := open_sl (hval 1 22 v1 rfl rfl) h1 hlt1
  have hn1 : m1 ≤ 140737488351232 := by
    rcases open_len h1 with e | ⟨el, sp, rfl, hle⟩
    · omega
    · have := sized_slice hsz (j := 1) (t := 22) (e := 5) rfl rfl Try.underlying22
      rw [Try.bytes5] at this
      simp only [reachBytes] at this
      omega
  clear hA0 hval0
  refine (law_two_any k0 g1 A1 m1 s1 l1 W lk0 bk0 hs1 hn1 hg1).mono fun e W' ⟨he, hg⟩ => ?_
  subst he
  exact ⟨_, rfl, post_true rfl hW' (by kernel_rfl) rfl rfl hg⟩

theorem kdfTwo_holds : Rows.KdfTwoSaid :=
  OpenClaim.holds_of_wide 9 Try.f9 rfl rfl rfl rfl rfl rfl rfl ⟨rfl, rfl, rfl, rfl, rfl⟩ rfl rfl rfl rfl rfl (by kernel_rfl) Try.func9 (by kernel_rfl)
    (of_decide_eq_true (by kernel_rfl)) (by unfold Func.isWrapper; first | (rw [if_pos (by decide +kernel)]; kernel_rfl) | (rw [if_neg (by decide +kernel)]; exact ⟨rfl, rfl⟩))
    (fun os started H enc _ => law_two_lifted os started H enc)
#print axioms kdfTwo_holds
end Go.Proofs.Ytebknlhooijkcaa
