/- The reference's key, Three, Two: contracts. Conditions: a chain of 32 bytes, slices that lie in memory, lengths below 2^47. -/
import Derived.Test.YtebknlhooijkcaaYg
namespace Go.Proofs.Ytebknlhooijkcaa
set_option linter.unusedSimpArgs false
set_option linter.unusedVariables false
open Go.ChangeShapes Go.WideShapes Go.ChangeAt Go.RowKit


set_option maxRecDepth 100000 in
set_option maxHeartbeats 16000000 in
theorem rkey_is (g : Nat) (A : Option Addr) (n c : Nat) (l : List Int) (at_ : Nat) (w : World) (hs : Sl w g (.slice A n c) l) (ha : at_ + 32 ≤ n) (hn : n ≤ 100000) (E : List Int) (hE : E.length = 32) (hEl : ∀ i, i < 32 → E[i]? = l[at_ + i]?) :
    Calls Try.prog 31 #[.slice A n c, .int .i64 (at_ : Int)] w fun e w' => e = .returned (.agg (vs .u8 E)) ∧ Fr (fun _ => False) w w' := by
  have lE : Hid (E.length = 32) := hE
  have HE := Lib.hid hEl
  have LL := Lib.hid hs.len
  obtain ⟨o, rfl, hc⟩ := hs.at_ (by omega)
  have HC : Hid (∀ i, i < 32 → w.cell? ⟨g, o + (at_ + i), none⟩ = some (.int .u8 (l.getD (at_ + i) 0))) := fun i hi => hc (at_ + i) (by omega)
  have HG : Hid (g < w.heap.size) := World.block_lt_of_cell? _ _ (HC.out 0 (by omega))
  obtain ⟨Z, hZ⟩ : ∃ Z, Z = List.replicate 32 (0 : Int) := ⟨_, rfl⟩
  have hz : ∀ W : World, (zeroValue 32).run Try.prog W = .ok (.agg (vs .u8 Z)) W := fun W => by rw [hZ]; exact zeroKY W
  have HZ : Hid (Z = fil E 0 0) := by show _ = _; rw [fil_zero, lE.out]; exact hZ
  have s1 : Hid ((Try.prog.info? 32).map (·.size) = some (vs .u8 E).size) := by show _ = _; rw [szKY, vs_size, lE.out]
  have e1 : Hid ((vs .u8 Z).size = (vs .u8 E).size) := by show _ = _; rw [vs_size, vs_size, lE.out, hZ]; rfl
  clear hZ hE hEl hs hc
  go_enter Try.func31, Try.ntmps31
  go_upto_region 2 with (fail)
  obtain ⟨rs, hrs⟩ : ∃ x, x = w.heap.size := ⟨_, rfl⟩
  obtain ⟨q, hq⟩ : ∃ x, x = w.heap.size + 1 := ⟨_, rfl⟩
  rw [← hq, ← hrs]
  generalize hW : (w.alloc (.cells (vs .u8 Z) 32)).alloc (.cells (vs .u8 Z) 32) = W0
  have HW := calm2 hW
  rw [← hq, ← hrs] at HW
  have R0 : Hid (Ar W0 rs 32 .u8 Z) := HW.1
  have Q0 : Hid (Ar W0 q 32 .u8 (fil E 0 0)) := by show Ar _ _ _ _ _; rw [← HZ.out]; exact HW.2.1
  have F0 : Hid (Fr (fun _ => False) w W0) := HW.2.2
  have NR : Hid (w.heap.size ≤ rs ∧ rs < q ∧ g < rs) := by have := HG.out; show _ ∧ _ ∧ _; omega
  clear HW hW hrs hq hz HG
  try simp only [Act.put, List.setIfInBounds_toArray, List.set_cons_succ, List.set_cons_zero]
  have F00 : Hid (Fr (fun j => j = q) W0 W0) := Fr.refl _ _
  go_upto_region 3 with (fail)
  go_loopw [6] (fun u6 wr => ∃ i : Nat, u6 = .int .i64 i ∧ i ≤ 32 ∧ Hid (Ar wr q 32 .u8 (fil E i 0)) ∧ Hid (Fr (fun j => j = q) W0 wr)) (fun u6 _ => 32 - (intOf u6).toNat)
  case atStart => exact ⟨0, rfl, by omega, Q0, F00⟩
  case round =>
  clear Q0 F00
  obtain ⟨i, rfl, hi, hO, hF⟩ := hrel
  by_cases hil : i < 32
  · obtain ⟨y, hy⟩ : ∃ y, E[i]? = some y := ⟨_, getD_some (by rw [lE.out]; exact hil)⟩
    have ca0 := HC.out i hil
    rw [List.getD_eq_getElem?_getD, ← HE.out i hil, hy] at ca0
    have ca1 : wr.cell? ⟨g, o + (at_ + i), none⟩ = some (.int .u8 y) := cell_fr (cell_fr ca0 F0.out (fun x => x)) hF.out (show ¬ g = q by have := NR.out; omega)
    have cO := hO.out.cell (fil_get E i 0 (by have := lE.out; omega))
    have fO := hO.out.frozen i
    have O2 := Lib.hid (hO.out.set i y)
    rw [fil_set E i 0 _ hy] at O2
    have t1 : ((i : Int)).toNat = i := by omega
    have t2 : 0 ≤ (i : Int) := by omega
    have t3 : (i : Int) < 32 := by omega
    have t5 : ((at_ : Int) + (i : Int)).toNat = at_ + i := by omega
    have t6 : (at_ : Int) + (i : Int) < n := by omega
    have t7 : 0 ≤ (at_ : Int) + (i : Int) := by omega
    clear hy ca0 hO
    go_wp2
    go_roundw
    case rel => exact ⟨i + 1, by go_num, by omega, O2, hF.out.setCell _ (.inl rfl)⟩
    case measure => simp [intOf]; omega
  obtain rfl : i = 32 := by omega
  have O9 : Hid (Ar wr q 32 .u8 E) := by
    have h := hO.out
    have e := fil_all E (0 : Int)
    rw [lE.out] at e
    rwa [e] at h
  have R9 := Lib.hid (R0.out.fr hF.out (show ¬ rs = q by have := NR.out; omega))
  have F9 : Hid (Fr (fun _ => False) w wr) := F0.out.trans' hF.out (fun j hj e => by have := NR.out; omega)
  clear hO hF R0
  go_wp2_with (first
    | refine wpList_load_row rfl 32 (.tmp 5) rfl q rfl 32 (vs .u8 E) (0, 0) _ O9.out Try.underlying32 rfl s1.out ?_
    | refine wpList_store_row rfl 32 (.tmp 4) (.tmp 19) rfl rs (vs .u8 E) rfl rfl 32 _ R9.out s1.out e1.out (vs_all _ _) ?_)
  refine bodyPost_ret (results_cell_row Try.results31 _ _ _ 32 _ (0, 0) _ rfl (setRow_heap _ _ _ _ _ _ R9.out) Try.underlying32 rfl s1.out) rfl ⟨rfl, F9.out.setRow _ (.inr (by have := NR.out; omega))⟩
set_option maxRecDepth 100000 in
set_option maxHeartbeats 16000000 in
theorem rthree_is (ch : List Int) (g2 : Nat) (A2 : Option Addr) (m2 c2 : Nat) (b : List Int) (w : World) (lc : ch.length = 32) (bc : Bys ch) (h2 : Sl w g2 (.slice A2 m2 c2) b) (hm2 : m2 ≤ 140737488351232) :
    Calls Try.prog 23 #[.agg (vs .u8 ch), .slice A2 m2 c2] w fun e w' => e = .returned (.tuple #[.agg (vs .u8 (ex (ext ch b) [] 1)), .agg (vs .u8 (ex (ext ch b) [] 2)), .agg (vs .u8 (ex (ext ch b) [] 3))]) ∧ Fr (fun _ => False) w w' := by
  obtain ⟨K, hK⟩ : ∃ K, K = ext ch b := ⟨_, rfl⟩
  obtain ⟨E1, hE1⟩ : ∃ E, E = ex K [] 1 := ⟨_, rfl⟩
  have l1 : Hid (E1.length = 32 ∧ Bys E1) := by rw [hE1]; exact ⟨ex_length _ _ _, ex_bys _ _ _⟩
  have s1 : Hid ((Try.prog.info? 32).map (·.size) = some (vs .u8 E1).size) := by show _ = _; rw [szKY, vs_size, l1.out.1]
  obtain ⟨E2, hE2⟩ : ∃ E, E = ex K [] 2 := ⟨_, rfl⟩
  have l2 : Hid (E2.length = 32 ∧ Bys E2) := by rw [hE2]; exact ⟨ex_length _ _ _, ex_bys _ _ _⟩
  have s2 : Hid ((Try.prog.info? 32).map (·.size) = some (vs .u8 E2).size) := by show _ = _; rw [szKY, vs_size, l2.out.1]
  obtain ⟨E3, hE3⟩ : ∃ E, E = ex K [] 3 := ⟨_, rfl⟩
  have l3 : Hid (E3.length = 32 ∧ Bys E3) := by rw [hE3]; exact ⟨ex_length _ _ _, ex_bys _ _ _⟩
  have s3 : Hid ((Try.prog.info? 32).map (·.size) = some (vs .u8 E3).size) := by show _ = _; rw [szKY, vs_size, l3.out.1]
  have CX : ∀ W bx, Fr (fun _ => False) w W → Ar W bx 32 .u8 ch → Calls Try.prog 17 #[.slice (some ⟨bx, 0, none⟩) 32 32, .slice A2 m2 c2] W fun e w' => e = .returned (.agg (vs .u8 K)) ∧ Fr (fun _ => False) W w' := fun W bx hf ha => by
    rw [hK]
    exact rextract_is bx _ 32 32 ch g2 A2 m2 c2 b W (ha.slt bc lc (by decide)) (by decide) (h2.fr hf (fun _ x => x)) (by omega)
  obtain ⟨L, hL⟩ : ∃ L, L = (E1 ++ E2) ++ E3 := ⟨_, rfl⟩
  have CP : ∀ W, Calls Try.prog 19 #[.agg (vs .u8 K), .slice none 0 0, .int .i64 96] W fun e w' => ∃ A c g, e = .returned (.tuple #[.slice A 96 c, .int .i64 0]) ∧ W.heap.size ≤ g ∧ Sl w' g (.slice A 96 c) L ∧ Fr (fun _ => False) W w' := fun W => by
    have e := rexpand_yes K 0 none 0 0 [] 96 W (by rw [hK]; exact ext_length _ _) (by rw [hK]; exact ext_bys _ _) (Sl.nil _ _) (by decide) (by decide)
    rw [exs3, ← hE1, ← hE2, ← hE3, ← hL] at e
    exact e
  have P1 : ∀ i, i < 32 → E1[i]? = L[0 + i]? := fun i hi => by rw [hL, Nat.zero_add, List.getElem?_append_left (by rw [List.length_append, l1.out.1, l2.out.1]; omega), List.getElem?_append_left (by rw [l1.out.1]; omega)]
  have P2 : ∀ i, i < 32 → E2[i]? = L[32 + i]? := fun i hi => by rw [hL, List.getElem?_append_left (by rw [List.length_append, l1.out.1, l2.out.1]; omega), List.getElem?_append_right (by rw [l1.out.1]; omega), l1.out.1, show 32 + i - 32 = i by omega]
  have P3 : ∀ i, i < 32 → E3[i]? = L[64 + i]? := fun i hi => by rw [hL, List.getElem?_append_right (by rw [List.length_append, l1.out.1, l2.out.1]; omega), List.length_append, l1.out.1, l2.out.1, show 64 + i - (32 + 32) = i by omega]
  have CK1 : ∀ W A c g, Sl W g (.slice A 96 c) L → Calls Try.prog 31 #[.slice A 96 c, .int .i64 0] W fun e w' => e = .returned (.agg (vs .u8 E1)) ∧ Fr (fun _ => False) W w' := fun W A c g hs => rkey_is g A 96 c L 0 W hs (by decide) (by decide) E1 l1.out.1 P1
  have CK2 : ∀ W A c g, Sl W g (.slice A 96 c) L → Calls Try.prog 31 #[.slice A 96 c, .int .i64 32] W fun e w' => e = .returned (.agg (vs .u8 E2)) ∧ Fr (fun _ => False) W w' := fun W A c g hs => rkey_is g A 96 c L 32 W hs (by decide) (by decide) E2 l2.out.1 P2
  have CK3 : ∀ W A c g, Sl W g (.slice A 96 c) L → Calls Try.prog 31 #[.slice A 96 c, .int .i64 64] W fun e w' => e = .returned (.agg (vs .u8 E3)) ∧ Fr (fun _ => False) W w' := fun W A c g hs => rkey_is g A 96 c L 64 W hs (by decide) (by decide) E3 l3.out.1 P3
  obtain ⟨Z, hZ⟩ : ∃ Z, Z = List.replicate 32 (0 : Int) := ⟨_, rfl⟩
  have hz : ∀ W : World, (zeroValue 32).run Try.prog W = .ok (.agg (vs .u8 Z)) W := fun W => by rw [hZ]; exact zeroKY W
  have e1 : Hid ((vs .u8 Z).size = (vs .u8 E1).size) := by show _ = _; rw [vs_size, vs_size, l1.out.1, hZ]; rfl
  have e2 : Hid ((vs .u8 Z).size = (vs .u8 E2).size) := by show _ = _; rw [vs_size, vs_size, l2.out.1, hZ]; rfl
  have e3 : Hid ((vs .u8 Z).size = (vs .u8 E3).size) := by show _ = _; rw [vs_size, vs_size, l3.out.1, hZ]; rfl
  rw [← hK, ← hE1, ← hE2, ← hE3]
  clear hK hE1 hE2 hE3 hL hZ lc bc h2 hm2 P1 P2 P3
  go_enter Try.func23, Try.ntmps23
  go_upto_region 1 with (fail)
  obtain ⟨bx, hbx⟩ : ∃ x, x = w.heap.size := ⟨_, rfl⟩
  obtain ⟨r1, hr1⟩ : ∃ x, x = w.heap.size + 1 := ⟨_, rfl⟩
  obtain ⟨r2, hr2⟩ : ∃ x, x = w.heap.size + 2 := ⟨_, rfl⟩
  obtain ⟨r3, hr3⟩ : ∃ x, x = w.heap.size + 3 := ⟨_, rfl⟩
  try rw [show w.heap.size + 1 + 1 + 1 = w.heap.size + 3 from rfl]
  try rw [show w.heap.size + 1 + 1 = w.heap.size + 2 from rfl]
  rw [← hr1, ← hr2, ← hr3, ← hbx]
  generalize hW : (((w.alloc (.cells (vs .u8 ch) 32)).alloc (.cells (vs .u8 Z) 32)).alloc (.cells (vs .u8 Z) 32)).alloc (.cells (vs .u8 Z) 32) = W0
  have HW := calm4r hW
  rw [← hr1, ← hr2, ← hr3, ← hbx] at HW
  have C0 : Hid (Ar W0 bx 32 .u8 ch) := HW.1
  have R1 : Hid (Ar W0 r1 32 .u8 Z) := HW.2.1
  have R2 : Hid (Ar W0 r2 32 .u8 Z) := HW.2.2.1
  have R3 : Hid (Ar W0 r3 32 .u8 Z) := HW.2.2.2.1
  have F0 : Hid (Fr (fun _ => False) w W0) := HW.2.2.2.2
  have NR : Hid (w.heap.size ≤ r1 ∧ r1 < r2 ∧ r2 < r3) := by show _ ∧ _ ∧ _; omega
  clear HW hW hbx hr1 hr2 hr3 hz
  try simp only [Act.put, List.setIfInBounds_toArray, List.set_cons_succ, List.set_cons_zero]
  go_upto_region 2 with (first
    | (go_at_call 17; refine (CX _ bx F0.out C0.out).mono ?_; rintro e w1 ⟨rfl, hf⟩; have F1 := Lib.hid hf; clear hf)
    | (go_at_call 19; refine (CP _).mono ?_; rintro e w2 ⟨A, c, g, rfl, hg, hs, hf⟩; have S2 := Lib.hid hs; have F2 := Lib.hid (F1.out.trans hf); clear hf hs hg))
  have Q1 := Lib.hid (R1.out.fr F2.out (fun x => x))
  have Q2 := Lib.hid (R2.out.fr F2.out (fun x => x))
  have Q3 := Lib.hid (R3.out.fr F2.out (fun x => x))
  have H2 := Lib.hid (F0.out.trans F2.out)
  clear R1 R2 R3 C0 F0 F1 F2 CX CP
  have tk1 : True := trivial
  have tk2 : True := trivial
  go_wp2_with (first
    | (go_at_call 31; clear tk1; refine (CK1 _ A c g S2.out).mono ?_; rintro e w3 ⟨rfl, hf⟩; have F3 := Lib.hid hf; clear hf)
    | (go_at_call 31; clear tk2; refine (CK2 _ A c g (S2.out.fr F3.out (fun _ x => x))).mono ?_; rintro e w4 ⟨rfl, hf⟩; have F4 := Lib.hid (F3.out.trans hf); clear hf)
    | (go_at_call 31; refine (CK3 _ A c g (S2.out.fr F4.out (fun _ x => x))).mono ?_; rintro e w5 ⟨rfl, hf⟩; have F5 := Lib.hid (F4.out.trans hf); have T1 := Lib.hid (Q1.out.fr F5.out (fun x => x)); have U2 := Lib.hid ((Q2.out.fr F5.out (fun x => x)).rowFar (show r2 ≠ r1 by have := NR.out; omega) (vs .u8 E1)); have U3 := Lib.hid (((Q3.out.fr F5.out (fun x => x)).rowFar (show r3 ≠ r1 by have := NR.out; omega) (vs .u8 E1)).rowFar (show r3 ≠ r2 by have := NR.out; omega) (vs .u8 E2)); clear hf)
    | refine wpList_store_row rfl 32 (.tmp 4) (.tmp 17) rfl r1 (vs .u8 E1) rfl rfl 32 _ T1.out s1.out e1.out (vs_all _ _) ?_
    | refine wpList_store_row rfl 32 (.tmp 5) (.tmp 19) rfl r2 (vs .u8 E2) rfl rfl 32 _ U2.out s2.out e2.out (vs_all _ _) ?_
    | refine wpList_store_row rfl 32 (.tmp 6) (.tmp 21) rfl r3 (vs .u8 E3) rfl rfl 32 _ U3.out s3.out e3.out (vs_all _ _) ?_)
  have V1 := ((T1.out.row E1).rowFar (show r1 ≠ r2 by have := NR.out; omega) (vs .u8 E2)).rowFar (show r1 ≠ r3 by have := NR.out; omega) (vs .u8 E3)
  have V2 := (U2.out.row E2).rowFar (show r2 ≠ r3 by have := NR.out; omega) (vs .u8 E3)
  have V3 := U3.out.row E3
  have FF : Fr (fun _ => False) w (((w5.setRow r1 (vs .u8 E1)).setRow r2 (vs .u8 E2)).setRow r3 (vs .u8 E3)) := (((H2.out.trans F5.out).setRow _ (.inr NR.out.1)).setRow _ (.inr (by have := NR.out; omega))).setRow _ (.inr (by have := NR.out; omega))
  refine bodyPost_ret (results_three_rows Try.results23 _ _ r1 r2 r3 32 32 32 (vs .u8 E1) (vs .u8 E2) (vs .u8 E3) (0, 0) (0, 0) (0, 0) _ _ _ rfl V1 Try.underlying32 rfl s1.out rfl V2 Try.underlying32 rfl s2.out rfl V3 Try.underlying32 rfl s3.out) rfl ⟨rfl, FF⟩
end Go.Proofs.Ytebknlhooijkcaa
