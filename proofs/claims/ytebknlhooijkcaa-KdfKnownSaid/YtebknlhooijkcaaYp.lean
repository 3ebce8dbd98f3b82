/- A key's block, its bytes xored: the laws' block, the reference's pad, the program's function literal: contracts. Conditions: lengths below 2^47, a byte. -/
import Derived.Test.YtebknlhooijkcaaYb
import Derived.Test.YtebknlhooijkcaaZr
import Derived.Test.YtebknlhooijkcaaZq
namespace Go.Proofs.Ytebknlhooijkcaa
set_option linter.unusedSimpArgs false
set_option linter.unusedVariables false
open Go.ChangeShapes Go.WideShapes Go.ChangeAt Go.RowKit



set_option maxRecDepth 100000 in
set_option maxHeartbeats 16000000 in
theorem block_long (g1 : Nat) (A1 : Option Addr) (m1 c1 : Nat) (k : List Int) (y : Int) (w : World) (h1 : Sl w g1 (.slice A1 m1 c1) k) (hm : m1 ≤ 140737488353280) (hl : 64 < m1) (hy : 0 ≤ y ∧ y ≤ 255) :
    Calls Try.prog 32 #[.slice A1 m1 c1, .int .u8 y] w fun e w' => ∃ g, w.heap.size ≤ g ∧ e = .returned (.slice (some ⟨g, 0, none⟩) 64 64) ∧ Ar w' g 5 .u8 (xb y (kb k)) ∧ Fr (fun _ => False) w w' := by
  have lk := Lib.hid h1.len
  obtain ⟨P, hP⟩ : ∃ P, P = kb k := ⟨_, rfl⟩
  have lP : Hid (P.length = 64) := by show _ = _; rw [hP]; exact kb_length k
  have bP : Hid (Bys P) := by show Bys _; rw [hP]; exact kb_bys h1.1
  obtain ⟨Z, hZ⟩ : ∃ Z, Z = List.replicate 64 (0 : Int) := ⟨_, rfl⟩
  have EZ := Lib.hid hZ
  have H1 := Lib.hid h1
  have HY := Lib.hid hy
  obtain ⟨D, hD⟩ : ∃ D, D = dig 32 [] k := ⟨_, rfl⟩
  have lD : Hid (D.length = 32) := by show _ = _; rw [hD]; exact dig_length (by decide) _ _
  have bD : Hid (Bys D) := by show Bys _; rw [hD]; exact dig_bys _ _ _
  have HP : Hid (D ++ Z.drop 32 = P) := by show _ = _; rw [hP, kb, if_pos (by rw [lk.out]; exact hl), padz, ← hD, lD.out, hZ, List.drop_replicate]
  have CS : ∀ W, Fr (fun _ => False) w W → Calls Try.prog 29 #[.slice A1 m1 c1] W fun e w' => e = .returned (.agg (vs .u8 D)) ∧ Fr (fun _ => False) W w' := fun W hf => by rw [hD]; exact sum_is g1 A1 m1 c1 k W (h1.fr hf (fun _ x => x)) hm
  obtain ⟨Z2, hZ2⟩ : ∃ Z, Z = List.replicate 32 (0 : Int) := ⟨_, rfl⟩
  have hz : ∀ W : World, (zeroValue 24).run Try.prog W = .ok (.agg (vs .u8 Z2)) W := fun W => by rw [hZ2]; exact zeroA32 W
  have s1 : Hid ((Try.prog.info? 24).map (·.size) = some (vs .u8 D).size) := by show _ = _; rw [szA32, vs_size, lD.out]
  have e1 : Hid ((vs .u8 Z2).size = (vs .u8 D).size) := by show _ = _; rw [vs_size, vs_size, lD.out, hZ2]; rfl
  have j1 : (64 : Int) < m1 := by omega
  clear hD hZ2
  have lZ : Hid (Z.length = 64) := by show _ = _; rw [hZ, List.length_replicate]
  rw [← hP]
  clear hP hZ h1 hm hl hy
  go_enter Try.func32, Try.ntmps32
  go_upto_region 1 with (fail)
  go_upto_region 2 with (refine wpList_make rfl _ _ rfl 64 (by decide) rfl rfl Z EZ.out ?_)
  obtain ⟨q, hq⟩ : ∃ q, q = w.heap.size := ⟨_, rfl⟩
  have B1 : Hid (Ar (w.alloc (.cells (vs .u8 Z) 5)) q 5 .u8 Z) := by rw [hq]; exact Ar.new w 5 .u8 Z
  have F1 : Hid (Fr (fun _ => False) w (w.alloc (.cells (vs .u8 Z) 5))) := (Fr.refl _ _).alloc _
  have NQ : Hid (w.heap.size ≤ q) := by rw [hq]; exact Nat.le_refl _
  rw [← hq]
  generalize w.alloc (.cells (vs .u8 Z) 5) = W1 at *
  clear hq
  try simp only [Act.put, List.setIfInBounds_toArray, List.set_cons_succ, List.set_cons_zero]
  go_upto_region 4 with (first
    | (go_at_call 29; refine (CS _ F1.out).mono ?_; rintro e w2 ⟨rfl, hf⟩; have F2 := Lib.hid hf; clear hf)
    | refine wpList_store_row rfl 24 (.tmp 6) (.tmp 13) rfl w2.heap.size (vs .u8 D) rfl rfl 24 (vs .u8 Z2) (heap_alloc_new w2 (.cells (vs .u8 Z2) 24)) s1.out e1.out (vs_all _ _) ?_)
  obtain ⟨q2, hq2⟩ : ∃ q, q = w2.heap.size := ⟨_, rfl⟩
  have FQ : Fr (fun _ => False) w2 ((w2.alloc (.cells (vs .u8 Z2) 24)).setRow w2.heap.size (vs .u8 D)) := ((Fr.refl _ w2).alloc _).setRow _ (.inr (Nat.le_refl _))
  have T3 : Hid (Ar ((w2.alloc (.cells (vs .u8 Z2) 24)).setRow w2.heap.size (vs .u8 D)) q2 24 .u8 D) := by rw [hq2]; exact (Ar.new w2 24 .u8 Z2).row D
  have B3 := Lib.hid ((B1.out.fr F2.out (fun x => x)).fr FQ (fun x => x))
  have F3 := Lib.hid ((F1.out.trans F2.out).trans FQ)
  rw [← hq2] at T3 B3 F3 ⊢
  generalize (w2.alloc (.cells (vs .u8 Z2) 24)).setRow q2 (vs .u8 D) = W3 at *
  clear FQ hq2 F1 F2 B1 CS hz
  try simp only [Act.put, List.setIfInBounds_toArray, List.set_cons_succ, List.set_cons_zero]
  have S3 : Hid (Sl W3 q2 (.slice (some ⟨q2, 0, none⟩) 32 32) D) := T3.out.slt bD.out lD.out (by decide)
  clear T3
  go_upto_region 6 with (refine wpList_copy_head rfl (.tmp 14) (.tmp 15) rfl q 64 64 rfl (some ⟨q2, 0, none⟩) 32 32 q2 D rfl S3.out (by decide) 5 Z B3.out (by rw [lZ.out]; decide) ?_; intro w4 ha4 hf4; have B4 := Lib.hid ha4; have G4 := Lib.hid hf4; clear ha4 hf4)
  have F4 : Hid (Fr (fun _ => False) w w4) := F3.out.trans' G4.out (fun j hj e => by have := NQ.out; omega)
  clear B3 F3 S3 G4
  rw [HP.out] at B4
  clear HP EZ lZ
  go_upto_region 7 with (fail)
  have lP2 := lP.out
  go_loopw [7] (fun u9 wr => ∃ i : Nat, u9 = .int .i64 i ∧ i ≤ 64 ∧ Hid (Ar wr q 5 .u8 (xh P y i)) ∧ Hid (Fr (fun _ => False) w wr)) (fun u9 _ => 64 - (intOf u9).toNat)
  case atStart => exact ⟨0, rfl, by omega, by show Ar _ _ _ _ _; rw [xh_zero]; exact B4.out, F4⟩
  case round =>
  clear B4 F4
  obtain ⟨i, rfl, hi, hB, hF⟩ := hrel
  by_cases hil : i < 64
  · obtain ⟨p, hp⟩ : ∃ p, P[i]? = some p := ⟨_, getD_some (by rw [lP.out]; exact hil)⟩
    have HX : Hid (bits .xor .u8 p y = x8 p y) := rfl
    have cB := hB.out.cell (by rw [xh_get P y i (by have := lP.out; omega)]; exact hp)
    have fB := hB.out.frozen i
    have B2 := Lib.hid (hB.out.set i (x8 p y))
    rw [xh_set P y i p hp] at B2
    have t1 : ((i : Int)).toNat = i := by omega
    have t2 : 0 ≤ (i : Int) := by omega
    have t3 : (i : Int) < 64 := by omega
    clear hp hB
    go_wp2
    go_roundw
    case rel => exact ⟨i + 1, by go_num, by omega, B2, hF.out.setCell _ (.inr NQ.out)⟩
    case measure => simp [intOf]; omega
  obtain rfl : i = 64 := by omega
  have B9 : Hid (Ar wr q 5 .u8 (xb y P)) := by
    have h := hB.out
    have e := xh_all P y
    rw [lP.out] at e
    rwa [e] at h
  have lX : Hid ((xb y P).length = 64) := by show _ = _; rw [xb_length, lP.out]
  have bX : Hid (Bys (xb y P)) := xb_bys HY.out bP.out
  clear hB lP2
  go_wp2
  go_ret
  exact ⟨q, NQ.out, rfl, B9.out, hF.out⟩

set_option maxRecDepth 100000 in
set_option maxHeartbeats 16000000 in
theorem pad_short (g1 : Nat) (A1 : Option Addr) (m1 c1 : Nat) (k : List Int) (y : Int) (g2 : Nat) (A2 : Option Addr) (m2 c2 : Nat) (b : List Int) (w : World) (h1 : Sl w g1 (.slice A1 m1 c1) k) (hm : m1 ≤ 140737488353280) (h2 : Sl w g2 (.slice A2 m2 c2) b) (hm2 : m2 ≤ 140737488353280) (hl : m1 ≤ 64) (hy : 0 ≤ y ∧ y ≤ 255) :
    Calls Try.prog 28 #[.slice A1 m1 c1, .int .u8 y, .slice A2 m2 c2] w fun e w' => ∃ v, e = .returned v ∧ Nw w w' v (xb y (kb k) ++ b) ∧ Fr (fun _ => False) w w' := by
  have lk := Lib.hid h1.len
  obtain ⟨P, hP⟩ : ∃ P, P = kb k := ⟨_, rfl⟩
  have lP : Hid (P.length = 64) := by show _ = _; rw [hP]; exact kb_length k
  have bP : Hid (Bys P) := by show Bys _; rw [hP]; exact kb_bys h1.1
  obtain ⟨Z, hZ⟩ : ∃ Z, Z = List.replicate 64 (0 : Int) := ⟨_, rfl⟩
  have EZ := Lib.hid hZ
  have H1 := Lib.hid h1
  have HY := Lib.hid hy
  have H2 := Lib.hid h2
  have HM2 := Lib.hid hm2
  have HP : Hid (k ++ Z.drop m1 = P) := by show _ = _; rw [hP, kb, if_neg (by rw [lk.out]; omega), padz, lk.out, hZ, List.drop_replicate]
  have j1 : ¬ (64 : Int) < m1 := by omega
  have HL := Lib.hid hl
  have lZ : Hid (Z.length = 64) := by show _ = _; rw [hZ, List.length_replicate]
  rw [← hP]
  clear hP hZ h1 hm hl hy h2 hm2
  go_enter Try.func28, Try.ntmps28
  go_upto_region 1 with (fail)
  go_upto_region 2 with (refine wpList_make rfl _ _ rfl 64 (by decide) rfl rfl Z EZ.out ?_)
  obtain ⟨q, hq⟩ : ∃ q, q = w.heap.size := ⟨_, rfl⟩
  have B1 : Hid (Ar (w.alloc (.cells (vs .u8 Z) 5)) q 5 .u8 Z) := by rw [hq]; exact Ar.new w 5 .u8 Z
  have F1 : Hid (Fr (fun _ => False) w (w.alloc (.cells (vs .u8 Z) 5))) := (Fr.refl _ _).alloc _
  have NQ : Hid (w.heap.size ≤ q) := by rw [hq]; exact Nat.le_refl _
  rw [← hq]
  generalize w.alloc (.cells (vs .u8 Z) 5) = W1 at *
  clear hq
  try simp only [Act.put, List.setIfInBounds_toArray, List.set_cons_succ, List.set_cons_zero]
  go_upto_region 6 with (refine wpList_copy_head rfl (.tmp 19) (.tmp 20) rfl q 64 64 rfl A1 m1 c1 g1 k rfl (H1.out.fr F1.out (fun _ x => x)) HL.out 5 Z B1.out (by rw [lZ.out]; decide) ?_; intro w4 ha4 hf4; have B4 := Lib.hid ha4; have G4 := Lib.hid hf4; clear ha4 hf4)
  have F4 : Hid (Fr (fun _ => False) w w4) := F1.out.trans' G4.out (fun j hj e => by have := NQ.out; omega)
  clear B1 F1 G4
  rw [HP.out] at B4
  clear HP EZ lZ
  go_upto_region 7 with (fail)
  have lP2 := lP.out
  go_loopw [9] (fun u9 wr => ∃ i : Nat, u9 = .int .i64 i ∧ i ≤ 64 ∧ Hid (Ar wr q 5 .u8 (xh P y i)) ∧ Hid (Fr (fun _ => False) w wr)) (fun u9 _ => 64 - (intOf u9).toNat)
  case atStart => exact ⟨0, rfl, by omega, by show Ar _ _ _ _ _; rw [xh_zero]; exact B4.out, F4⟩
  case round =>
  clear B4 F4
  obtain ⟨i, rfl, hi, hB, hF⟩ := hrel
  by_cases hil : i < 64
  · obtain ⟨p, hp⟩ : ∃ p, P[i]? = some p := ⟨_, getD_some (by rw [lP.out]; exact hil)⟩
    have HX : Hid (bits .xor .u8 p y = x8 p y) := rfl
    have cB := hB.out.cell (by rw [xh_get P y i (by have := lP.out; omega)]; exact hp)
    have fB := hB.out.frozen i
    have B2 := Lib.hid (hB.out.set i (x8 p y))
    rw [xh_set P y i p hp] at B2
    have t1 : ((i : Int)).toNat = i := by omega
    have t2 : 0 ≤ (i : Int) := by omega
    have t3 : (i : Int) < 64 := by omega
    clear hp hB
    go_wp2
    go_roundw
    case rel => exact ⟨i + 1, by go_num, by omega, B2, hF.out.setCell _ (.inr NQ.out)⟩
    case measure => simp [intOf]; omega
  obtain rfl : i = 64 := by omega
  have B9 : Hid (Ar wr q 5 .u8 (xb y P)) := by
    have h := hB.out
    have e := xh_all P y
    rw [lP.out] at e
    rwa [e] at h
  have lX : Hid ((xb y P).length = 64) := by show _ = _; rw [xb_length, lP.out]
  have bX : Hid (Bys (xb y P)) := xb_bys HY.out bP.out
  clear hB lP2
  obtain ⟨X, hX⟩ : ∃ X, X = xb y P := ⟨_, rfl⟩
  rw [← hX] at B9 lX bX
  have UX : Unit → X = xb y P := fun _ => hX
  clear hX
  have OW : Hid (Nw w wr (.slice (some ⟨q, 0, none⟩) 64 64) X) := ⟨B9.out.ow bX.out lX.out (by decide), fun j hj => by injection hj with hj; rw [← hj]; exact NQ.out⟩
  go_wp2_with (at_builtin; refine wpList_own rfl (.tmp 35) (.tmp 36) rfl OW.out.1 rfl rfl (H2.out.fr hF.out (fun _ x => x)) (by rw [lX.out]; have := HM2.out; omega) ?_; intro A3 N3 c3 w3 hap hN; have HA := Lib.hid hap; clear hap hN)
  go_ret
  obtain ⟨r1, r2⟩ := Nw.app OW.out hF.out (Fr.refl _ _) HA.out
  exact ⟨_, rfl, by rw [← UX ()]; exact r1, r2⟩

set_option maxRecDepth 100000 in
set_option maxHeartbeats 16000000 in
theorem pad_long (g1 : Nat) (A1 : Option Addr) (m1 c1 : Nat) (k : List Int) (y : Int) (g2 : Nat) (A2 : Option Addr) (m2 c2 : Nat) (b : List Int) (w : World) (h1 : Sl w g1 (.slice A1 m1 c1) k) (hm : m1 ≤ 140737488353280) (h2 : Sl w g2 (.slice A2 m2 c2) b) (hm2 : m2 ≤ 140737488353280) (hl : 64 < m1) (hy : 0 ≤ y ∧ y ≤ 255) :
    Calls Try.prog 28 #[.slice A1 m1 c1, .int .u8 y, .slice A2 m2 c2] w fun e w' => ∃ v, e = .returned v ∧ Nw w w' v (xb y (kb k) ++ b) ∧ Fr (fun _ => False) w w' := by
  have lk := Lib.hid h1.len
  obtain ⟨P, hP⟩ : ∃ P, P = kb k := ⟨_, rfl⟩
  have lP : Hid (P.length = 64) := by show _ = _; rw [hP]; exact kb_length k
  have bP : Hid (Bys P) := by show Bys _; rw [hP]; exact kb_bys h1.1
  obtain ⟨Z, hZ⟩ : ∃ Z, Z = List.replicate 64 (0 : Int) := ⟨_, rfl⟩
  have EZ := Lib.hid hZ
  have H1 := Lib.hid h1
  have HY := Lib.hid hy
  have H2 := Lib.hid h2
  have HM2 := Lib.hid hm2
  obtain ⟨D, hD⟩ : ∃ D, D = dig 32 [] k := ⟨_, rfl⟩
  have lD : Hid (D.length = 32) := by show _ = _; rw [hD]; exact dig_length (by decide) _ _
  have bD : Hid (Bys D) := by show Bys _; rw [hD]; exact dig_bys _ _ _
  have HP : Hid (D ++ Z.drop 32 = P) := by show _ = _; rw [hP, kb, if_pos (by rw [lk.out]; exact hl), padz, ← hD, lD.out, hZ, List.drop_replicate]
  have CS : ∀ W, Fr (fun _ => False) w W → Calls Try.prog 27 #[.slice A1 m1 c1] W fun e w' => e = .returned (.agg (vs .u8 D)) ∧ Fr (fun _ => False) W w' := fun W hf => by rw [hD]; exact rsum_is g1 A1 m1 c1 k W (h1.fr hf (fun _ x => x)) hm
  obtain ⟨Z2, hZ2⟩ : ∃ Z, Z = List.replicate 32 (0 : Int) := ⟨_, rfl⟩
  have hz : ∀ W : World, (zeroValue 24).run Try.prog W = .ok (.agg (vs .u8 Z2)) W := fun W => by rw [hZ2]; exact zeroA32 W
  have s1 : Hid ((Try.prog.info? 24).map (·.size) = some (vs .u8 D).size) := by show _ = _; rw [szA32, vs_size, lD.out]
  have e1 : Hid ((vs .u8 Z2).size = (vs .u8 D).size) := by show _ = _; rw [vs_size, vs_size, lD.out, hZ2]; rfl
  have j1 : (64 : Int) < m1 := by omega
  clear hD hZ2
  have lZ : Hid (Z.length = 64) := by show _ = _; rw [hZ, List.length_replicate]
  rw [← hP]
  clear hP hZ h1 hm hl hy h2 hm2
  go_enter Try.func28, Try.ntmps28
  go_upto_region 1 with (fail)
  go_upto_region 2 with (refine wpList_make rfl _ _ rfl 64 (by decide) rfl rfl Z EZ.out ?_)
  obtain ⟨q, hq⟩ : ∃ q, q = w.heap.size := ⟨_, rfl⟩
  have B1 : Hid (Ar (w.alloc (.cells (vs .u8 Z) 5)) q 5 .u8 Z) := by rw [hq]; exact Ar.new w 5 .u8 Z
  have F1 : Hid (Fr (fun _ => False) w (w.alloc (.cells (vs .u8 Z) 5))) := (Fr.refl _ _).alloc _
  have NQ : Hid (w.heap.size ≤ q) := by rw [hq]; exact Nat.le_refl _
  rw [← hq]
  generalize w.alloc (.cells (vs .u8 Z) 5) = W1 at *
  clear hq
  try simp only [Act.put, List.setIfInBounds_toArray, List.set_cons_succ, List.set_cons_zero]
  go_upto_region 4 with (first
    | (go_at_call 27; refine (CS _ F1.out).mono ?_; rintro e w2 ⟨rfl, hf⟩; have F2 := Lib.hid hf; clear hf)
    | refine wpList_store_row rfl 24 (.tmp 8) (.tmp 15) rfl w2.heap.size (vs .u8 D) rfl rfl 24 (vs .u8 Z2) (heap_alloc_new w2 (.cells (vs .u8 Z2) 24)) s1.out e1.out (vs_all _ _) ?_)
  obtain ⟨q2, hq2⟩ : ∃ q, q = w2.heap.size := ⟨_, rfl⟩
  have FQ : Fr (fun _ => False) w2 ((w2.alloc (.cells (vs .u8 Z2) 24)).setRow w2.heap.size (vs .u8 D)) := ((Fr.refl _ w2).alloc _).setRow _ (.inr (Nat.le_refl _))
  have T3 : Hid (Ar ((w2.alloc (.cells (vs .u8 Z2) 24)).setRow w2.heap.size (vs .u8 D)) q2 24 .u8 D) := by rw [hq2]; exact (Ar.new w2 24 .u8 Z2).row D
  have B3 := Lib.hid ((B1.out.fr F2.out (fun x => x)).fr FQ (fun x => x))
  have F3 := Lib.hid ((F1.out.trans F2.out).trans FQ)
  rw [← hq2] at T3 B3 F3 ⊢
  generalize (w2.alloc (.cells (vs .u8 Z2) 24)).setRow q2 (vs .u8 D) = W3 at *
  clear FQ hq2 F1 F2 B1 CS hz
  try simp only [Act.put, List.setIfInBounds_toArray, List.set_cons_succ, List.set_cons_zero]
  have S3 : Hid (Sl W3 q2 (.slice (some ⟨q2, 0, none⟩) 32 32) D) := T3.out.slt bD.out lD.out (by decide)
  clear T3
  go_upto_region 6 with (refine wpList_copy_head rfl (.tmp 16) (.tmp 17) rfl q 64 64 rfl (some ⟨q2, 0, none⟩) 32 32 q2 D rfl S3.out (by decide) 5 Z B3.out (by rw [lZ.out]; decide) ?_; intro w4 ha4 hf4; have B4 := Lib.hid ha4; have G4 := Lib.hid hf4; clear ha4 hf4)
  have F4 : Hid (Fr (fun _ => False) w w4) := F3.out.trans' G4.out (fun j hj e => by have := NQ.out; omega)
  clear B3 F3 S3 G4
  rw [HP.out] at B4
  clear HP EZ lZ
  go_upto_region 7 with (fail)
  have lP2 := lP.out
  go_loopw [9] (fun u9 wr => ∃ i : Nat, u9 = .int .i64 i ∧ i ≤ 64 ∧ Hid (Ar wr q 5 .u8 (xh P y i)) ∧ Hid (Fr (fun _ => False) w wr)) (fun u9 _ => 64 - (intOf u9).toNat)
  case atStart => exact ⟨0, rfl, by omega, by show Ar _ _ _ _ _; rw [xh_zero]; exact B4.out, F4⟩
  case round =>
  clear B4 F4
  obtain ⟨i, rfl, hi, hB, hF⟩ := hrel
  by_cases hil : i < 64
  · obtain ⟨p, hp⟩ : ∃ p, P[i]? = some p := ⟨_, getD_some (by rw [lP.out]; exact hil)⟩
    have HX : Hid (bits .xor .u8 p y = x8 p y) := rfl
    have cB := hB.out.cell (by rw [xh_get P y i (by have := lP.out; omega)]; exact hp)
    have fB := hB.out.frozen i
    have B2 := Lib.hid (hB.out.set i (x8 p y))
    rw [xh_set P y i p hp] at B2
    have t1 : ((i : Int)).toNat = i := by omega
    have t2 : 0 ≤ (i : Int) := by omega
    have t3 : (i : Int) < 64 := by omega
    clear hp hB
    go_wp2
    go_roundw
    case rel => exact ⟨i + 1, by go_num, by omega, B2, hF.out.setCell _ (.inr NQ.out)⟩
    case measure => simp [intOf]; omega
  obtain rfl : i = 64 := by omega
  have B9 : Hid (Ar wr q 5 .u8 (xb y P)) := by
    have h := hB.out
    have e := xh_all P y
    rw [lP.out] at e
    rwa [e] at h
  have lX : Hid ((xb y P).length = 64) := by show _ = _; rw [xb_length, lP.out]
  have bX : Hid (Bys (xb y P)) := xb_bys HY.out bP.out
  clear hB lP2
  obtain ⟨X, hX⟩ : ∃ X, X = xb y P := ⟨_, rfl⟩
  rw [← hX] at B9 lX bX
  have UX : Unit → X = xb y P := fun _ => hX
  clear hX
  have OW : Hid (Nw w wr (.slice (some ⟨q, 0, none⟩) 64 64) X) := ⟨B9.out.ow bX.out lX.out (by decide), fun j hj => by injection hj with hj; rw [← hj]; exact NQ.out⟩
  go_wp2_with (at_builtin; refine wpList_own rfl (.tmp 35) (.tmp 36) rfl OW.out.1 rfl rfl (H2.out.fr hF.out (fun _ x => x)) (by rw [lX.out]; have := HM2.out; omega) ?_; intro A3 N3 c3 w3 hap hN; have HA := Lib.hid hap; clear hap hN)
  go_ret
  obtain ⟨r1, r2⟩ := Nw.app OW.out hF.out (Fr.refl _ _) HA.out
  exact ⟨_, rfl, by rw [← UX ()]; exact r1, r2⟩

theorem block_is (g1 : Nat) (A1 : Option Addr) (m1 c1 : Nat) (k : List Int) (y : Int) (w : World) (h1 : Sl w g1 (.slice A1 m1 c1) k) (hm : m1 ≤ 140737488353280) (hy : 0 ≤ y ∧ y ≤ 255) :
    Calls Try.prog 32 #[.slice A1 m1 c1, .int .u8 y] w fun e w' => ∃ g, w.heap.size ≤ g ∧ e = .returned (.slice (some ⟨g, 0, none⟩) 64 64) ∧ Ar w' g 5 .u8 (xb y (kb k)) ∧ Fr (fun _ => False) w w' := by
  by_cases h : 64 < m1
  · exact block_long g1 A1 m1 c1 k y w h1 hm h hy
  · exact block_short g1 A1 m1 c1 k y w h1 hm (by omega) hy
theorem pad_is (g1 : Nat) (A1 : Option Addr) (m1 c1 : Nat) (k : List Int) (y : Int) (g2 : Nat) (A2 : Option Addr) (m2 c2 : Nat) (b : List Int) (w : World) (h1 : Sl w g1 (.slice A1 m1 c1) k) (hm : m1 ≤ 140737488353280) (h2 : Sl w g2 (.slice A2 m2 c2) b) (hm2 : m2 ≤ 140737488353280) (hy : 0 ≤ y ∧ y ≤ 255) :
    Calls Try.prog 28 #[.slice A1 m1 c1, .int .u8 y, .slice A2 m2 c2] w fun e w' => ∃ v, e = .returned v ∧ Nw w w' v (xb y (kb k) ++ b) ∧ Fr (fun _ => False) w w' := by
  by_cases h : 64 < m1
  · exact pad_long g1 A1 m1 c1 k y g2 A2 m2 c2 b w h1 hm h2 hm2 h hy
  · exact pad_short g1 A1 m1 c1 k y g2 A2 m2 c2 b w h1 hm h2 hm2 (by omega) hy
end Go.Proofs.Ytebknlhooijkcaa
