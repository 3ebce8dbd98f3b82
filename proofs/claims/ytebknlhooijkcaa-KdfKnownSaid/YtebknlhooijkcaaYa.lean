/- The reference's Hmac and Extract: contracts. Conditions: slices that lie in memory, lengths below 2^47. -/
import Derived.Test.YtebknlhooijkcaaYp
import Derived.Test.YtebknlhooijkcaaYt
namespace Go.Proofs.Ytebknlhooijkcaa
set_option linter.unusedSimpArgs false
set_option linter.unusedVariables false
open Go.ChangeShapes Go.WideShapes Go.ChangeAt Go.RowKit


set_option maxRecDepth 100000 in
set_option maxHeartbeats 16000000 in
theorem rhmac_is (g1 : Nat) (A1 : Option Addr) (m1 c1 : Nat) (k : List Int) (g2 : Nat) (A2 : Option Addr) (m2 c2 : Nat) (b : List Int) (w : World) (h1 : Sl w g1 (.slice A1 m1 c1) k) (hm1 : m1 ≤ 140737488353280) (h2 : Sl w g2 (.slice A2 m2 c2) b) (hm2 : m2 ≤ 140737488352280) :
    Calls Try.prog 13 #[.slice A1 m1 c1, .slice A2 m2 c2] w fun e w' => e = .returned (.agg (vs .u8 (hm k b))) ∧ Fr (fun _ => False) w w' := by
  obtain ⟨I, hI⟩ : ∃ D, D = dig 32 [] (xb 54 (kb k) ++ b) := ⟨_, rfl⟩
  obtain ⟨R, hR⟩ : ∃ D, D = hm k b := ⟨_, rfl⟩
  have lI : Hid (I.length = 32 ∧ Bys I) := by rw [hI]; exact ⟨dig_length (by decide) _ _, dig_bys _ _ _⟩
  have lR : Hid (R.length = 32) := by show _ = _; rw [hR]; exact hm_length _ _
  have l2 := h2.len
  have lX : ∀ y, (xb y (kb k)).length = 64 := fun y => by rw [xb_length, kb_length]
  have CP1 : ∀ W, Fr (fun _ => False) w W → Calls Try.prog 28 #[.slice A1 m1 c1, .int .u8 54, .slice A2 m2 c2] W fun e w' => ∃ A n c g, e = .returned (.slice A n c) ∧ (Sl w' g (.slice A n c) (xb 54 (kb k) ++ b)) ∧ Fr (fun _ => False) W w' := fun W hf => by
    refine (pad_is g1 A1 m1 c1 k 54 g2 A2 m2 c2 b W (h1.fr hf (fun _ x => x)) hm1 (h2.fr hf (fun _ x => x)) (by omega) (by decide)).mono ?_
    rintro e w' ⟨v, rfl, hn, hf2⟩
    obtain ⟨A, c, rfl⟩ := hn.shape
    exact ⟨A, _, c, _, rfl, hn.1.sl, hf2⟩
  have CP2 : ∀ W gi, Fr (fun _ => False) w W → Sl W gi (.slice (some ⟨gi, 0, none⟩) 32 32) I → Calls Try.prog 28 #[.slice A1 m1 c1, .int .u8 92, .slice (some ⟨gi, 0, none⟩) 32 32] W fun e w' => ∃ A n c g, e = .returned (.slice A n c) ∧ (Sl w' g (.slice A n c) (xb 92 (kb k) ++ I)) ∧ Fr (fun _ => False) W w' := fun W gi hf hs => by
    refine (pad_is g1 A1 m1 c1 k 92 gi _ 32 32 I W (h1.fr hf (fun _ x => x)) hm1 hs (by decide) (by decide)).mono ?_
    rintro e w' ⟨v, rfl, hn, hf2⟩
    obtain ⟨A, c, rfl⟩ := hn.shape
    exact ⟨A, _, c, _, rfl, hn.1.sl, hf2⟩
  have CS1 : ∀ W A n c g, Sl W g (.slice A n c) (xb 54 (kb k) ++ b) → Calls Try.prog 27 #[.slice A n c] W fun e w' => e = .returned (.agg (vs .u8 I)) ∧ Fr (fun _ => False) W w' := fun W A n c g hs => by
    rw [hI]
    exact rsum_is g A n c _ W hs (by have := hs.len; rw [List.length_append, lX, l2] at this; omega)
  have CS2 : ∀ W A n c g, Sl W g (.slice A n c) (xb 92 (kb k) ++ I) → Calls Try.prog 27 #[.slice A n c] W fun e w' => e = .returned (.agg (vs .u8 R)) ∧ Fr (fun _ => False) W w' := fun W A n c g hs => by
    rw [hR, hm, ← hI]
    exact rsum_is g A n c _ W hs (by have := hs.len; rw [List.length_append, lX, lI.out.1] at this; omega)
  obtain ⟨Y1, hY1⟩ : ∃ Y, Y = xb 54 (kb k) ++ b := ⟨_, rfl⟩
  obtain ⟨Y2, hY2⟩ : ∃ Y, Y = xb 92 (kb k) ++ I := ⟨_, rfl⟩
  rw [← hY1] at CP1 CS1
  rw [← hY2] at CP2 CS2
  obtain ⟨Z, hZ⟩ : ∃ Z, Z = List.replicate 32 (0 : Int) := ⟨_, rfl⟩
  have hz : ∀ W : World, (zeroValue 24).run Try.prog W = .ok (.agg (vs .u8 Z)) W := fun W => by rw [hZ]; exact zeroA32 W
  have sI : Hid ((Try.prog.info? 24).map (·.size) = some (vs .u8 I).size) := by show _ = _; rw [szA32, vs_size, lI.out.1]
  have eI : Hid ((vs .u8 Z).size = (vs .u8 I).size) := by show _ = _; rw [vs_size, vs_size, lI.out.1, hZ]; rfl
  have sR : Hid ((Try.prog.info? 24).map (·.size) = some (vs .u8 R).size) := by show _ = _; rw [szA32, vs_size, lR.out]
  have eR : Hid ((vs .u8 Z).size = (vs .u8 R).size) := by show _ = _; rw [vs_size, vs_size, lR.out, hZ]; rfl
  rw [← hR]
  clear hI hR hY1 hY2 hZ h1 hm1 h2 hm2 l2 lX
  go_enter Try.func13, Try.ntmps13
  go_upto_region 1 with (fail)
  obtain ⟨rs, hrs⟩ : ∃ x, x = w.heap.size := ⟨_, rfl⟩
  have R0 : Hid (Ar (w.alloc (.cells (vs .u8 Z) 24)) rs 24 .u8 Z) := by rw [hrs]; exact Ar.new w 24 .u8 Z
  have F0 : Hid (Fr (fun _ => False) w (w.alloc (.cells (vs .u8 Z) 24))) := (Fr.refl _ _).alloc _
  have NR : Hid (w.heap.size ≤ rs) := by rw [hrs]; exact Nat.le_refl _
  rw [← hrs]
  generalize w.alloc (.cells (vs .u8 Z) 24) = W0 at *
  clear hrs
  try simp only [Act.put, List.setIfInBounds_toArray, List.set_cons_succ, List.set_cons_zero]
  go_upto_region 2 with (first
    | (go_at_call 28; refine (CP1 _ F0.out).mono ?_; rintro e w1 ⟨A3, n3, c3, g3, rfl, hs, hf⟩; have F1 := Lib.hid (F0.out.trans hf); have S1 := Lib.hid hs; have R1 := Lib.hid (R0.out.fr hf (fun x => x)); clear hs hf)
    | (go_at_call 27; refine (CS1 _ A3 n3 c3 g3 S1.out).mono ?_; rintro e w2 ⟨rfl, hf⟩; have F2 := Lib.hid (F1.out.trans hf); have R2 := Lib.hid (R1.out.fr hf (fun x => x)); clear hf)
    | refine wpList_store_row rfl 24 (.tmp 5) (.tmp 9) rfl w2.heap.size (vs .u8 I) rfl rfl 24 (vs .u8 Z) (heap_alloc_new w2 (.cells (vs .u8 Z) 24)) sI.out eI.out (vs_all _ _) ?_)
  obtain ⟨q, hq⟩ : ∃ q, q = w2.heap.size := ⟨_, rfl⟩
  have FQ : Fr (fun _ => False) w2 ((w2.alloc (.cells (vs .u8 Z) 24)).setRow w2.heap.size (vs .u8 I)) := ((Fr.refl _ w2).alloc _).setRow _ (.inr (Nat.le_refl _))
  have T7 : Hid (Ar ((w2.alloc (.cells (vs .u8 Z) 24)).setRow w2.heap.size (vs .u8 I)) q 24 .u8 I) := by rw [hq]; exact (Ar.new w2 24 .u8 Z).row I
  have F7 := Lib.hid (F2.out.trans FQ)
  have R7 := Lib.hid (R2.out.fr FQ (fun x => x))
  rw [← hq] at T7 F7 R7 ⊢
  generalize (w2.alloc (.cells (vs .u8 Z) 24)).setRow q (vs .u8 I) = W7 at *
  clear FQ hq F0 F1 F2 R0 R1 R2 S1 CP1 CS1
  try simp only [Act.put, List.setIfInBounds_toArray, List.set_cons_succ, List.set_cons_zero]
  have S7 := Lib.hid (T7.out.slt lI.out.2 lI.out.1 (by decide))
  go_wp2_with (first
    | (go_at_call 28; refine (CP2 _ q F7.out S7.out).mono ?_; rintro e w8 ⟨A4, n4, c4, g4, rfl, hs, hf⟩; have F8 := Lib.hid (F7.out.trans hf); have S8 := Lib.hid hs; have R8 := Lib.hid (R7.out.fr hf (fun x => x)); clear hs hf)
    | (go_at_call 27; refine (CS2 _ A4 n4 c4 g4 S8.out).mono ?_; rintro e w9 ⟨rfl, hf⟩; have F9 := Lib.hid (F8.out.trans hf); have R9 := Lib.hid (R8.out.fr hf (fun x => x)); clear hf)
    | refine wpList_store_row rfl 24 (.tmp 4) (.tmp 13) rfl rs (vs .u8 R) rfl rfl 24 _ R9.out sR.out eR.out (vs_all _ _) ?_)
  refine bodyPost_ret (results_cell_row Try.results13 _ _ _ 24 _ (0, 0) _ rfl (setRow_heap _ _ _ _ _ _ R9.out) Try.underlying24 rfl sR.out) rfl ⟨rfl, F9.out.setRow _ (.inr NR.out)⟩

set_option maxRecDepth 100000 in
set_option maxHeartbeats 16000000 in
theorem rextract_none (g1 : Nat) (A1 : Option Addr) (m1 c1 : Nat) (k : List Int) (g2 : Nat) (A2 : Option Addr) (m2 c2 : Nat) (b : List Int) (w : World) (h1 : Sl w g1 (.slice A1 m1 c1) k) (hm1 : m1 ≤ 140737488353280) (h2 : Sl w g2 (.slice A2 m2 c2) b) (hm2 : m2 ≤ 140737488352280) (h0 : m1 = 0) :
    Calls Try.prog 17 #[.slice A1 m1 c1, .slice A2 m2 c2] w fun e w' => e = .returned (.agg (vs .u8 (ext k b))) ∧ Fr (fun _ => False) w w' := by
  obtain ⟨R, hR⟩ : ∃ D, D = ext k b := ⟨_, rfl⟩
  have lR : Hid (R.length = 32) := by show _ = _; rw [hR]; exact ext_length _ _
  have l1 := h1.len
  obtain ⟨ZB, hZB⟩ : ∃ Z, Z = List.replicate 32 (0 : Int) := ⟨_, rfl⟩
  have EZB := Lib.hid hZB
  have CH : ∀ W g, Fr (fun _ => False) w W → Ar W g 5 .u8 ZB → Calls Try.prog 13 #[.slice (some ⟨g, 0, none⟩) 32 32, .slice A2 m2 c2] W fun e w' => e = .returned (.agg (vs .u8 R)) ∧ Fr (fun _ => False) W w' := fun W g hf ha => by
    rw [hR, ext, if_pos (by rw [l1]; exact h0), ← hZB]
    exact rhmac_is g _ 32 32 ZB g2 A2 m2 c2 b W (ha.slt (by rw [hZB]; exact noughts _) (by rw [hZB]; rfl) (by decide)) (by decide) (h2.fr hf (fun _ x => x)) hm2
  obtain ⟨Z, hZ⟩ : ∃ Z, Z = List.replicate 32 (0 : Int) := ⟨_, rfl⟩
  have hz : ∀ W : World, (zeroValue 24).run Try.prog W = .ok (.agg (vs .u8 Z)) W := fun W => by rw [hZ]; exact zeroA32 W
  have sR : Hid ((Try.prog.info? 24).map (·.size) = some (vs .u8 R).size) := by show _ = _; rw [szA32, vs_size, lR.out]
  have eR : Hid ((vs .u8 Z).size = (vs .u8 R).size) := by show _ = _; rw [vs_size, vs_size, lR.out, hZ]; rfl
  rw [← hR]
  clear hR hZ h1 hm1 h2 hm2 l1 hZB
  subst h0
  go_enter Try.func17, Try.ntmps17
  go_upto_region 1 with (fail)
  obtain ⟨rs, hrs⟩ : ∃ x, x = w.heap.size := ⟨_, rfl⟩
  have R0 : Hid (Ar (w.alloc (.cells (vs .u8 Z) 24)) rs 24 .u8 Z) := by rw [hrs]; exact Ar.new w 24 .u8 Z
  have F0 : Hid (Fr (fun _ => False) w (w.alloc (.cells (vs .u8 Z) 24))) := (Fr.refl _ _).alloc _
  have NR : Hid (w.heap.size ≤ rs) := by rw [hrs]; exact Nat.le_refl _
  rw [← hrs]
  generalize w.alloc (.cells (vs .u8 Z) 24) = W0 at *
  clear hrs hz
  try simp only [Act.put, List.setIfInBounds_toArray, List.set_cons_succ, List.set_cons_zero]
  go_wp2_with (first
    | refine wpList_make rfl _ _ rfl 32 (by decide) rfl rfl ZB EZB.out ?_
    | (go_at_call 13; refine (CH _ _ (F0.out.alloc _) (Ar.new W0 5 .u8 ZB)).mono ?_; rintro e w1 ⟨rfl, hf⟩; have F1 := Lib.hid ((F0.out.alloc _).trans hf); have R1 := Lib.hid ((R0.out.alloc _).fr hf (fun x => x)); clear hf)
    | refine wpList_store_row rfl 24 (.tmp 4) (.tmp 10) rfl rs (vs .u8 R) rfl rfl 24 _ R1.out sR.out eR.out (vs_all _ _) ?_)
  refine bodyPost_ret (results_cell_row Try.results17 _ _ _ 24 _ (0, 0) _ rfl (setRow_heap _ _ _ _ _ _ R1.out) Try.underlying24 rfl sR.out) rfl ⟨rfl, F1.out.setRow _ (.inr NR.out)⟩

set_option maxRecDepth 100000 in
set_option maxHeartbeats 16000000 in
theorem rextract_some (g1 : Nat) (A1 : Option Addr) (m1 c1 : Nat) (k : List Int) (g2 : Nat) (A2 : Option Addr) (m2 c2 : Nat) (b : List Int) (w : World) (h1 : Sl w g1 (.slice A1 m1 c1) k) (hm1 : m1 ≤ 140737488353280) (h2 : Sl w g2 (.slice A2 m2 c2) b) (hm2 : m2 ≤ 140737488352280) (h0 : ¬ m1 = 0) :
    Calls Try.prog 17 #[.slice A1 m1 c1, .slice A2 m2 c2] w fun e w' => e = .returned (.agg (vs .u8 (ext k b))) ∧ Fr (fun _ => False) w w' := by
  obtain ⟨R, hR⟩ : ∃ D, D = ext k b := ⟨_, rfl⟩
  have lR : Hid (R.length = 32) := by show _ = _; rw [hR]; exact ext_length _ _
  have l1 := h1.len
  have CH : ∀ W, Fr (fun _ => False) w W → Calls Try.prog 13 #[.slice A1 m1 c1, .slice A2 m2 c2] W fun e w' => e = .returned (.agg (vs .u8 R)) ∧ Fr (fun _ => False) W w' := fun W hf => by
    rw [hR, ext, if_neg (by rw [l1]; exact h0)]
    exact rhmac_is g1 A1 m1 c1 k g2 A2 m2 c2 b W (h1.fr hf (fun _ x => x)) hm1 (h2.fr hf (fun _ x => x)) hm2
  obtain ⟨Z, hZ⟩ : ∃ Z, Z = List.replicate 32 (0 : Int) := ⟨_, rfl⟩
  have hz : ∀ W : World, (zeroValue 24).run Try.prog W = .ok (.agg (vs .u8 Z)) W := fun W => by rw [hZ]; exact zeroA32 W
  have sR : Hid ((Try.prog.info? 24).map (·.size) = some (vs .u8 R).size) := by show _ = _; rw [szA32, vs_size, lR.out]
  have eR : Hid ((vs .u8 Z).size = (vs .u8 R).size) := by show _ = _; rw [vs_size, vs_size, lR.out, hZ]; rfl
  rw [← hR]
  clear hR hZ h1 hm1 h2 hm2 l1
  have j1 : ¬ (m1 : Int) = 0 := by omega
  go_enter Try.func17, Try.ntmps17
  go_upto_region 1 with (fail)
  obtain ⟨rs, hrs⟩ : ∃ x, x = w.heap.size := ⟨_, rfl⟩
  have R0 : Hid (Ar (w.alloc (.cells (vs .u8 Z) 24)) rs 24 .u8 Z) := by rw [hrs]; exact Ar.new w 24 .u8 Z
  have F0 : Hid (Fr (fun _ => False) w (w.alloc (.cells (vs .u8 Z) 24))) := (Fr.refl _ _).alloc _
  have NR : Hid (w.heap.size ≤ rs) := by rw [hrs]; exact Nat.le_refl _
  rw [← hrs]
  generalize w.alloc (.cells (vs .u8 Z) 24) = W0 at *
  clear hrs hz
  try simp only [Act.put, List.setIfInBounds_toArray, List.set_cons_succ, List.set_cons_zero]
  go_wp2_with (first
    | (go_at_call 13; refine (CH _ F0.out).mono ?_; rintro e w1 ⟨rfl, hf⟩; have F1 := Lib.hid (F0.out.trans hf); have R1 := Lib.hid (R0.out.fr hf (fun x => x)); clear hf)
    | refine wpList_store_row rfl 24 (.tmp 4) (.tmp 13) rfl rs (vs .u8 R) rfl rfl 24 _ R1.out sR.out eR.out (vs_all _ _) ?_)
  refine bodyPost_ret (results_cell_row Try.results17 _ _ _ 24 _ (0, 0) _ rfl (setRow_heap _ _ _ _ _ _ R1.out) Try.underlying24 rfl sR.out) rfl ⟨rfl, F1.out.setRow _ (.inr NR.out)⟩

theorem rextract_is (g1 : Nat) (A1 : Option Addr) (m1 c1 : Nat) (k : List Int) (g2 : Nat) (A2 : Option Addr) (m2 c2 : Nat) (b : List Int) (w : World) (h1 : Sl w g1 (.slice A1 m1 c1) k) (hm1 : m1 ≤ 140737488353280) (h2 : Sl w g2 (.slice A2 m2 c2) b) (hm2 : m2 ≤ 140737488352280) :
    Calls Try.prog 17 #[.slice A1 m1 c1, .slice A2 m2 c2] w fun e w' => e = .returned (.agg (vs .u8 (ext k b))) ∧ Fr (fun _ => False) w w' := by
  by_cases h0 : m1 = 0
  · exact rextract_none g1 A1 m1 c1 k g2 A2 m2 c2 b w h1 hm1 h2 hm2 h0
  · exact rextract_some g1 A1 m1 c1 k g2 A2 m2 c2 b w h1 hm1 h2 hm2 h0
end Go.Proofs.Ytebknlhooijkcaa
