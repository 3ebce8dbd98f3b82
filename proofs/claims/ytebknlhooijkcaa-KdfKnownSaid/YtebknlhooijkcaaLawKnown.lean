/- KdfKnown answers true: the given statement KdfKnownSaid. No condition. -/
import Derived.Test.YtebknlhooijkcaaYn8
import Derived.Test.YtebknlhooijkcaaYq8
namespace Go.Proofs.Ytebknlhooijkcaa
set_option linter.unusedSimpArgs false
set_option linter.unusedVariables false
open Go.ChangeShapes Go.WideShapes Go.ChangeAt Go.RowKit


def lo65 : List Int := List.replicate 65 0
def lo64 : List Int := List.replicate 64 0
def lo63 : List Int := List.replicate 63 0
theorem lo_same : hm lo64 [] = hm [] [] := by
  have e : kb lo64 = kb [] := by decide +kernel
  rw [hm, hm, e]
set_option maxRecDepth 100000 in
theorem lo_not : hm lo65 [] ≠ hm [] [] := by decide +kernel
theorem lo64_is : lo65.take 64 = lo64 := by decide +kernel
theorem lo63_is : lo65.take 63 = lo63 := by decide +kernel
theorem one_bys : Bys [1] := fun b hb => by simp at hb; omega
theorem three_bys : Bys [3] := fun b hb => by simp at hb; omega
set_option maxRecDepth 100000 in
set_option maxHeartbeats 16000000 in
theorem law_known_any (w : World) : Calls Try.prog 10 #[] w fun e w' => e = .returned (.bool true) ∧ Fr (fun _ => False) w w' := by
  obtain ⟨Z, hZ⟩ : ∃ Z, Z = List.replicate 32 (0 : Int) := ⟨_, rfl⟩
  have lZ : Hid (Z.length = 32 ∧ Bys Z) := by rw [hZ]; exact ⟨rfl, noughts _⟩
  have hz : ∀ W : World, (zeroValue 24).run Try.prog W = .ok (.agg (vs .u8 Z)) W := fun W => by rw [hZ]; exact zeroA32 W
  have sZ : Hid ((Try.prog.info? 24).map (·.size) = some (vs .u8 Z).size) := by show _ = _; rw [szA32, vs_size, lZ.out.1]
  have CE0 : ∀ W, Calls Try.prog 18 #[.agg (vs .u8 Z), .slice none 0 0, .int .i64 0] W fun e w' => ∃ A c, e = .returned (.tuple #[.slice A 0 c, .int .i64 0]) ∧ Fr (fun _ => False) W w' := fun W => by
    refine (kexpand_is Z 0 none 0 0 [] 0 W lZ.out.1 lZ.out.2 (Sl.nil _ _) (by decide)).mono ?_
    rintro e w' ⟨v, rfl, hn, hf⟩
    obtain ⟨A, c, rfl⟩ := hn.shape
    exact ⟨A, c, rfl, hf⟩
  have CEn : ∀ W, Calls Try.prog 18 #[.agg (vs .u8 Z), .slice none 0 0, .int .i64 (-1)] W fun e w' => ∃ A n c, e = .returned (.tuple #[.slice A n c, .int .i64 2]) ∧ Fr (fun _ => False) W w' := fun W => by
    refine (kexpand_is Z 0 none 0 0 [] (-1) W lZ.out.1 lZ.out.2 (Sl.nil _ _) (by decide)).mono ?_
    rintro e w' ⟨v, rfl, hn, hf⟩
    obtain ⟨A, c, rfl⟩ := hn.shape
    exact ⟨A, _, c, rfl, hf⟩
  have CEm : ∀ W, Calls Try.prog 18 #[.agg (vs .u8 Z), .slice none 0 0, .int .i64 8161] W fun e w' => ∃ A n c, e = .returned (.tuple #[.slice A n c, .int .i64 5]) ∧ Fr (fun _ => False) W w' := fun W => by
    refine (kexpand_is Z 0 none 0 0 [] 8161 W lZ.out.1 lZ.out.2 (Sl.nil _ _) (by decide)).mono ?_
    rintro e w' ⟨v, rfl, hn, hf⟩
    obtain ⟨A, c, rfl⟩ := hn.shape
    exact ⟨A, _, c, rfl, hf⟩
  have CEl : ∀ W, Calls Try.prog 18 #[.agg (vs .u8 Z), .slice none 0 0, .int .i64 (-9223372036854775808)] W fun e w' => ∃ A n c, e = .returned (.tuple #[.slice A n c, .int .i64 2]) ∧ Fr (fun _ => False) W w' := fun W => by
    refine (kexpand_is Z 0 none 0 0 [] (-9223372036854775808) W lZ.out.1 lZ.out.2 (Sl.nil _ _) (by decide)).mono ?_
    rintro e w' ⟨v, rfl, hn, hf⟩
    obtain ⟨A, c, rfl⟩ := hn.shape
    exact ⟨A, _, c, rfl, hf⟩
  have CEa : ∀ W g, Sl W g (.slice (some ⟨g, 0, none⟩) 1 1) [1] → Calls Try.prog 18 #[.agg (vs .u8 Z), .slice (some ⟨g, 0, none⟩) 1 1, .int .i64 8160] W fun e w' => ∃ A c, e = .returned (.tuple #[.slice A 8160 c, .int .i64 0]) ∧ Fr (fun _ => False) W w' := fun W g hs => by
    refine (kexpand_is Z g _ 1 1 [1] 8160 W lZ.out.1 lZ.out.2 hs (by decide)).mono ?_
    rintro e w' ⟨v, rfl, hn, hf⟩
    obtain ⟨e1, e2⟩ := expv_len Z [1] 8160 (by decide)
    rw [show ((8160 : Nat) : Int) = 8160 from rfl] at e1
    rw [e1] at hn
    obtain ⟨A, c, rfl⟩ := hn.shape
    exact ⟨A, c, by rw [e1]; dsimp only; rw [e2], hf⟩
  obtain ⟨R0, hR0⟩ : ∃ R, R = hm [] [] := ⟨_, rfl⟩
  obtain ⟨R5, hR5⟩ : ∃ R, R = hm lo65 [] := ⟨_, rfl⟩
  have lR0 : Hid (R0.length = 32) := by show _ = _; rw [hR0]; exact hm_length _ _
  have lR5 : Hid (R5.length = 32) := by show _ = _; rw [hR5]; exact hm_length _ _
  have HEQ : ∀ W, (Op.equalIn 10000 24 (.agg (vs .u8 R0)) (.agg (vs .u8 R0))).run Try.prog W = .ok true W := fun W => (eq32 R0 R0 lR0.out lR0.out W).trans (by rw [decide_eq_true rfl])
  have HNE : ∀ W, (Op.equalIn 10000 24 (.agg (vs .u8 R5)) (.agg (vs .u8 R0))).run Try.prog W = .ok false W := fun W => (eq32 R5 R0 lR5.out lR0.out W).trans (by rw [decide_eq_false (by rw [hR0, hR5]; exact lo_not)])
  obtain ⟨L5, hL5⟩ : ∃ L, L = lo65 := ⟨_, rfl⟩
  obtain ⟨L4, hL4⟩ : ∃ L, L = lo64 := ⟨_, rfl⟩
  obtain ⟨L3, hL3⟩ : ∃ L, L = lo63 := ⟨_, rfl⟩
  have E5 : Hid (L5 = List.replicate 65 0) := by show _ = _; rw [hL5]; rfl
  have l5 : Hid (L5.length = 65 ∧ Bys L5) := by rw [hL5]; exact ⟨rfl, noughts _⟩
  have T4 : Unit → L5.take 64 = L4 := fun _ => by rw [hL5, hL4]; exact lo64_is
  have T3 : Unit → L5.take 63 = L3 := fun _ => by rw [hL5, hL3]; exact lo63_is
  have CH0 : ∀ W, Calls Try.prog 12 #[.slice none 0 0, .slice none 0 0] W fun e w' => e = .returned (.agg (vs .u8 R0)) ∧ Fr (fun _ => False) W w' := fun W => by
    rw [hR0]
    exact khmac_is 0 none 0 0 [] 0 none 0 0 [] W (Sl.nil _ _) (by decide) (Sl.nil _ _) (by decide)
  have CH4 : ∀ W g c, Sl W g (.slice (some ⟨g, 0, none⟩) 64 c) L4 → Calls Try.prog 12 #[.slice (some ⟨g, 0, none⟩) 64 c, .slice none 0 0] W fun e w' => e = .returned (.agg (vs .u8 R0)) ∧ Fr (fun _ => False) W w' := fun W g c hs => by
    rw [hR0, ← lo_same, ← hL4]
    exact khmac_is g _ 64 c L4 0 none 0 0 [] W hs (by decide) (Sl.nil _ _) (by decide)
  have CH5 : ∀ W g c, Sl W g (.slice (some ⟨g, 0, none⟩) 65 c) L5 → Calls Try.prog 12 #[.slice (some ⟨g, 0, none⟩) 65 c, .slice none 0 0] W fun e w' => e = .returned (.agg (vs .u8 R5)) ∧ Fr (fun _ => False) W w' := fun W g c hs => by
    rw [hR5, ← hL5]
    exact khmac_is g _ 65 c L5 0 none 0 0 [] W hs (by decide) (Sl.nil _ _) (by decide)
  clear hZ hR0 hR5 hL5 hL4 hL3
  go_enter Try.func10, Try.ntmps10
  go_upto_region 2 with (fail)
  obtain ⟨bx, hbx⟩ : ∃ x, x = w.heap.size := ⟨_, rfl⟩
  have K0 : Hid (Ar (w.alloc (.cells (vs .u8 Z) 24)) bx 24 .u8 Z) := by rw [hbx]; exact Ar.new w 24 .u8 Z
  have F0 : Hid (Fr (fun _ => False) w (w.alloc (.cells (vs .u8 Z) 24))) := (Fr.refl _ _).alloc _
  rw [← hbx]
  generalize w.alloc (.cells (vs .u8 Z) 24) = W0 at *
  clear hbx hz
  try simp only [Act.put, List.setIfInBounds_toArray, List.set_cons_succ, List.set_cons_zero]
  go_upto_region 3 with (first
    | refine wpList_load_row rfl 24 (.tmp 1) rfl bx rfl 24 (vs .u8 Z) (0, 0) _ K0.out Try.underlying24 rfl sZ.out ?_
    | (go_at_call 18; refine (CE0 _).mono ?_; rintro e w1 ⟨A1, c1, rfl, hf⟩; have K1 := Lib.hid (K0.out.fr hf (fun x => x)); have F1 := Lib.hid (F0.out.trans hf); clear hf))
  clear K0 F0 CE0
  go_upto_region 4 with (first
    | refine wpList_load_row rfl 24 (.tmp 1) rfl bx rfl 24 (vs .u8 Z) (0, 0) _ K1.out Try.underlying24 rfl sZ.out ?_
    | (go_at_call 18; refine (CEn _).mono ?_; rintro e w2 ⟨A2, n2, c2, rfl, hf⟩; have K2 := Lib.hid (K1.out.fr hf (fun x => x)); have F2 := Lib.hid (F1.out.trans hf); clear hf))
  clear K1 F1 CEn
  go_upto_region 5 with (first
    | refine wpList_load_row rfl 24 (.tmp 1) rfl bx rfl 24 (vs .u8 Z) (0, 0) _ K2.out Try.underlying24 rfl sZ.out ?_
    | (go_at_call 18; refine (CEm _).mono ?_; rintro e w3 ⟨A3, n3, c3, rfl, hf⟩; have K3 := Lib.hid (K2.out.fr hf (fun x => x)); have F3 := Lib.hid (F2.out.trans hf); clear hf))
  clear K2 F2 CEm
  have LS : Hid (Sl (w3.alloc (.cells #[.int .u8 1] 5)) w3.heap.size (.slice (some ⟨w3.heap.size, 0, none⟩) 1 1) [1]) := lit_sl w3 1 (by decide)
  go_upto_region 6 with (first
    | refine wpList_load_row rfl 24 (.tmp 1) rfl bx rfl 24 (vs .u8 Z) (0, 0) _ K3.out Try.underlying24 rfl sZ.out ?_
    | (go_at_call 18; refine (CEa _ w3.heap.size LS.out).mono ?_; rintro e w4 ⟨A4, c4, rfl, hf⟩; have K4 := Lib.hid ((K3.out.alloc _).fr hf (fun x => x)); have F4 := Lib.hid ((F3.out.alloc _).trans hf); clear hf))
  clear K3 F3 CEa LS
  go_upto_region 7 with (first
    | refine wpList_load_row rfl 24 (.tmp 1) rfl bx rfl 24 (vs .u8 Z) (0, 0) _ K4.out Try.underlying24 rfl sZ.out ?_
    | (go_at_call 18; refine (CEl _).mono ?_; rintro e w5 ⟨A5, n5, c5, rfl, hf⟩; have F5 := Lib.hid (F4.out.trans hf); clear hf))
  clear K4 F4 CEl
  go_upto_region 8 with (refine wpList_make rfl _ _ rfl 65 (by decide) rfl rfl L5 E5.out ?_)
  obtain ⟨q, hq⟩ : ∃ q, q = w5.heap.size := ⟨_, rfl⟩
  have B6 : Hid (Ar (w5.alloc (.cells (vs .u8 L5) 5)) q 5 .u8 L5) := by rw [hq]; exact Ar.new w5 5 .u8 L5
  have F6 : Hid (Fr (fun _ => False) w (w5.alloc (.cells (vs .u8 L5) 5))) := F5.out.alloc _
  rw [← hq]
  generalize w5.alloc (.cells (vs .u8 L5) 5) = w6 at *
  clear hq F5 E5
  try simp only [Act.put, List.setIfInBounds_toArray, List.set_cons_succ, List.set_cons_zero]
  have S5 := Lib.hid (B6.out.slt l5.out.2 l5.out.1 (by decide))
  have S4 : Hid (Sl w6 q (.slice (some ⟨q, 0, none⟩) 64 65) L4) := by have h := S5.out.take 64 (by rw [l5.out.1]; decide); rwa [T4 ()] at h
  have S3 : Hid (Sl w6 q (.slice (some ⟨q, 0, none⟩) 63 65) L3) := by have h := S5.out.take 63 (by rw [l5.out.1]; decide); rwa [T3 ()] at h
  clear B6 T4 T3
  have tk1 : True := trivial
  go_upto_region 9 with (first
    | (go_at_call 12; refine (CH4 _ q 65 S4.out).mono ?_; rintro e w7 ⟨rfl, hf⟩; have G7 := Lib.hid hf; clear hf)
    | (go_at_call 12; clear tk1; refine (CH0 _).mono ?_; rintro e w8 ⟨rfl, hf⟩; have G8 := Lib.hid (G7.out.trans hf); clear hf)
    | (go_at_call 12; refine (CH5 _ q 65 (S5.out.fr G8.out (fun _ x => x))).mono ?_; rintro e w9 ⟨rfl, hf⟩; have G9 := Lib.hid (G8.out.trans hf); clear hf)
    | (go_at_call 12; refine (CH0 _).mono ?_; rintro e w10 ⟨rfl, hf⟩; have G10 := Lib.hid (G9.out.trans hf); clear hf))
  have F10 := Lib.hid (F6.out.trans G10.out)
  replace S5 := Lib.hid (S5.out.fr G10.out (fun _ x => x))
  replace S4 := Lib.hid (S4.out.fr G10.out (fun _ x => x))
  replace S3 := Lib.hid (S3.out.fr G10.out (fun _ x => x))
  clear G7 G8 G9 G10 F6 CH0 CH4 CH5 HEQ HNE
  have CI5 : ∀ W g, Sl W q (.slice (some ⟨q, 0, none⟩) 65 65) L5 → Sl W g (.slice (some ⟨g, 0, none⟩) 1 1) [3] → Calls Try.prog 25 #[.slice (some ⟨q, 0, none⟩) 65 65, .slice (some ⟨g, 0, none⟩) 1 1] W fun e w' => e = .returned (.bool true) ∧ Fr (fun _ => False) W w' := fun W g h1 h2 => inner_is q _ 65 65 L5 g _ 1 1 [3] W h1 (by decide) h2 (by decide)
  have CI4 : ∀ W, Sl W q (.slice (some ⟨q, 0, none⟩) 64 65) L4 → Calls Try.prog 25 #[.slice (some ⟨q, 0, none⟩) 64 65, .slice none 0 0] W fun e w' => e = .returned (.bool true) ∧ Fr (fun _ => False) W w' := fun W h1 => inner_is q _ 64 65 L4 0 none 0 0 [] W h1 (by decide) (Sl.nil _ _) (by decide)
  have CI3 : ∀ W g, Sl W q (.slice (some ⟨q, 0, none⟩) 63 65) L3 → Sl W g (.slice (some ⟨g, 0, none⟩) 1 1) [3] → Calls Try.prog 25 #[.slice (some ⟨q, 0, none⟩) 63 65, .slice (some ⟨g, 0, none⟩) 1 1] W fun e w' => e = .returned (.bool true) ∧ Fr (fun _ => False) W w' := fun W g h1 h2 => inner_is q _ 63 65 L3 g _ 1 1 [3] W h1 (by decide) h2 (by decide)
  have tk2 : True := trivial
  have tk3 : True := trivial
  go_wp2_with (first
    | (go_at_call 15; refine (works_is _).mono ?_; rintro e w11 ⟨rfl, hf⟩; have G11 := Lib.hid hf; clear hf)
    | (go_at_call 25; clear tk2; refine (CI5 _ w11.heap.size (S5.out.fr (G11.out.alloc _) (fun _ x => x)) (lit_sl w11 3 (by decide))).mono ?_; rintro e w12 ⟨rfl, hf⟩; have G12 := Lib.hid ((G11.out.alloc _).trans hf); clear hf)
    | (go_at_call 25; clear tk3; refine (CI4 _ (S4.out.fr G12.out (fun _ x => x))).mono ?_; rintro e w13 ⟨rfl, hf⟩; have G13 := Lib.hid (G12.out.trans hf); clear hf)
    | (go_at_call 25; refine (CI3 _ w13.heap.size (S3.out.fr (G13.out.alloc _) (fun _ x => x)) (lit_sl w13 3 (by decide))).mono ?_; rintro e w14 ⟨rfl, hf⟩; have G14 := Lib.hid ((G13.out.alloc _).trans hf); clear hf))
  go_ret
  exact ⟨rfl, F10.out.trans G14.out⟩

set_option maxRecDepth 100000 in
theorem law_known_lifted (os : Os) (started : os.Started) (H : Type) (enc : TypeId × Value → H) :
    ReturnsInHanded {} Try.checked os 10 .any (Rows.kdfKnownSpec.pre6 enc Try.prog Try.f10 Rows.kdfKnownRow.domain false) (Rows.kdfKnownSpec.post enc Try.prog Try.f10 false true false false) := by
  refine returnsInHanded_of_change (C := Try.checked) own started (by kernel_rfl) Try.func10
    (ChangeSpec.witness6 (enc := enc) (C := Try.checked) false ⟨#[], #[], []⟩ 8 (by kernel_rfl) (by kernel_rfl) (by kernel_rfl) (by kernel_rfl)) ?_
  intro W base args ds gs before hval0 hW hcnd _
  have hval : ∀ (j : Nat) t v, Try.f10.params[j]? = some t → args[j]? = some v → Value.okWide Try.prog W .any base t v := hval0
  have hW' := hW
  obtain ⟨p, q, hA0, hV, rfl, hfz, hnd⟩ := hW
  have hA : DataW.TrodAll enc Try.prog W 0 (fun _ => true) true Try.f10.params.toList args.toList ds p := hA0
  rw [Try.params10] at hA hval
  obtain ⟨hargs, rfl, rfl⟩ := trodAll_nil hA
  obtain rfl : args = #[] := by cases args; simp_all
  obtain ⟨rfl, rfl⟩ := trodVars_none hV
  clear hA0 hval0
  refine (law_known_any  W ).mono fun e W' ⟨he, hg⟩ => ?_
  subst he
  exact ⟨_, rfl, post_true rfl hW' (by kernel_rfl) rfl rfl hg⟩

theorem kdfKnown_holds : Rows.KdfKnownSaid :=
  OpenClaim.holds_of_wide 10 Try.f10 rfl rfl rfl rfl rfl rfl rfl ⟨rfl, rfl, rfl, rfl, rfl⟩ rfl rfl rfl rfl rfl (by kernel_rfl) Try.func10 (by kernel_rfl)
    (of_decide_eq_true (by kernel_rfl)) (by unfold Func.isWrapper; first | (rw [if_pos (by decide +kernel)]; kernel_rfl) | (rw [if_neg (by decide +kernel)]; exact ⟨rfl, rfl⟩))
    (fun os started H enc _ => law_known_lifted os started H enc)
#print axioms kdfKnown_holds
end Go.Proofs.Ytebknlhooijkcaa
