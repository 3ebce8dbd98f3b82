/- ChachaKnown answers true: the given statement ChachaKnownSaid. No condition. -/
import Derived.Test.YtnagnolbomcnjaaStr
namespace Go.Proofs.Ytnagnolbomcnjaa
set_option linter.unusedSimpArgs false
set_option linter.unusedVariables false
set_option linter.unusedVariables false
open Go.ChangeShapes Go.WideShapes Go.ChangeAt Go.RowKit

theorem keyL_get (i : Nat) (h : i < 32) : keyL[i]? = some (i : Int) := by
  have e : keyL = (List.range 32).map fun (j : Nat) => (j : Int) := by decide
  rw [e]
  simp [h]
theorem Ar.slT {w : World} {g m : Nat} {t : TypeId} {l : List Int} (h : Ar w g t .u8 l) (hb : Bys l) (hl : l.length = m) (hm : m ≤ maxLen) : Sl w g (.slice (some ⟨g, 0, none⟩) m m) l := by
  subst hl
  exact Sl.block hb h (fun j _ => by rw [vs_bs]; simp) (Nat.le_refl _) hm
theorem Sl.low' {w : World} {g : Nat} {v : Value} {l : List Int} (h : Sl w g v l) (hl : 0 < l.length) : g < w.heap.size := by
  obtain ⟨_, _, _, _, _, _, hx⟩ := h
  obtain ⟨_, _, hg, _⟩ := hx (by intro e; rw [e] at hl; simp at hl)
  exact hg
theorem drop60 {w : World} {g : Nat} {t : TypeId} {l k : List Int} (h : Ar w g t .u8 l) (hb : Bys l) (hl : l.length = 64) (hk : l.drop 60 = k) : Sl w g (.slice (some ⟨g, 60, none⟩) 4 4) k := by
  have h2 := (h.slT hb hl (by decide)).drop 60 (by omega)
  rw [if_neg (by decide), hl, Option.map_some, Addr_add_none, hk] at h2
  exact h2
set_option maxRecDepth 100000 in
set_option maxHeartbeats 16000000 in
theorem law_known_any (w : World) : Calls Try.prog 12 #[] w fun e w' => e = .returned (.bool true) ∧ Fr (fun _ => False) w w' := by
  have CW := works_is
  obtain ⟨KY, hKY⟩ : ∃ K, keyL = K := ⟨_, rfl⟩
  obtain ⟨M1, hM1⟩ : ∃ K, n1L = K := ⟨_, rfl⟩
  obtain ⟨M2, hM2⟩ : ∃ K, n2L = K := ⟨_, rfl⟩
  obtain ⟨TT, hTT⟩ : ∃ K, txL = K := ⟨_, rfl⟩
  have kl : KY.length = 32 := by rw [← hKY]; rfl
  have kb : Bys KY := by rw [← hKY]; unfold Bys; decide
  have nl : M1.length = 12 := by rw [← hM1]; rfl
  have nb' : Bys M1 := by rw [← hM1]; unfold Bys; decide
  have ml : M2.length = 12 := by rw [← hM2]; rfl
  have mb : Bys M2 := by rw [← hM2]; unfold Bys; decide
  have tl' : TT.length = 114 := by rw [← hTT]; rfl
  have tb : Bys TT := by rw [← hTT]; unfold Bys; decide
  have HKG : Unit → ∀ i : Nat, i < 32 → KY[i]? = some (i : Int) := fun _ i hi => by rw [← hKY]; exact keyL_get i hi
  have v1 : Unit → #[.int .u8 0, .int .u8 0, .int .u8 0, .int .u8 9, .int .u8 0, .int .u8 0, .int .u8 0, .int .u8 74, .int .u8 0, .int .u8 0, .int .u8 0, .int .u8 0] = vs .u8 M1 := fun _ => by rw [← hM1]; rfl
  have v2 : Unit → #[.int .u8 0, .int .u8 0, .int .u8 0, .int .u8 0, .int .u8 0, .int .u8 0, .int .u8 0, .int .u8 74, .int .u8 0, .int .u8 0, .int .u8 0, .int .u8 0] = vs .u8 M2 := fun _ => by rw [← hM2]; rfl
  have w1' : Wd 1 := ⟨by decide, by decide⟩
  have wl : Wd 4294967295 := ⟨by decide, by decide⟩
  have wm : Wd 4294967294 := ⟨by decide, by decide⟩
  obtain ⟨S1, hS1⟩ : ∃ S, bk64 KY 1 M1 = S := ⟨_, rfl⟩
  have sl1 : S1.length = 64 := by rw [← hS1]; exact bk64_length kl kb w1' nl nb'
  have sb1 : Bys S1 := by rw [← hS1]; exact bk64_bys _ _ _
  obtain ⟨L16, hL16⟩ : ∃ L : List Int, L = [16, 241, 231, 228, 209, 59, 89, 21, 80, 15, 221, 31, 163, 32, 113, 196] := ⟨_, rfl⟩
  obtain ⟨L4, hL4⟩ : ∃ L : List Int, L = [162, 80, 60, 78] := ⟨_, rfl⟩
  obtain ⟨L8, hL8⟩ : ∃ L : List Int, L = [110, 46, 53, 154, 37, 104, 249, 128] := ⟨_, rfl⟩
  have s16 : S1.take 16 = L16 := by rw [← hS1, ← hKY, ← hM1, kn16, hL16]
  have s4 : S1.drop 60 = L4 := by rw [← hS1, ← hKY, ← hM1, kn4, hL4]
  obtain ⟨XT, hXT⟩ : ∃ S, xo KY 1 M2 TT = S := ⟨_, rfl⟩
  have x8' : XT.take 8 = L8 := by rw [← hXT, ← hKY, ← hM2, ← hTT, kn8, hL8]
  have xl : XT.length = 114 := by rw [← hXT, xo_length, tl']
  have xb : Bys XT := by rw [← hXT]; exact xo_bys' tb
  obtain ⟨TL, hTL⟩ : ∃ S, bk64 KY 4294967295 M1 = S := ⟨_, rfl⟩
  have tll : TL.length = 64 := by rw [← hTL]; exact bk64_length kl kb wl nl nb'
  have tlb : Bys TL := by rw [← hTL]; exact bk64_bys _ _ _
  have HXB : Unit → xo KY 4294967295 M1 (List.replicate 64 0) = TL := fun _ => by rw [xo_block kl kb wl nl nb', hTL]
  have y16 : Unit → #[.int .u8 16, .int .u8 241, .int .u8 231, .int .u8 228, .int .u8 209, .int .u8 59, .int .u8 89, .int .u8 21, .int .u8 80, .int .u8 15, .int .u8 221, .int .u8 31, .int .u8 163, .int .u8 32, .int .u8 113, .int .u8 196] = vs .u8 L16 := fun _ => by rw [hL16]; rfl
  have y4 : Unit → #[.int .u8 162, .int .u8 80, .int .u8 60, .int .u8 78] = vs .u8 L4 := fun _ => by rw [hL4]; rfl
  have y8 : Unit → #[.int .u8 110, .int .u8 46, .int .u8 53, .int .u8 154, .int .u8 37, .int .u8 104, .int .u8 249, .int .u8 128] = vs .u8 L8 := fun _ => by rw [hL8]; rfl
  have C1 : ∀ W, Calls Try.prog 16 #[.agg (vs .u8 KY), .int .u32 1, .agg (vs .u8 M1)] W fun e w' => e = .returned (.agg (vs .u8 S1)) ∧ Fr (fun _ => False) W w' := fun W => by rw [← hS1]; exact blockK_is KY 1 M1 W kl kb w1' nl nb'
  have C2 : ∀ W, Calls Try.prog 16 #[.agg (vs .u8 KY), .int .u32 4294967295, .agg (vs .u8 M1)] W fun e w' => e = .returned (.agg (vs .u8 TL)) ∧ Fr (fun _ => False) W w' := fun W => by rw [← hTL]; exact blockK_is KY 4294967295 M1 W kl kb wl nl nb'
  have hz0 : ∀ W : World, (zeroValue 28).run Try.prog W = .ok (.agg (vs .u8 (fil KY 0 0))) W := fun W => by rw [fil_zero, kl]; kernel_rfl
  obtain ⟨Y, hY⟩ : ∃ Y, Y = List.replicate 64 (0 : Int) := ⟨_, rfl⟩
  have hz : ∀ W : World, (zeroValue 32).run Try.prog W = .ok (.agg (vs .u8 Y)) W := fun W => by rw [hY]; exact zero64 W
  have eS : Hid ((vs .u8 Y).size = (vs .u8 S1).size) := by show _ = _; rw [vs_size, vs_size, sl1, hY]; rfl
  have eT : Hid ((vs .u8 Y).size = (vs .u8 TL).size) := by show _ = _; rw [vs_size, vs_size, tll, hY]; rfl
  have ik : Hid ((Try.prog.info? 28).map (·.size) = some (vs .u8 KY).size) := by show _ = _; rw [size28, vs_size, kl]
  have iN : Hid ((Try.prog.info? 29).map (·.size) = some (vs .u8 M1).size) := by show _ = _; rw [size29, vs_size, nl]
  have iS : Hid ((Try.prog.info? 32).map (·.size) = some (vs .u8 S1).size) := by show _ = _; rw [size64, vs_size, sl1]
  have iT : Hid ((Try.prog.info? 32).map (·.size) = some (vs .u8 TL).size) := by show _ = _; rw [size64, vs_size, tll]
  have HK := Lib.hid (And.intro kl kb)
  have HN := Lib.hid (And.intro nl nb')
  have HM := Lib.hid (And.intro ml mb)
  have HT := Lib.hid (And.intro tl' tb)
  have HS := Lib.hid (And.intro sl1 (And.intro sb1 (And.intro s16 s4)))
  have HX := Lib.hid (And.intro xl (And.intro xb x8'))
  have HL := Lib.hid (And.intro tll tlb)
  have HXT : Unit → xo KY 1 M2 TT = XT := fun _ => hXT
  have HTT : Unit → txL = TT := fun _ => hTT
  have b16 : Hid (Bys L16 ∧ L16.length = 16) := by rw [hL16]; exact ⟨by unfold Bys; decide, rfl⟩
  have b4 : Hid (Bys L4 ∧ L4.length = 4) := by rw [hL4]; exact ⟨by unfold Bys; decide, rfl⟩
  have b8 : Hid (Bys L8 ∧ L8.length = 8) := by rw [hL8]; exact ⟨by unfold Bys; decide, rfl⟩
  clear hKY hM1 hM2 hTT kl kb nl nb' ml mb tl' tb hS1 sl1 sb1 hL16 hL4 hL8 s16 s4 hXT x8' xl xb hTL tll tlb hY
  go_enter Try.func12, Try.ntmps12
  go_upto_region 2 with (fail)
  generalize hW : w.alloc (.cells (vs .u8 (fil KY 0 0)) 28) = W0
  have HW := Lib.hid (calm1a hW)
  have K0 : Hid (Ar W0 w.heap.size 28 .u8 (fil KY 0 0)) := HW.out.1
  have F0 : Hid (Fr (fun _ => False) w W0) := HW.out.2
  clear hW HW hz0
  try simp only [Act.put, List.setIfInBounds_toArray, List.set_cons_succ, List.set_cons_zero]
  go_wp2
  go_loopw [2] (fun u2 wr => ∃ i : Nat, u2 = .int .i64 i ∧ i ≤ 32 ∧ Hid (Ar wr w.heap.size 28 .u8 (fil KY i 0)) ∧ Hid (Fr (fun _ => False) w wr))
    (fun u2 _ => 32 - (intOf u2).toNat)
  case atStart => exact ⟨0, rfl, by omega, K0, F0⟩
  case round =>
    obtain ⟨i, rfl, hi, hK, hF⟩ := hrel
    by_cases hil : i < 32
    · have hg := HKG () i hil
      have c1 := Ar.cell hK.out (fil_get KY i 0 (by rw [HK.out.1]; exact hil))
      have f1 := Ar.frozen hK.out i
      have K2 := Lib.hid (hK.out.set i (i : Int))
      rw [fil_set KY i 0 _ hg] at K2
      have F2 : Hid (Fr (fun _ => False) w (wr.setCell ⟨w.heap.size, i, none⟩ (.int .u8 (i : Int)))) := hF.out.setCell _ (.inr (Nat.le_refl _))
      have u1 : IntKind.u8.wrap (i : Int) = i := by rw [IntKind.wrap_u8]; omega
      clear hg hK hF
      go_wp2
      go_roundw
      case rel => exact ⟨i + 1, by go_num, by omega, K2, F2⟩
      case measure => simp [intOf]; omega
    · have i32 : i = 32 := by omega
      have K3 : Hid (Ar wr w.heap.size 28 .u8 KY) := by
        have h := hK.out
        have e := fil_all KY (0 : Int)
        rw [HK.out.1] at e
        rwa [i32, e] at h
      clear i32 hK
      go_upto_region 7 with (fail)
      simp only [v1 ()]
      obtain ⟨nq, hnq⟩ : ∃ q, q = wr.heap.size := ⟨_, rfl⟩
      have N4 : Hid (Ar (wr.alloc (.cells (vs .u8 M1) 29)) nq 29 .u8 M1) := by rw [hnq]; exact Ar.new wr 29 .u8 M1
      have K4 := Lib.hid (K3.out.alloc (.cells (vs .u8 M1) 29))
      have F4 := Lib.hid (hF.out.alloc (.cells (vs .u8 M1) 29))
      rw [← hnq]
      generalize wr.alloc (.cells (vs .u8 M1) 29) = W4 at *
      clear K3 hF hnq
      try simp only [Act.put, List.setIfInBounds_toArray, List.set_cons_succ, List.set_cons_zero]
      go_upto_region 8 with (first
        | (go_at_call 16; refine (C1 _).mono ?_; rintro e w5 ⟨rfl, hf⟩; replace K4 := Lib.hid (K4.out.fr hf (fun x => x)); replace N4 := Lib.hid (N4.out.fr hf (fun x => x)); replace F4 := Lib.hid (F4.out.trans hf); clear hf)
        | refine wpList_load_row rfl 28 (.tmp 1) rfl w.heap.size rfl 28 (vs .u8 KY) (0, 0) _ K4.out Try.underlying28 rfl ik.out ?_
        | refine wpList_load_row rfl 29 (.tmp 3) rfl nq rfl 29 (vs .u8 M1) (0, 0) _ N4.out Try.underlying29 rfl iN.out ?_
        | refine wpList_store_row rfl 32 (.tmp 4) (.tmp 33) rfl w5.heap.size (vs .u8 S1) rfl rfl 32 (vs .u8 Y) (heap_alloc_new w5 (.cells (vs .u8 Y) 32)) iS.out eS.out (vs_all _ _) ?_)
      obtain ⟨sq, hsq⟩ : ∃ q, q = w5.heap.size := ⟨_, rfl⟩
      have FQ : Fr (fun _ => False) w5 ((w5.alloc (.cells (vs .u8 Y) 32)).setRow w5.heap.size (vs .u8 S1)) := ((Fr.refl _ w5).alloc _).setRow _ (.inr (Nat.le_refl _))
      have K5 := Lib.hid (K4.out.fr FQ (fun x => x))
      have N5 := Lib.hid (N4.out.fr FQ (fun x => x))
      have F5 := Lib.hid (F4.out.trans FQ)
      have S5 : Hid (Ar ((w5.alloc (.cells (vs .u8 Y) 32)).setRow w5.heap.size (vs .u8 S1)) sq 32 .u8 S1) := by rw [hsq]; exact (Ar.new w5 32 .u8 Y).row S1
      rw [← hsq] at K5 N5 F5 S5 ⊢
      generalize (w5.alloc (.cells (vs .u8 Y) 32)).setRow sq (vs .u8 S1) = W6 at *
      clear K4 N4 F4 FQ hsq C1 iS eS
      try simp only [Act.put, List.setIfInBounds_toArray, List.set_cons_succ, List.set_cons_zero]
      have E1 : Hid (Sl (W6.alloc (.cells (vs .u8 L16) 5)) sq (.slice (some ⟨sq, 0, none⟩) 16 64) L16) := by
        have h := ((S5.out.alloc (.cells (vs .u8 L16) 5)).slT HS.out.2.1 HS.out.1 (by decide)).take 16 (by rw [HS.out.1]; decide)
        rw [HS.out.2.2.1] at h
        exact h
      have E2 : Hid (Sl (W6.alloc (.cells (vs .u8 L16) 5)) W6.heap.size (.slice (some ⟨W6.heap.size, 0, none⟩) 16 16) L16) := (Ar.new W6 5 .u8 L16).slT b16.out.1 b16.out.2 (by decide)
      have tk1 : True := trivial
      go_upto_region 9 with (first
        | (go_at_call 21; clear tk1; rw [y16 ()]; refine (eqBytes_any sq W6.heap.size _ _ _ _ _ _ L16 L16 (W6.alloc (.cells (vs .u8 L16) 5)) E1.out E2.out).mono ?_; rintro e w' ⟨rfl, n1, rfl⟩; replace K5 : Hid (Ar ((W6.alloc (.cells (vs .u8 L16) 5)).drewN n1) w.heap.size 28 .u8 KY) := K5.out.alloc _; replace N5 : Hid (Ar ((W6.alloc (.cells (vs .u8 L16) 5)).drewN n1) nq 29 .u8 M1) := N5.out.alloc _; replace S5 : Hid (Ar ((W6.alloc (.cells (vs .u8 L16) 5)).drewN n1) sq 32 .u8 S1) := S5.out.alloc _; replace F5 : Hid (Fr (fun _ => False) w ((W6.alloc (.cells (vs .u8 L16) 5)).drewN n1)) := (F5.out.alloc _).drewN n1; clear E1 E2; generalize (W6.alloc (.cells (vs .u8 L16) 5)).drewN n1 = W7 at *)
        | (go_at_call 21; rw [y4 ()]; refine (eqBytes_any sq W7.heap.size _ _ _ _ _ _ L4 L4 (W7.alloc (.cells (vs .u8 L4) 5)) (drop60 (S5.out.alloc _) HS.out.2.1 HS.out.1 HS.out.2.2.2) ((Ar.new W7 5 .u8 L4).slT b4.out.1 b4.out.2 (by decide))).mono ?_; rintro e w' ⟨rfl, n1, rfl⟩; replace K5 : Hid (Ar ((W7.alloc (.cells (vs .u8 L4) 5)).drewN n1) w.heap.size 28 .u8 KY) := K5.out.alloc _; replace N5 : Hid (Ar ((W7.alloc (.cells (vs .u8 L4) 5)).drewN n1) nq 29 .u8 M1) := N5.out.alloc _; clear S5; replace F5 : Hid (Fr (fun _ => False) w ((W7.alloc (.cells (vs .u8 L4) 5)).drewN n1)) := (F5.out.alloc _).drewN n1; generalize (W7.alloc (.cells (vs .u8 L4) 5)).drewN n1 = W8 at *))
      try simp only [Act.put, List.setIfInBounds_toArray, List.set_cons_succ, List.set_cons_zero]
      go_upto_region 11 with (first
        | refine wpList_load_row rfl 28 (.tmp 1) rfl w.heap.size rfl 28 (vs .u8 KY) (0, 0) _ K5.out Try.underlying28 rfl ik.out ?_
        | (refine wpList_str rfl (.tmp 45) _ rfl rfl 114 TT (by rfl) (by rw [← HTT ()]; decide +kernel) (by decide) ?_; intro cp W9 hsl hf; replace K5 := Lib.hid (K5.out.fr hf (fun x => x)); replace N5 := Lib.hid (N5.out.fr hf (fun x => x)); replace F5 := Lib.hid (F5.out.trans hf); have HSL := Lib.hid hsl; clear hf hsl)
        | (go_at_call 19; rw [v2 ()]; refine (xor_ex KY 1 M2 _ _ 114 cp TT _ HK.out.1 HK.out.2 w1' HM.out.1 HM.out.2 HSL.out (by decide) (by decide) (fun _ => by have := HSL.out.low' (by rw [HT.out.1]; decide); exact this)).mono ?_; rintro e W10 ⟨g1, hg1, rfl, ha, hf⟩; replace K5 := Lib.hid (K5.out.fr hf (fun x => x)); replace N5 := Lib.hid (N5.out.fr hf (fun x => x)); replace F5 := Lib.hid (F5.out.trans hf); have A10 : Hid (Ar W10 g1 5 .u8 XT) := by { show _; rw [← HXT ()]; exact ha }; clear hf ha hg1 HSL))
      try simp only [Act.put, List.setIfInBounds_toArray, List.set_cons_succ, List.set_cons_zero]
      have E1 : Hid (Sl (W10.alloc (.cells (vs .u8 L8) 5)) g1 (.slice (some ⟨g1, 0, none⟩) 8 114) L8) := by
        have h := ((A10.out.alloc (.cells (vs .u8 L8) 5)).slT HX.out.2.1 HX.out.1 (by decide)).take 8 (by rw [HX.out.1]; decide)
        rw [HX.out.2.2] at h
        exact h
      go_upto_region 12 with (go_at_call 21; rw [y8 ()]; refine (eqBytes_any g1 W10.heap.size _ _ _ _ _ _ L8 L8 (W10.alloc (.cells (vs .u8 L8) 5)) E1.out ((Ar.new W10 5 .u8 L8).slT b8.out.1 b8.out.2 (by decide))).mono ?_; rintro e w' ⟨rfl, n1, rfl⟩; replace K5 : Hid (Ar ((W10.alloc (.cells (vs .u8 L8) 5)).drewN n1) w.heap.size 28 .u8 KY) := K5.out.alloc _; replace N5 : Hid (Ar ((W10.alloc (.cells (vs .u8 L8) 5)).drewN n1) nq 29 .u8 M1) := N5.out.alloc _; replace F5 : Hid (Fr (fun _ => False) w ((W10.alloc (.cells (vs .u8 L8) 5)).drewN n1)) := (F5.out.alloc _).drewN n1; clear E1 A10; generalize (W10.alloc (.cells (vs .u8 L8) 5)).drewN n1 = W11 at *)
      try simp only [Act.put, List.setIfInBounds_toArray, List.set_cons_succ, List.set_cons_zero]
      go_upto_region 13 with (first
        | refine wpList_load_row rfl 28 (.tmp 1) rfl w.heap.size rfl 28 (vs .u8 KY) (0, 0) _ K5.out Try.underlying28 rfl ik.out ?_
        | refine wpList_load_row rfl 29 (.tmp 3) rfl nq rfl 29 (vs .u8 M1) (0, 0) _ N5.out Try.underlying29 rfl iN.out ?_
        | (go_at_call 19; refine (xor_ex KY 4294967295 M1 0 none 0 0 [] _ HK.out.1 HK.out.2 wl HN.out.1 HN.out.2 (Sl.nil _ 0) (by decide) (by decide) (fun h => absurd h (by decide))).mono ?_; rintro e W12 ⟨g2, hg2, rfl, ha, hf⟩; replace K5 := Lib.hid (K5.out.fr hf (fun x => x)); replace N5 := Lib.hid (N5.out.fr hf (fun x => x)); replace F5 := Lib.hid (F5.out.trans hf); clear hf ha hg2))
      try simp only [Act.put, List.setIfInBounds_toArray, List.set_cons_succ, List.set_cons_zero]
      generalize Value.string { data := #[76, 97, 100, 105, 101, 115, 32, 97, 110, 100, 32, 71, 101, 110, 116, 108, 101, 109, 101, 110, 32, 111, 102, 32, 116, 104, 101, 32, 99, 108, 97, 115, 115, 32, 111, 102, 32, 39, 57, 57, 58, 32, 73, 102, 32, 73, 32, 99, 111, 117, 108, 100, 32, 111, 102, 102, 101, 114, 32, 121, 111, 117, 32, 111, 110, 108, 121, 32, 111, 110, 101, 32, 116, 105, 112, 32, 102, 111, 114, 32, 116, 104, 101, 32, 102, 117, 116, 117, 114, 101, 44, 32, 115, 117, 110, 115, 99, 114, 101, 101, 110, 32, 119, 111, 117, 108, 100, 32, 98, 101, 32, 105, 116, 46] } = sv
      generalize decide ((i : Int) < 32) = bi
      have CNa : ∀ W gm, Calls Try.prog 19 #[.agg (vs .u8 KY), .int .u32 4294967295, .agg (vs .u8 M1), .slice (some ⟨gm, 0, none⟩) 65 65] W fun e w' => e = .returned (.tuple #[.slice none 0 0, .int .i64 5]) ∧ Fr (fun _ => False) W w' := fun W gm => xor_no KY 4294967295 M1 (some ⟨gm, 0, none⟩) 65 65 W wl (by decide) (by decide)
      have CNb : ∀ W gm, Calls Try.prog 19 #[.agg (vs .u8 KY), .int .u32 4294967294, .agg (vs .u8 M1), .slice (some ⟨gm, 0, none⟩) 129 129] W fun e w' => e = .returned (.tuple #[.slice none 0 0, .int .i64 5]) ∧ Fr (fun _ => False) W w' := fun W gm => xor_no KY 4294967294 M1 (some ⟨gm, 0, none⟩) 129 129 W wm (by decide) (by decide)
      refine wp_region_inv2 (fun b a w' => ∃ ga g3 : Nat, Fr (fun _ => False) W12 w' ∧ (b 2 = true → W12.heap.size ≤ ga ∧ Ar w' ga 5 .u8 (List.replicate 64 0)) ∧ (b 3 = true → W12.heap.size ≤ g3 ∧ Ar w' g3 5 .u8 (xo KY 4294967295 M1 (List.replicate 64 0))) ∧ a = ⟨#[Value.bool false, Value.pointer (some { block := w.heap.size, off := 0 }), Value.int IntKind.i64 ↑i, Value.pointer (some { block := nq, off := 0 }), Value.pointer (some { block := sq, off := 0 }), Value.bool true, sv, Value.slice (some { block := g1, off := 0 }) 114 114, Value.int IntKind.i64 0, Value.bool true, Value.slice (some { block := g2, off := 0 }) 0 0, Value.int IntKind.i64 0, if b 7 = true then .slice (some ⟨g3, 0, none⟩) 64 64 else undef, if b 8 = true then .int .i64 0 else undef, undef, undef, undef, undef, undef, undef, undef, undef, Value.int IntKind.i64 ↑i, .bool bi, u24, u25, u26, u27, u28, u29, Value.agg (vs IntKind.u8 M1), Value.agg (vs IntKind.u8 KY), Value.agg (vs IntKind.u8 M1), Value.agg (vs IntKind.u8 S1), Value.slice (some { block := sq, off := 0 }) 16 64, Value.slice (some { block := W6.heap.size, off := 0 }) 16 16, Value.bool true, Value.bool true, Value.slice (some { block := sq, off := 60 }) 4 4, Value.slice (some { block := W7.heap.size, off := 0 }) 4 4, Value.bool true, Value.bool true, Value.tuple #[Value.slice (some { block := g1, off := 0 }) 114 114, Value.int IntKind.i64 0], Value.agg (vs IntKind.u8 KY), Value.agg (vs IntKind.u8 M2), sv, Value.slice (some { block := W8.heap.size, off := 0 }) 114 cp, Value.tuple #[Value.slice (some { block := g1, off := 0 }) 114 114, Value.int IntKind.i64 0], Value.slice (some { block := g1, off := 0 }) 114 114, Value.int IntKind.i64 0, Value.int IntKind.i64 0, Value.bool true, Value.bool true, Value.slice (some { block := g1, off := 0 }) 114 114, Value.int IntKind.i64 114, Value.bool true, Value.bool true, Value.bool true, Value.slice (some { block := g1, off := 0 }) 114 114, Value.slice (some { block := g1, off := 0 }) 8 114, Value.slice (some { block := W10.heap.size, off := 0 }) 8 8, Value.bool true, Value.bool true, Value.tuple #[Value.slice (some { block := g2, off := 0 }) 0 0, Value.int IntKind.i64 0], Value.agg (vs IntKind.u8 KY), Value.agg (vs IntKind.u8 M1), Value.tuple #[Value.slice (some { block := g2, off := 0 }) 0 0, Value.int IntKind.i64 0], Value.slice (some { block := g2, off := 0 }) 0 0, Value.int IntKind.i64 0, if b 4 = true then .tuple #[.slice (some ⟨g3, 0, none⟩) 64 64, .int .i64 0] else undef, if b 0 = true then .agg (vs .u8 KY) else undef, if b 1 = true then .agg (vs .u8 M1) else undef, if b 2 = true then .slice (some ⟨ga, 0, none⟩) 64 64 else undef, if b 3 = true then .tuple #[.slice (some ⟨g3, 0, none⟩) 64 64, .int .i64 0] else undef, if b 5 = true then .slice (some ⟨g3, 0, none⟩) 64 64 else undef, if b 6 = true then .int .i64 0 else undef, undef, undef, undef, undef, undef, undef, undef, undef, undef, undef, undef, undef, undef, undef, undef, undef, undef, undef, undef, undef, undef, undef, undef, undef, undef, undef, undef, undef, undef, undef, undef, undef, undef, undef, undef, undef, undef, undef, undef, undef, undef, undef, undef, undef, undef, undef, undef, undef, undef, undef, undef, undef, undef, undef, undef, undef, undef, undef, undef, undef, undef, undef, undef, undef, undef, undef, undef, undef, undef], []⟩) (by kernel_rfl) (by kernel_rfl) ?start13 ?step13 ?done13
      case start13 => exact ⟨0, 0, ⟨rfl, rfl, rfl, Nat.le_refl _, fun _ _ _ => rfl⟩, fun h => by simp at h, fun h => by simp at h, by simp⟩
      case step13 =>
        intro i5 o5 b a w1 ho hI hb hr hcl
        obtain ⟨ga, g3, hF, h2, h3, rfl⟩ := hI
        match i5, ho with
        | 0, ho =>
          injection ho with ho
          subst ho
          refine wp_quiet_here (.agg (vs .u8 KY)) (quiet_load 28 (.tmp 1) rfl (w.heap.size) rfl 28 _ (0, 0) _ (fun _ h => ((Fr.block h _ (Nat.lt_of_lt_of_le (heap_lt K5.out) hF.size) (fun x => x)).trans ((hF.block _ (heap_lt K5.out) (fun x => x)).trans K5.out))) Try.underlying28 rfl ik.out rfl) (fun w2 hw2 => ?_)
          refine ⟨ga, g3, hF.trans hw2, ?_, ?_, ?_⟩
          · intro hx
            have hy := h2 (by simpa [upd] using hx)
            exact ⟨hy.1, hy.2.fr hw2 (fun x => x)⟩
          · intro hx
            have hy := h3 (by simpa [upd] using hx)
            exact ⟨hy.1, hy.2.fr hw2 (fun x => x)⟩
          · simp [upd, Act.put]
        | 1, ho =>
          injection ho with ho
          subst ho
          refine wp_quiet_here (.agg (vs .u8 M1)) (quiet_load 29 (.tmp 3) rfl nq rfl 29 _ (0, 0) _ (fun _ h => ((Fr.block h _ (Nat.lt_of_lt_of_le (heap_lt N5.out) hF.size) (fun x => x)).trans ((hF.block _ (heap_lt N5.out) (fun x => x)).trans N5.out))) Try.underlying29 rfl iN.out rfl) (fun w2 hw2 => ?_)
          refine ⟨ga, g3, hF.trans hw2, ?_, ?_, ?_⟩
          · intro hx
            have hy := h2 (by simpa [upd] using hx)
            exact ⟨hy.1, hy.2.fr hw2 (fun x => x)⟩
          · intro hx
            have hy := h3 (by simpa [upd] using hx)
            exact ⟨hy.1, hy.2.fr hw2 (fun x => x)⟩
          · simp [upd, Act.put]
        | 2, ho =>
          injection ho with ho
          subst ho
          refine wp_value (.slice (some ⟨w1.heap.size, 0, none⟩) _ _) _ (ms_run (n := 64) (by decide) rfl rfl rfl) ?_
          refine ⟨w1.heap.size, g3, hF.alloc _, ?_, ?_, ?_⟩
          · exact fun _ => ⟨hF.size, heap_alloc_new w1 _⟩
          · intro hx
            have hy := h3 (by simpa [upd] using hx)
            exact ⟨hy.1, hy.2.alloc _⟩
          · simp [upd, Act.put]
        | 3, ho =>
          injection ho with ho
          subst ho
          simp [Region.binds] at hr
          have d0 : b 0 = true := by simp only [hr]
          have d1 : b 1 = true := by simp only [hr]
          have d2 : b 2 = true := by simp only [hr]
          simp only [hr, if_true]
          have n4 : b 4 = false := by
            rcases hbs : b 4 with _ | _
            · rfl
            · rw [chain hcl 4 3 rfl hbs (by simp [Region.binds])] at hb
              cases hb
          have n5 : b 5 = false := by
            rcases hbs : b 5 with _ | _
            · rfl
            · rw [chain hcl 4 3 rfl (chain hcl 5 4 rfl hbs (by simp [Region.binds])) (by simp [Region.binds])] at hb
              cases hb
          have n7 : b 7 = false := by
            rcases hbs : b 7 with _ | _
            · rfl
            · rw [chain hcl 4 3 rfl (chain hcl 5 4 rfl (chain hcl 7 5 rfl hbs (by simp [Region.binds])) (by simp [Region.binds])) (by simp [Region.binds])] at hb
              cases hb
          refine wp_enter 19 #[.agg (vs .u8 KY), .int .u32 4294967295, .agg (vs .u8 M1), .slice (some ⟨ga, 0, none⟩) 64 64] (by kernel_rfl) ((xor_ex KY 4294967295 M1 ga (some ⟨ga, 0, none⟩) 64 64 (List.replicate 64 0) w1 HK.out.1 HK.out.2 wl HN.out.1 HN.out.2 ((h2 d2).2.sl (noughts 64) (by simp) (by decide)) (by decide) (by decide) (fun _ => (h2 d2).2.lt)).mono ?_)
          rintro e w2 ⟨gN, hgN, rfl, haN, hfN⟩
          refine ⟨ga, gN, hF.trans hfN, ?_, ?_, ?_⟩
          · intro hx
            have hy := h2 (by simpa [upd] using hx)
            exact ⟨hy.1, hy.2.fr hfN (fun x => x)⟩
          · exact fun _ => ⟨Nat.le_trans hF.size hgN, haN⟩
          · simp [upd, Act.put, hr, n4, n5, n7]
        | 4, ho =>
          injection ho with ho
          subst ho
          simp [Region.binds] at hr
          have d3 : b 3 = true := by simp only [hr]
          simp only [hr, if_true]
          refine wp_quiet_here (.tuple #[.slice (some ⟨g3, 0, none⟩) 64 64, .int .i64 0]) (BigFrame.quiet_move _ rfl rfl) (fun w2 hw2 => ?_)
          refine ⟨ga, g3, hF.trans hw2, ?_, ?_, ?_⟩
          · intro hx
            have hy := h2 (by simpa [upd] using hx)
            exact ⟨hy.1, hy.2.fr hw2 (fun x => x)⟩
          · intro hx
            have hy := h3 (by simpa [upd] using hx)
            exact ⟨hy.1, hy.2.fr hw2 (fun x => x)⟩
          · simp [upd, Act.put, hr]
        | 5, ho =>
          injection ho with ho
          subst ho
          simp [Region.binds] at hr
          have d4 : b 4 = true := by simp only [hr]
          simp only [hr, if_true]
          refine wp_quiet_here (.slice (some ⟨g3, 0, none⟩) 64 64) ?_ (fun w2 hw2 => ?_)
          · go_big_quiet_op
            first
              | (simp [Act.put]; done)
              | exact ⟨_, fun _ _ => rfl, by simp [Act.put]⟩
          refine ⟨ga, g3, hF.trans hw2, ?_, ?_, ?_⟩
          · intro hx
            have hy := h2 (by simpa [upd] using hx)
            exact ⟨hy.1, hy.2.fr hw2 (fun x => x)⟩
          · intro hx
            have hy := h3 (by simpa [upd] using hx)
            exact ⟨hy.1, hy.2.fr hw2 (fun x => x)⟩
          · simp [upd, Act.put, hr]
        | 6, ho =>
          injection ho with ho
          subst ho
          simp [Region.binds] at hr
          have d4 : b 4 = true := by simp only [hr]
          simp only [hr, if_true]
          refine wp_quiet_here (.int .i64 0) ?_ (fun w2 hw2 => ?_)
          · go_big_quiet_op
            first
              | (simp [Act.put]; done)
              | exact ⟨_, fun _ _ => rfl, by simp [Act.put]⟩
          refine ⟨ga, g3, hF.trans hw2, ?_, ?_, ?_⟩
          · intro hx
            have hy := h2 (by simpa [upd] using hx)
            exact ⟨hy.1, hy.2.fr hw2 (fun x => x)⟩
          · intro hx
            have hy := h3 (by simpa [upd] using hx)
            exact ⟨hy.1, hy.2.fr hw2 (fun x => x)⟩
          · simp [upd, Act.put, hr]
        | 7, ho =>
          injection ho with ho
          subst ho
          simp [Region.binds] at hr
          have d5 : b 5 = true := by simp only [hr]
          simp only [hr, if_true]
          refine wp_quiet_here (.slice (some ⟨g3, 0, none⟩) 64 64) (BigFrame.quiet_assign _ rfl rfl) (fun w2 hw2 => ?_)
          refine ⟨ga, g3, hF.trans hw2, ?_, ?_, ?_⟩
          · intro hx
            have hy := h2 (by simpa [upd] using hx)
            exact ⟨hy.1, hy.2.fr hw2 (fun x => x)⟩
          · intro hx
            have hy := h3 (by simpa [upd] using hx)
            exact ⟨hy.1, hy.2.fr hw2 (fun x => x)⟩
          · simp [upd, Act.put, hr]
        | 8, ho =>
          injection ho with ho
          subst ho
          simp [Region.binds] at hr
          have d6 : b 6 = true := by simp only [hr]
          simp only [hr, if_true]
          refine wp_quiet_here (.int .i64 0) (BigFrame.quiet_assign _ rfl rfl) (fun w2 hw2 => ?_)
          refine ⟨ga, g3, hF.trans hw2, ?_, ?_, ?_⟩
          · intro hx
            have hy := h2 (by simpa [upd] using hx)
            exact ⟨hy.1, hy.2.fr hw2 (fun x => x)⟩
          · intro hx
            have hy := h3 (by simpa [upd] using hx)
            exact ⟨hy.1, hy.2.fr hw2 (fun x => x)⟩
          · simp [upd, Act.put, hr]
        | j + 9, ho => exact absurd ho (by simp)
      intro b a W14 hall hI
      obtain ⟨ga, g3, hF, h2, h3, rfl⟩ := hI
      have t0 : b 0 = true := hall 0 (by simp)
      have t1 : b 1 = true := hall 1 (by simp)
      have t2 : b 2 = true := hall 2 (by simp)
      have t3 : b 3 = true := hall 3 (by simp)
      have t4 : b 4 = true := hall 4 (by simp)
      have t5 : b 5 = true := hall 5 (by simp)
      have t6 : b 6 = true := hall 6 (by simp)
      have t7 : b 7 = true := hall 7 (by simp)
      have t8 : b 8 = true := hall 8 (by simp)
      simp only [t0, t1, t2, t3, t4, t5, t6, t7, t8, if_true]
      have Yga : Hid (W12.heap.size ≤ ga) := (h2 t2).1
      have Aga := Lib.hid (h2 t2).2
      have Yg3 : Hid (W12.heap.size ≤ g3) := (h3 t3).1
      have Ag3 := Lib.hid (h3 t3).2
      have F14 : Hid (Fr (fun _ => False) w W14) := F5.out.trans hF
      have X14_0 := Lib.hid ((hF.block _ (heap_lt K5.out) (fun x => x)).trans K5.out)
      have X14_1 := Lib.hid ((hF.block _ (heap_lt N5.out) (fun x => x)).trans N5.out)
      clear hall hF h2 h3 t0 t1 t2 t3 t4 t5 t6 t7 t8 
      try simp only [Act.put, List.setIfInBounds_toArray, List.set_cons_succ, List.set_cons_zero]
      go_upto_region 14 with (fail)
      refine wp_region_inv2 (fun b a w' => ∃ gb2 : Nat, Fr (fun _ => False) W14 w' ∧ (b 2 = true → W14.heap.size ≤ gb2 ∧ Ar w' gb2 5 .u8 (List.replicate 65 0)) ∧ a = ⟨#[Value.bool false, Value.pointer (some { block := w.heap.size, off := 0 }), Value.int IntKind.i64 ↑i, Value.pointer (some { block := nq, off := 0 }), Value.pointer (some { block := sq, off := 0 }), Value.bool true, sv, Value.slice (some { block := g1, off := 0 }) 114 114, Value.int IntKind.i64 0, Value.bool true, Value.slice (some { block := g2, off := 0 }) 0 0, Value.int IntKind.i64 0, .slice (some ⟨g3, 0, none⟩) 64 64, .int .i64 0, if b 7 = true then .slice none 0 0 else undef, if b 8 = true then .int .i64 5 else undef, undef, undef, undef, undef, undef, undef, Value.int IntKind.i64 ↑i, .bool bi, u24, u25, u26, u27, u28, u29, Value.agg (vs IntKind.u8 M1), Value.agg (vs IntKind.u8 KY), Value.agg (vs IntKind.u8 M1), Value.agg (vs IntKind.u8 S1), Value.slice (some { block := sq, off := 0 }) 16 64, Value.slice (some { block := W6.heap.size, off := 0 }) 16 16, Value.bool true, Value.bool true, Value.slice (some { block := sq, off := 60 }) 4 4, Value.slice (some { block := W7.heap.size, off := 0 }) 4 4, Value.bool true, Value.bool true, Value.tuple #[Value.slice (some { block := g1, off := 0 }) 114 114, Value.int IntKind.i64 0], Value.agg (vs IntKind.u8 KY), Value.agg (vs IntKind.u8 M2), sv, Value.slice (some { block := W8.heap.size, off := 0 }) 114 cp, Value.tuple #[Value.slice (some { block := g1, off := 0 }) 114 114, Value.int IntKind.i64 0], Value.slice (some { block := g1, off := 0 }) 114 114, Value.int IntKind.i64 0, Value.int IntKind.i64 0, Value.bool true, Value.bool true, Value.slice (some { block := g1, off := 0 }) 114 114, Value.int IntKind.i64 114, Value.bool true, Value.bool true, Value.bool true, Value.slice (some { block := g1, off := 0 }) 114 114, Value.slice (some { block := g1, off := 0 }) 8 114, Value.slice (some { block := W10.heap.size, off := 0 }) 8 8, Value.bool true, Value.bool true, Value.tuple #[Value.slice (some { block := g2, off := 0 }) 0 0, Value.int IntKind.i64 0], Value.agg (vs IntKind.u8 KY), Value.agg (vs IntKind.u8 M1), Value.tuple #[Value.slice (some { block := g2, off := 0 }) 0 0, Value.int IntKind.i64 0], Value.slice (some { block := g2, off := 0 }) 0 0, Value.int IntKind.i64 0, .tuple #[.slice (some ⟨g3, 0, none⟩) 64 64, .int .i64 0], .agg (vs .u8 KY), .agg (vs .u8 M1), .slice (some ⟨ga, 0, none⟩) 64 64, .tuple #[.slice (some ⟨g3, 0, none⟩) 64 64, .int .i64 0], .slice (some ⟨g3, 0, none⟩) 64 64, .int .i64 0, if b 4 = true then .tuple #[.slice none 0 0, .int .i64 5] else undef, if b 0 = true then .agg (vs .u8 KY) else undef, if b 1 = true then .agg (vs .u8 M1) else undef, if b 2 = true then .slice (some ⟨gb2, 0, none⟩) 65 65 else undef, if b 3 = true then .tuple #[.slice none 0 0, .int .i64 5] else undef, if b 5 = true then .slice none 0 0 else undef, if b 6 = true then .int .i64 5 else undef, undef, undef, undef, undef, undef, undef, undef, undef, undef, undef, undef, undef, undef, undef, undef, undef, undef, undef, undef, undef, undef, undef, undef, undef, undef, undef, undef, undef, undef, undef, undef, undef, undef, undef, undef, undef, undef, undef, undef, undef, undef, undef, undef, undef, undef, undef, undef, undef, undef, undef, undef, undef, undef, undef, undef, undef, undef, undef, undef, undef, undef, undef], []⟩) (by kernel_rfl) (by kernel_rfl) ?start14 ?step14 ?done14
      case start14 => exact ⟨0, ⟨rfl, rfl, rfl, Nat.le_refl _, fun _ _ _ => rfl⟩, fun h => by simp at h, by simp⟩
      case step14 =>
        intro i5 o5 b a w1 ho hI hb hr hcl
        obtain ⟨gb2, hF, h2, rfl⟩ := hI
        match i5, ho with
        | 0, ho =>
          injection ho with ho
          subst ho
          refine wp_quiet_here (.agg (vs .u8 KY)) (quiet_load 28 (.tmp 1) rfl (w.heap.size) rfl 28 _ (0, 0) _ (fun _ h => ((Fr.block h _ (Nat.lt_of_lt_of_le (heap_lt X14_0.out) hF.size) (fun x => x)).trans ((hF.block _ (heap_lt X14_0.out) (fun x => x)).trans X14_0.out))) Try.underlying28 rfl ik.out rfl) (fun w2 hw2 => ?_)
          refine ⟨gb2, hF.trans hw2, ?_, ?_⟩
          · intro hx
            have hy := h2 (by simpa [upd] using hx)
            exact ⟨hy.1, hy.2.fr hw2 (fun x => x)⟩
          · simp [upd, Act.put]
        | 1, ho =>
          injection ho with ho
          subst ho
          refine wp_quiet_here (.agg (vs .u8 M1)) (quiet_load 29 (.tmp 3) rfl nq rfl 29 _ (0, 0) _ (fun _ h => ((Fr.block h _ (Nat.lt_of_lt_of_le (heap_lt X14_1.out) hF.size) (fun x => x)).trans ((hF.block _ (heap_lt X14_1.out) (fun x => x)).trans X14_1.out))) Try.underlying29 rfl iN.out rfl) (fun w2 hw2 => ?_)
          refine ⟨gb2, hF.trans hw2, ?_, ?_⟩
          · intro hx
            have hy := h2 (by simpa [upd] using hx)
            exact ⟨hy.1, hy.2.fr hw2 (fun x => x)⟩
          · simp [upd, Act.put]
        | 2, ho =>
          injection ho with ho
          subst ho
          refine wp_value (.slice (some ⟨w1.heap.size, 0, none⟩) _ _) _ (ms_run (n := 65) (by decide) rfl rfl rfl) ?_
          refine ⟨w1.heap.size, hF.alloc _, ?_, ?_⟩
          · exact fun _ => ⟨hF.size, heap_alloc_new w1 _⟩
          · simp [upd, Act.put]
        | 3, ho =>
          injection ho with ho
          subst ho
          simp [Region.binds] at hr
          have d0 : b 0 = true := by simp only [hr]
          have d1 : b 1 = true := by simp only [hr]
          have d2 : b 2 = true := by simp only [hr]
          simp only [hr, if_true]
          refine wp_quiet_here (.tuple #[.slice none 0 0, .int .i64 5]) (quiet_call 19 #[.agg (vs .u8 KY), .int .u32 4294967295, .agg (vs .u8 M1), .slice (some ⟨gb2, 0, none⟩) 65 65] _ (fun _ => by kernel_rfl) (fun W h => (CNa W gb2).mono (fun _ _ hh => ⟨hh.1, Fr.trans h hh.2⟩)) rfl) (fun w2 hw2 => ?_)
          refine ⟨gb2, hF.trans hw2, ?_, ?_⟩
          · intro hx
            have hy := h2 (by simpa [upd] using hx)
            exact ⟨hy.1, hy.2.fr hw2 (fun x => x)⟩
          · simp [upd, Act.put, hr]
        | 4, ho =>
          injection ho with ho
          subst ho
          simp [Region.binds] at hr
          have d3 : b 3 = true := by simp only [hr]
          simp only [hr, if_true]
          refine wp_quiet_here (.tuple #[.slice none 0 0, .int .i64 5]) (BigFrame.quiet_move _ rfl rfl) (fun w2 hw2 => ?_)
          refine ⟨gb2, hF.trans hw2, ?_, ?_⟩
          · intro hx
            have hy := h2 (by simpa [upd] using hx)
            exact ⟨hy.1, hy.2.fr hw2 (fun x => x)⟩
          · simp [upd, Act.put, hr]
        | 5, ho =>
          injection ho with ho
          subst ho
          simp [Region.binds] at hr
          have d4 : b 4 = true := by simp only [hr]
          simp only [hr, if_true]
          refine wp_quiet_here (.slice none 0 0) ?_ (fun w2 hw2 => ?_)
          · go_big_quiet_op
            first
              | (simp [Act.put]; done)
              | exact ⟨_, fun _ _ => rfl, by simp [Act.put]⟩
          refine ⟨gb2, hF.trans hw2, ?_, ?_⟩
          · intro hx
            have hy := h2 (by simpa [upd] using hx)
            exact ⟨hy.1, hy.2.fr hw2 (fun x => x)⟩
          · simp [upd, Act.put, hr]
        | 6, ho =>
          injection ho with ho
          subst ho
          simp [Region.binds] at hr
          have d4 : b 4 = true := by simp only [hr]
          simp only [hr, if_true]
          refine wp_quiet_here (.int .i64 5) ?_ (fun w2 hw2 => ?_)
          · go_big_quiet_op
            first
              | (simp [Act.put]; done)
              | exact ⟨_, fun _ _ => rfl, by simp [Act.put]⟩
          refine ⟨gb2, hF.trans hw2, ?_, ?_⟩
          · intro hx
            have hy := h2 (by simpa [upd] using hx)
            exact ⟨hy.1, hy.2.fr hw2 (fun x => x)⟩
          · simp [upd, Act.put, hr]
        | 7, ho =>
          injection ho with ho
          subst ho
          simp [Region.binds] at hr
          have d5 : b 5 = true := by simp only [hr]
          simp only [hr, if_true]
          refine wp_quiet_here (.slice none 0 0) (BigFrame.quiet_assign _ rfl rfl) (fun w2 hw2 => ?_)
          refine ⟨gb2, hF.trans hw2, ?_, ?_⟩
          · intro hx
            have hy := h2 (by simpa [upd] using hx)
            exact ⟨hy.1, hy.2.fr hw2 (fun x => x)⟩
          · simp [upd, Act.put, hr]
        | 8, ho =>
          injection ho with ho
          subst ho
          simp [Region.binds] at hr
          have d6 : b 6 = true := by simp only [hr]
          simp only [hr, if_true]
          refine wp_quiet_here (.int .i64 5) (BigFrame.quiet_assign _ rfl rfl) (fun w2 hw2 => ?_)
          refine ⟨gb2, hF.trans hw2, ?_, ?_⟩
          · intro hx
            have hy := h2 (by simpa [upd] using hx)
            exact ⟨hy.1, hy.2.fr hw2 (fun x => x)⟩
          · simp [upd, Act.put, hr]
        | j + 9, ho => exact absurd ho (by simp)
      intro b a W15 hall hI
      obtain ⟨gb2, hF, h2, rfl⟩ := hI
      have t0 : b 0 = true := hall 0 (by simp)
      have t1 : b 1 = true := hall 1 (by simp)
      have t2 : b 2 = true := hall 2 (by simp)
      have t3 : b 3 = true := hall 3 (by simp)
      have t4 : b 4 = true := hall 4 (by simp)
      have t5 : b 5 = true := hall 5 (by simp)
      have t6 : b 6 = true := hall 6 (by simp)
      have t7 : b 7 = true := hall 7 (by simp)
      have t8 : b 8 = true := hall 8 (by simp)
      simp only [t0, t1, t2, t3, t4, t5, t6, t7, t8, if_true]
      have Ygb2 : Hid (W14.heap.size ≤ gb2) := (h2 t2).1
      have Agb2 := Lib.hid (h2 t2).2
      have Ag3_ := Lib.hid (Ag3.out.fr hF (fun x => x))
      have F15 : Hid (Fr (fun _ => False) w W15) := F14.out.trans hF
      have X15_0 := Lib.hid ((hF.block _ (heap_lt X14_0.out) (fun x => x)).trans X14_0.out)
      have X15_1 := Lib.hid ((hF.block _ (heap_lt X14_1.out) (fun x => x)).trans X14_1.out)
      clear hall hF h2 t0 t1 t2 t3 t4 t5 t6 t7 t8 Ag3
      try simp only [Act.put, List.setIfInBounds_toArray, List.set_cons_succ, List.set_cons_zero]
      go_upto_region 15 with (fail)
      refine wp_region_inv2 (fun b a w' => ∃ gc : Nat, Fr (fun _ => False) W15 w' ∧ (b 2 = true → W15.heap.size ≤ gc ∧ Ar w' gc 5 .u8 (List.replicate 129 0)) ∧ a = ⟨#[Value.bool false, Value.pointer (some { block := w.heap.size, off := 0 }), Value.int IntKind.i64 ↑i, Value.pointer (some { block := nq, off := 0 }), Value.pointer (some { block := sq, off := 0 }), Value.bool true, sv, Value.slice (some { block := g1, off := 0 }) 114 114, Value.int IntKind.i64 0, Value.bool true, Value.slice (some { block := g2, off := 0 }) 0 0, Value.int IntKind.i64 0, .slice (some ⟨g3, 0, none⟩) 64 64, .int .i64 0, .slice none 0 0, .int .i64 5, if b 7 = true then .slice none 0 0 else undef, if b 8 = true then .int .i64 5 else undef, undef, undef, undef, undef, Value.int IntKind.i64 ↑i, .bool bi, u24, u25, u26, u27, u28, u29, Value.agg (vs IntKind.u8 M1), Value.agg (vs IntKind.u8 KY), Value.agg (vs IntKind.u8 M1), Value.agg (vs IntKind.u8 S1), Value.slice (some { block := sq, off := 0 }) 16 64, Value.slice (some { block := W6.heap.size, off := 0 }) 16 16, Value.bool true, Value.bool true, Value.slice (some { block := sq, off := 60 }) 4 4, Value.slice (some { block := W7.heap.size, off := 0 }) 4 4, Value.bool true, Value.bool true, Value.tuple #[Value.slice (some { block := g1, off := 0 }) 114 114, Value.int IntKind.i64 0], Value.agg (vs IntKind.u8 KY), Value.agg (vs IntKind.u8 M2), sv, Value.slice (some { block := W8.heap.size, off := 0 }) 114 cp, Value.tuple #[Value.slice (some { block := g1, off := 0 }) 114 114, Value.int IntKind.i64 0], Value.slice (some { block := g1, off := 0 }) 114 114, Value.int IntKind.i64 0, Value.int IntKind.i64 0, Value.bool true, Value.bool true, Value.slice (some { block := g1, off := 0 }) 114 114, Value.int IntKind.i64 114, Value.bool true, Value.bool true, Value.bool true, Value.slice (some { block := g1, off := 0 }) 114 114, Value.slice (some { block := g1, off := 0 }) 8 114, Value.slice (some { block := W10.heap.size, off := 0 }) 8 8, Value.bool true, Value.bool true, Value.tuple #[Value.slice (some { block := g2, off := 0 }) 0 0, Value.int IntKind.i64 0], Value.agg (vs IntKind.u8 KY), Value.agg (vs IntKind.u8 M1), Value.tuple #[Value.slice (some { block := g2, off := 0 }) 0 0, Value.int IntKind.i64 0], Value.slice (some { block := g2, off := 0 }) 0 0, Value.int IntKind.i64 0, .tuple #[.slice (some ⟨g3, 0, none⟩) 64 64, .int .i64 0], .agg (vs .u8 KY), .agg (vs .u8 M1), .slice (some ⟨ga, 0, none⟩) 64 64, .tuple #[.slice (some ⟨g3, 0, none⟩) 64 64, .int .i64 0], .slice (some ⟨g3, 0, none⟩) 64 64, .int .i64 0, .tuple #[.slice none 0 0, .int .i64 5], .agg (vs .u8 KY), .agg (vs .u8 M1), .slice (some ⟨gb2, 0, none⟩) 65 65, .tuple #[.slice none 0 0, .int .i64 5], .slice none 0 0, .int .i64 5, if b 4 = true then .tuple #[.slice none 0 0, .int .i64 5] else undef, if b 0 = true then .agg (vs .u8 KY) else undef, if b 1 = true then .agg (vs .u8 M1) else undef, if b 2 = true then .slice (some ⟨gc, 0, none⟩) 129 129 else undef, if b 3 = true then .tuple #[.slice none 0 0, .int .i64 5] else undef, if b 5 = true then .slice none 0 0 else undef, if b 6 = true then .int .i64 5 else undef, undef, undef, undef, undef, undef, undef, undef, undef, undef, undef, undef, undef, undef, undef, undef, undef, undef, undef, undef, undef, undef, undef, undef, undef, undef, undef, undef, undef, undef, undef, undef, undef, undef, undef, undef, undef, undef, undef, undef, undef, undef, undef, undef, undef, undef, undef, undef, undef, undef, undef, undef, undef, undef, undef, undef], []⟩) (by kernel_rfl) (by kernel_rfl) ?start15 ?step15 ?done15
      case start15 => exact ⟨0, ⟨rfl, rfl, rfl, Nat.le_refl _, fun _ _ _ => rfl⟩, fun h => by simp at h, by simp⟩
      case step15 =>
        intro i5 o5 b a w1 ho hI hb hr hcl
        obtain ⟨gc, hF, h2, rfl⟩ := hI
        match i5, ho with
        | 0, ho =>
          injection ho with ho
          subst ho
          refine wp_quiet_here (.agg (vs .u8 KY)) (quiet_load 28 (.tmp 1) rfl (w.heap.size) rfl 28 _ (0, 0) _ (fun _ h => ((Fr.block h _ (Nat.lt_of_lt_of_le (heap_lt X15_0.out) hF.size) (fun x => x)).trans ((hF.block _ (heap_lt X15_0.out) (fun x => x)).trans X15_0.out))) Try.underlying28 rfl ik.out rfl) (fun w2 hw2 => ?_)
          refine ⟨gc, hF.trans hw2, ?_, ?_⟩
          · intro hx
            have hy := h2 (by simpa [upd] using hx)
            exact ⟨hy.1, hy.2.fr hw2 (fun x => x)⟩
          · simp [upd, Act.put]
        | 1, ho =>
          injection ho with ho
          subst ho
          refine wp_quiet_here (.agg (vs .u8 M1)) (quiet_load 29 (.tmp 3) rfl nq rfl 29 _ (0, 0) _ (fun _ h => ((Fr.block h _ (Nat.lt_of_lt_of_le (heap_lt X15_1.out) hF.size) (fun x => x)).trans ((hF.block _ (heap_lt X15_1.out) (fun x => x)).trans X15_1.out))) Try.underlying29 rfl iN.out rfl) (fun w2 hw2 => ?_)
          refine ⟨gc, hF.trans hw2, ?_, ?_⟩
          · intro hx
            have hy := h2 (by simpa [upd] using hx)
            exact ⟨hy.1, hy.2.fr hw2 (fun x => x)⟩
          · simp [upd, Act.put]
        | 2, ho =>
          injection ho with ho
          subst ho
          refine wp_value (.slice (some ⟨w1.heap.size, 0, none⟩) _ _) _ (ms_run (n := 129) (by decide) rfl rfl rfl) ?_
          refine ⟨w1.heap.size, hF.alloc _, ?_, ?_⟩
          · exact fun _ => ⟨hF.size, heap_alloc_new w1 _⟩
          · simp [upd, Act.put]
        | 3, ho =>
          injection ho with ho
          subst ho
          simp [Region.binds] at hr
          have d0 : b 0 = true := by simp only [hr]
          have d1 : b 1 = true := by simp only [hr]
          have d2 : b 2 = true := by simp only [hr]
          simp only [hr, if_true]
          refine wp_quiet_here (.tuple #[.slice none 0 0, .int .i64 5]) (quiet_call 19 #[.agg (vs .u8 KY), .int .u32 4294967294, .agg (vs .u8 M1), .slice (some ⟨gc, 0, none⟩) 129 129] _ (fun _ => by kernel_rfl) (fun W h => (CNb W gc).mono (fun _ _ hh => ⟨hh.1, Fr.trans h hh.2⟩)) rfl) (fun w2 hw2 => ?_)
          refine ⟨gc, hF.trans hw2, ?_, ?_⟩
          · intro hx
            have hy := h2 (by simpa [upd] using hx)
            exact ⟨hy.1, hy.2.fr hw2 (fun x => x)⟩
          · simp [upd, Act.put, hr]
        | 4, ho =>
          injection ho with ho
          subst ho
          simp [Region.binds] at hr
          have d3 : b 3 = true := by simp only [hr]
          simp only [hr, if_true]
          refine wp_quiet_here (.tuple #[.slice none 0 0, .int .i64 5]) (BigFrame.quiet_move _ rfl rfl) (fun w2 hw2 => ?_)
          refine ⟨gc, hF.trans hw2, ?_, ?_⟩
          · intro hx
            have hy := h2 (by simpa [upd] using hx)
            exact ⟨hy.1, hy.2.fr hw2 (fun x => x)⟩
          · simp [upd, Act.put, hr]
        | 5, ho =>
          injection ho with ho
          subst ho
          simp [Region.binds] at hr
          have d4 : b 4 = true := by simp only [hr]
          simp only [hr, if_true]
          refine wp_quiet_here (.slice none 0 0) ?_ (fun w2 hw2 => ?_)
          · go_big_quiet_op
            first
              | (simp [Act.put]; done)
              | exact ⟨_, fun _ _ => rfl, by simp [Act.put]⟩
          refine ⟨gc, hF.trans hw2, ?_, ?_⟩
          · intro hx
            have hy := h2 (by simpa [upd] using hx)
            exact ⟨hy.1, hy.2.fr hw2 (fun x => x)⟩
          · simp [upd, Act.put, hr]
        | 6, ho =>
          injection ho with ho
          subst ho
          simp [Region.binds] at hr
          have d4 : b 4 = true := by simp only [hr]
          simp only [hr, if_true]
          refine wp_quiet_here (.int .i64 5) ?_ (fun w2 hw2 => ?_)
          · go_big_quiet_op
            first
              | (simp [Act.put]; done)
              | exact ⟨_, fun _ _ => rfl, by simp [Act.put]⟩
          refine ⟨gc, hF.trans hw2, ?_, ?_⟩
          · intro hx
            have hy := h2 (by simpa [upd] using hx)
            exact ⟨hy.1, hy.2.fr hw2 (fun x => x)⟩
          · simp [upd, Act.put, hr]
        | 7, ho =>
          injection ho with ho
          subst ho
          simp [Region.binds] at hr
          have d5 : b 5 = true := by simp only [hr]
          simp only [hr, if_true]
          refine wp_quiet_here (.slice none 0 0) (BigFrame.quiet_assign _ rfl rfl) (fun w2 hw2 => ?_)
          refine ⟨gc, hF.trans hw2, ?_, ?_⟩
          · intro hx
            have hy := h2 (by simpa [upd] using hx)
            exact ⟨hy.1, hy.2.fr hw2 (fun x => x)⟩
          · simp [upd, Act.put, hr]
        | 8, ho =>
          injection ho with ho
          subst ho
          simp [Region.binds] at hr
          have d6 : b 6 = true := by simp only [hr]
          simp only [hr, if_true]
          refine wp_quiet_here (.int .i64 5) (BigFrame.quiet_assign _ rfl rfl) (fun w2 hw2 => ?_)
          refine ⟨gc, hF.trans hw2, ?_, ?_⟩
          · intro hx
            have hy := h2 (by simpa [upd] using hx)
            exact ⟨hy.1, hy.2.fr hw2 (fun x => x)⟩
          · simp [upd, Act.put, hr]
        | j + 9, ho => exact absurd ho (by simp)
      intro b a W16 hall hI
      obtain ⟨gc, hF, h2, rfl⟩ := hI
      have t0 : b 0 = true := hall 0 (by simp)
      have t1 : b 1 = true := hall 1 (by simp)
      have t2 : b 2 = true := hall 2 (by simp)
      have t3 : b 3 = true := hall 3 (by simp)
      have t4 : b 4 = true := hall 4 (by simp)
      have t5 : b 5 = true := hall 5 (by simp)
      have t6 : b 6 = true := hall 6 (by simp)
      have t7 : b 7 = true := hall 7 (by simp)
      have t8 : b 8 = true := hall 8 (by simp)
      simp only [t0, t1, t2, t3, t4, t5, t6, t7, t8, if_true]
      have Ygc : Hid (W15.heap.size ≤ gc) := (h2 t2).1
      have Agc := Lib.hid (h2 t2).2
      have Ag3__ := Lib.hid (Ag3_.out.fr hF (fun x => x))
      have F16 : Hid (Fr (fun _ => False) w W16) := F15.out.trans hF
      have X16_0 := Lib.hid ((hF.block _ (heap_lt X15_0.out) (fun x => x)).trans X15_0.out)
      have X16_1 := Lib.hid ((hF.block _ (heap_lt X15_1.out) (fun x => x)).trans X15_1.out)
      clear hall hF h2 t0 t1 t2 t3 t4 t5 t6 t7 t8 Ag3_
      try simp only [Act.put, List.setIfInBounds_toArray, List.set_cons_succ, List.set_cons_zero]
      go_upto_region 16 with (fail)
      refine wp_region_inv2 (fun b a w' => ∃ gd g4 : Nat, Fr (fun _ => False) W16 w' ∧ (b 2 = true → W16.heap.size ≤ gd ∧ Ar w' gd 5 .u8 (List.replicate 128 0)) ∧ (b 3 = true → W16.heap.size ≤ g4 ∧ Ar w' g4 5 .u8 (xo KY 4294967294 M1 (List.replicate 128 0))) ∧ a = ⟨#[Value.bool false, Value.pointer (some { block := w.heap.size, off := 0 }), Value.int IntKind.i64 ↑i, Value.pointer (some { block := nq, off := 0 }), Value.pointer (some { block := sq, off := 0 }), Value.bool true, sv, Value.slice (some { block := g1, off := 0 }) 114 114, Value.int IntKind.i64 0, Value.bool true, Value.slice (some { block := g2, off := 0 }) 0 0, Value.int IntKind.i64 0, .slice (some ⟨g3, 0, none⟩) 64 64, .int .i64 0, .slice none 0 0, .int .i64 5, .slice none 0 0, .int .i64 5, if b 7 = true then .slice (some ⟨g4, 0, none⟩) 128 128 else undef, if b 8 = true then .int .i64 0 else undef, undef, undef, Value.int IntKind.i64 ↑i, .bool bi, u24, u25, u26, u27, u28, u29, Value.agg (vs IntKind.u8 M1), Value.agg (vs IntKind.u8 KY), Value.agg (vs IntKind.u8 M1), Value.agg (vs IntKind.u8 S1), Value.slice (some { block := sq, off := 0 }) 16 64, Value.slice (some { block := W6.heap.size, off := 0 }) 16 16, Value.bool true, Value.bool true, Value.slice (some { block := sq, off := 60 }) 4 4, Value.slice (some { block := W7.heap.size, off := 0 }) 4 4, Value.bool true, Value.bool true, Value.tuple #[Value.slice (some { block := g1, off := 0 }) 114 114, Value.int IntKind.i64 0], Value.agg (vs IntKind.u8 KY), Value.agg (vs IntKind.u8 M2), sv, Value.slice (some { block := W8.heap.size, off := 0 }) 114 cp, Value.tuple #[Value.slice (some { block := g1, off := 0 }) 114 114, Value.int IntKind.i64 0], Value.slice (some { block := g1, off := 0 }) 114 114, Value.int IntKind.i64 0, Value.int IntKind.i64 0, Value.bool true, Value.bool true, Value.slice (some { block := g1, off := 0 }) 114 114, Value.int IntKind.i64 114, Value.bool true, Value.bool true, Value.bool true, Value.slice (some { block := g1, off := 0 }) 114 114, Value.slice (some { block := g1, off := 0 }) 8 114, Value.slice (some { block := W10.heap.size, off := 0 }) 8 8, Value.bool true, Value.bool true, Value.tuple #[Value.slice (some { block := g2, off := 0 }) 0 0, Value.int IntKind.i64 0], Value.agg (vs IntKind.u8 KY), Value.agg (vs IntKind.u8 M1), Value.tuple #[Value.slice (some { block := g2, off := 0 }) 0 0, Value.int IntKind.i64 0], Value.slice (some { block := g2, off := 0 }) 0 0, Value.int IntKind.i64 0, .tuple #[.slice (some ⟨g3, 0, none⟩) 64 64, .int .i64 0], .agg (vs .u8 KY), .agg (vs .u8 M1), .slice (some ⟨ga, 0, none⟩) 64 64, .tuple #[.slice (some ⟨g3, 0, none⟩) 64 64, .int .i64 0], .slice (some ⟨g3, 0, none⟩) 64 64, .int .i64 0, .tuple #[.slice none 0 0, .int .i64 5], .agg (vs .u8 KY), .agg (vs .u8 M1), .slice (some ⟨gb2, 0, none⟩) 65 65, .tuple #[.slice none 0 0, .int .i64 5], .slice none 0 0, .int .i64 5, .tuple #[.slice none 0 0, .int .i64 5], .agg (vs .u8 KY), .agg (vs .u8 M1), .slice (some ⟨gc, 0, none⟩) 129 129, .tuple #[.slice none 0 0, .int .i64 5], .slice none 0 0, .int .i64 5, if b 4 = true then .tuple #[.slice (some ⟨g4, 0, none⟩) 128 128, .int .i64 0] else undef, if b 0 = true then .agg (vs .u8 KY) else undef, if b 1 = true then .agg (vs .u8 M1) else undef, if b 2 = true then .slice (some ⟨gd, 0, none⟩) 128 128 else undef, if b 3 = true then .tuple #[.slice (some ⟨g4, 0, none⟩) 128 128, .int .i64 0] else undef, if b 5 = true then .slice (some ⟨g4, 0, none⟩) 128 128 else undef, if b 6 = true then .int .i64 0 else undef, undef, undef, undef, undef, undef, undef, undef, undef, undef, undef, undef, undef, undef, undef, undef, undef, undef, undef, undef, undef, undef, undef, undef, undef, undef, undef, undef, undef, undef, undef, undef, undef, undef, undef, undef, undef, undef, undef, undef, undef, undef, undef, undef, undef, undef, undef, undef, undef], []⟩) (by kernel_rfl) (by kernel_rfl) ?start16 ?step16 ?done16
      case start16 => exact ⟨0, 0, ⟨rfl, rfl, rfl, Nat.le_refl _, fun _ _ _ => rfl⟩, fun h => by simp at h, fun h => by simp at h, by simp⟩
      case step16 =>
        intro i5 o5 b a w1 ho hI hb hr hcl
        obtain ⟨gd, g4, hF, h2, h3, rfl⟩ := hI
        match i5, ho with
        | 0, ho =>
          injection ho with ho
          subst ho
          refine wp_quiet_here (.agg (vs .u8 KY)) (quiet_load 28 (.tmp 1) rfl (w.heap.size) rfl 28 _ (0, 0) _ (fun _ h => ((Fr.block h _ (Nat.lt_of_lt_of_le (heap_lt X16_0.out) hF.size) (fun x => x)).trans ((hF.block _ (heap_lt X16_0.out) (fun x => x)).trans X16_0.out))) Try.underlying28 rfl ik.out rfl) (fun w2 hw2 => ?_)
          refine ⟨gd, g4, hF.trans hw2, ?_, ?_, ?_⟩
          · intro hx
            have hy := h2 (by simpa [upd] using hx)
            exact ⟨hy.1, hy.2.fr hw2 (fun x => x)⟩
          · intro hx
            have hy := h3 (by simpa [upd] using hx)
            exact ⟨hy.1, hy.2.fr hw2 (fun x => x)⟩
          · simp [upd, Act.put]
        | 1, ho =>
          injection ho with ho
          subst ho
          refine wp_quiet_here (.agg (vs .u8 M1)) (quiet_load 29 (.tmp 3) rfl nq rfl 29 _ (0, 0) _ (fun _ h => ((Fr.block h _ (Nat.lt_of_lt_of_le (heap_lt X16_1.out) hF.size) (fun x => x)).trans ((hF.block _ (heap_lt X16_1.out) (fun x => x)).trans X16_1.out))) Try.underlying29 rfl iN.out rfl) (fun w2 hw2 => ?_)
          refine ⟨gd, g4, hF.trans hw2, ?_, ?_, ?_⟩
          · intro hx
            have hy := h2 (by simpa [upd] using hx)
            exact ⟨hy.1, hy.2.fr hw2 (fun x => x)⟩
          · intro hx
            have hy := h3 (by simpa [upd] using hx)
            exact ⟨hy.1, hy.2.fr hw2 (fun x => x)⟩
          · simp [upd, Act.put]
        | 2, ho =>
          injection ho with ho
          subst ho
          refine wp_value (.slice (some ⟨w1.heap.size, 0, none⟩) _ _) _ (ms_run (n := 128) (by decide) rfl rfl rfl) ?_
          refine ⟨w1.heap.size, g4, hF.alloc _, ?_, ?_, ?_⟩
          · exact fun _ => ⟨hF.size, heap_alloc_new w1 _⟩
          · intro hx
            have hy := h3 (by simpa [upd] using hx)
            exact ⟨hy.1, hy.2.alloc _⟩
          · simp [upd, Act.put]
        | 3, ho =>
          injection ho with ho
          subst ho
          simp [Region.binds] at hr
          have d0 : b 0 = true := by simp only [hr]
          have d1 : b 1 = true := by simp only [hr]
          have d2 : b 2 = true := by simp only [hr]
          simp only [hr, if_true]
          have n4 : b 4 = false := by
            rcases hbs : b 4 with _ | _
            · rfl
            · rw [chain hcl 4 3 rfl hbs (by simp [Region.binds])] at hb
              cases hb
          have n5 : b 5 = false := by
            rcases hbs : b 5 with _ | _
            · rfl
            · rw [chain hcl 4 3 rfl (chain hcl 5 4 rfl hbs (by simp [Region.binds])) (by simp [Region.binds])] at hb
              cases hb
          have n7 : b 7 = false := by
            rcases hbs : b 7 with _ | _
            · rfl
            · rw [chain hcl 4 3 rfl (chain hcl 5 4 rfl (chain hcl 7 5 rfl hbs (by simp [Region.binds])) (by simp [Region.binds])) (by simp [Region.binds])] at hb
              cases hb
          refine wp_enter 19 #[.agg (vs .u8 KY), .int .u32 4294967294, .agg (vs .u8 M1), .slice (some ⟨gd, 0, none⟩) 128 128] (by kernel_rfl) ((xor_ex KY 4294967294 M1 gd (some ⟨gd, 0, none⟩) 128 128 (List.replicate 128 0) w1 HK.out.1 HK.out.2 wm HN.out.1 HN.out.2 ((h2 d2).2.sl (noughts 128) (by simp) (by decide)) (by decide) (by decide) (fun _ => (h2 d2).2.lt)).mono ?_)
          rintro e w2 ⟨gN, hgN, rfl, haN, hfN⟩
          refine ⟨gd, gN, hF.trans hfN, ?_, ?_, ?_⟩
          · intro hx
            have hy := h2 (by simpa [upd] using hx)
            exact ⟨hy.1, hy.2.fr hfN (fun x => x)⟩
          · exact fun _ => ⟨Nat.le_trans hF.size hgN, haN⟩
          · simp [upd, Act.put, hr, n4, n5, n7]
        | 4, ho =>
          injection ho with ho
          subst ho
          simp [Region.binds] at hr
          have d3 : b 3 = true := by simp only [hr]
          simp only [hr, if_true]
          refine wp_quiet_here (.tuple #[.slice (some ⟨g4, 0, none⟩) 128 128, .int .i64 0]) (BigFrame.quiet_move _ rfl rfl) (fun w2 hw2 => ?_)
          refine ⟨gd, g4, hF.trans hw2, ?_, ?_, ?_⟩
          · intro hx
            have hy := h2 (by simpa [upd] using hx)
            exact ⟨hy.1, hy.2.fr hw2 (fun x => x)⟩
          · intro hx
            have hy := h3 (by simpa [upd] using hx)
            exact ⟨hy.1, hy.2.fr hw2 (fun x => x)⟩
          · simp [upd, Act.put, hr]
        | 5, ho =>
          injection ho with ho
          subst ho
          simp [Region.binds] at hr
          have d4 : b 4 = true := by simp only [hr]
          simp only [hr, if_true]
          refine wp_quiet_here (.slice (some ⟨g4, 0, none⟩) 128 128) ?_ (fun w2 hw2 => ?_)
          · go_big_quiet_op
            first
              | (simp [Act.put]; done)
              | exact ⟨_, fun _ _ => rfl, by simp [Act.put]⟩
          refine ⟨gd, g4, hF.trans hw2, ?_, ?_, ?_⟩
          · intro hx
            have hy := h2 (by simpa [upd] using hx)
            exact ⟨hy.1, hy.2.fr hw2 (fun x => x)⟩
          · intro hx
            have hy := h3 (by simpa [upd] using hx)
            exact ⟨hy.1, hy.2.fr hw2 (fun x => x)⟩
          · simp [upd, Act.put, hr]
        | 6, ho =>
          injection ho with ho
          subst ho
          simp [Region.binds] at hr
          have d4 : b 4 = true := by simp only [hr]
          simp only [hr, if_true]
          refine wp_quiet_here (.int .i64 0) ?_ (fun w2 hw2 => ?_)
          · go_big_quiet_op
            first
              | (simp [Act.put]; done)
              | exact ⟨_, fun _ _ => rfl, by simp [Act.put]⟩
          refine ⟨gd, g4, hF.trans hw2, ?_, ?_, ?_⟩
          · intro hx
            have hy := h2 (by simpa [upd] using hx)
            exact ⟨hy.1, hy.2.fr hw2 (fun x => x)⟩
          · intro hx
            have hy := h3 (by simpa [upd] using hx)
            exact ⟨hy.1, hy.2.fr hw2 (fun x => x)⟩
          · simp [upd, Act.put, hr]
        | 7, ho =>
          injection ho with ho
          subst ho
          simp [Region.binds] at hr
          have d5 : b 5 = true := by simp only [hr]
          simp only [hr, if_true]
          refine wp_quiet_here (.slice (some ⟨g4, 0, none⟩) 128 128) (BigFrame.quiet_assign _ rfl rfl) (fun w2 hw2 => ?_)
          refine ⟨gd, g4, hF.trans hw2, ?_, ?_, ?_⟩
          · intro hx
            have hy := h2 (by simpa [upd] using hx)
            exact ⟨hy.1, hy.2.fr hw2 (fun x => x)⟩
          · intro hx
            have hy := h3 (by simpa [upd] using hx)
            exact ⟨hy.1, hy.2.fr hw2 (fun x => x)⟩
          · simp [upd, Act.put, hr]
        | 8, ho =>
          injection ho with ho
          subst ho
          simp [Region.binds] at hr
          have d6 : b 6 = true := by simp only [hr]
          simp only [hr, if_true]
          refine wp_quiet_here (.int .i64 0) (BigFrame.quiet_assign _ rfl rfl) (fun w2 hw2 => ?_)
          refine ⟨gd, g4, hF.trans hw2, ?_, ?_, ?_⟩
          · intro hx
            have hy := h2 (by simpa [upd] using hx)
            exact ⟨hy.1, hy.2.fr hw2 (fun x => x)⟩
          · intro hx
            have hy := h3 (by simpa [upd] using hx)
            exact ⟨hy.1, hy.2.fr hw2 (fun x => x)⟩
          · simp [upd, Act.put, hr]
        | j + 9, ho => exact absurd ho (by simp)
      intro b a W17 hall hI
      obtain ⟨gd, g4, hF, h2, h3, rfl⟩ := hI
      have t0 : b 0 = true := hall 0 (by simp)
      have t1 : b 1 = true := hall 1 (by simp)
      have t2 : b 2 = true := hall 2 (by simp)
      have t3 : b 3 = true := hall 3 (by simp)
      have t4 : b 4 = true := hall 4 (by simp)
      have t5 : b 5 = true := hall 5 (by simp)
      have t6 : b 6 = true := hall 6 (by simp)
      have t7 : b 7 = true := hall 7 (by simp)
      have t8 : b 8 = true := hall 8 (by simp)
      simp only [t0, t1, t2, t3, t4, t5, t6, t7, t8, if_true]
      have Ygd : Hid (W16.heap.size ≤ gd) := (h2 t2).1
      have Agd := Lib.hid (h2 t2).2
      have Yg4 : Hid (W16.heap.size ≤ g4) := (h3 t3).1
      have Ag4 := Lib.hid (h3 t3).2
      have Ag3___ := Lib.hid (Ag3__.out.fr hF (fun x => x))
      have F17 : Hid (Fr (fun _ => False) w W17) := F16.out.trans hF
      have X17_0 := Lib.hid ((hF.block _ (heap_lt X16_0.out) (fun x => x)).trans X16_0.out)
      have X17_1 := Lib.hid ((hF.block _ (heap_lt X16_1.out) (fun x => x)).trans X16_1.out)
      clear hall hF h2 h3 t0 t1 t2 t3 t4 t5 t6 t7 t8 Ag3__
      have K7 := Lib.hid X17_0.out
      have N7 := Lib.hid X17_1.out
      have A7 : Hid (Ar W17 g3 5 .u8 TL) := by show _; rw [← HXB ()]; exact Ag3___.out
      have F7 := F17
      clear Ag3___ Ag4
      try simp only [Act.put, List.setIfInBounds_toArray, List.set_cons_succ, List.set_cons_zero]
      go_upto_region 18 with (first
        | (go_at_call 16; refine (C2 _).mono ?_; rintro e w5 ⟨rfl, hf⟩; replace A7 := Lib.hid (A7.out.fr hf (fun x => x)); replace F7 := Lib.hid (F7.out.trans hf); clear hf)
        | refine wpList_load_row rfl 28 (.tmp 1) rfl w.heap.size rfl 28 (vs .u8 KY) (0, 0) _ K7.out Try.underlying28 rfl ik.out ?_
        | refine wpList_load_row rfl 29 (.tmp 3) rfl nq rfl 29 (vs .u8 M1) (0, 0) _ N7.out Try.underlying29 rfl iN.out ?_
        | refine wpList_store_row rfl 32 (.tmp 20) (.tmp 99) rfl w5.heap.size (vs .u8 TL) rfl rfl 32 (vs .u8 Y) (heap_alloc_new w5 (.cells (vs .u8 Y) 32)) iT.out eT.out (vs_all _ _) ?_)
      obtain ⟨tq, htq⟩ : ∃ q, q = w5.heap.size := ⟨_, rfl⟩
      have FQ : Fr (fun _ => False) w5 ((w5.alloc (.cells (vs .u8 Y) 32)).setRow w5.heap.size (vs .u8 TL)) := ((Fr.refl _ w5).alloc _).setRow _ (.inr (Nat.le_refl _))
      have A8 := Lib.hid (A7.out.fr FQ (fun x => x))
      have F8 := Lib.hid (F7.out.trans FQ)
      have T8 : Hid (Ar ((w5.alloc (.cells (vs .u8 Y) 32)).setRow w5.heap.size (vs .u8 TL)) tq 32 .u8 TL) := by rw [htq]; exact (Ar.new w5 32 .u8 Y).row TL
      rw [← htq] at A8 F8 T8 ⊢
      generalize (w5.alloc (.cells (vs .u8 Y) 32)).setRow tq (vs .u8 TL) = W19 at *
      clear A7 F7 FQ htq C2 iT eT K7 N7
      try simp only [Act.put, List.setIfInBounds_toArray, List.set_cons_succ, List.set_cons_zero]
      go_wp2_with (first
        | (go_at_call 21; refine (eqBytes_any g3 tq _ _ _ _ _ _ TL TL _ (A8.out.slT HL.out.2 HL.out.1 (by decide)) (T8.out.slT HL.out.2 HL.out.1 (by decide))).mono ?_; rintro e w' ⟨rfl, n1, rfl⟩; replace F8 : Hid (Fr (fun _ => False) w (W19.drewN n1)) := F8.out.drewN n1; generalize W19.drewN n1 = W20 at *)
        | (go_at_call 15; refine (CW _).mono ?_; rintro e w' ⟨rfl, hf⟩; replace F8 := Lib.hid (F8.out.trans hf); clear hf))
      go_ret
      exact ⟨rfl, F8.out⟩

set_option maxRecDepth 100000 in
theorem law_known_lifted (os : Os) (started : os.Started) (H : Type) (enc : TypeId × Value → H) :
    ReturnsInHanded {} Try.checked os 12 .any (Rows.chachaKnownSpec.pre6 enc Try.prog Try.f12 Rows.chachaKnownRow.domain false) (Rows.chachaKnownSpec.post enc Try.prog Try.f12 false true false false) := by
  refine returnsInHanded_of_change (C := Try.checked) own started (by kernel_rfl) Try.func12
    (ChangeSpec.witness6 (enc := enc) (C := Try.checked) false ⟨#[], #[], []⟩ 8 (by kernel_rfl) (by kernel_rfl) (by kernel_rfl) (by kernel_rfl)) ?_
  intro W base args ds gs before hval0 hW hcnd _
  have hval : ∀ (j : Nat) t v, Try.f12.params[j]? = some t → args[j]? = some v → Value.okWide Try.prog W .any base t v := hval0
  have hW' := hW
  obtain ⟨p, q, hA0, hV, rfl, hfz, hnd⟩ := hW
  have hA : DataW.TrodAll enc Try.prog W 0 (fun _ => true) true Try.f12.params.toList args.toList ds p := hA0
  rw [Try.params12] at hA hval
  obtain ⟨hargs, rfl, rfl⟩ := trodAll_nil hA
  obtain rfl : args = #[] := by cases args; simp_all
  obtain ⟨rfl, rfl⟩ := trodVars_none hV
  clear hA0 hval0
  refine (law_known_any  W ).mono fun e W' ⟨he, hg⟩ => ?_
  subst he
  exact ⟨_, rfl, post_true rfl hW' (by kernel_rfl) rfl rfl hg⟩

theorem chachaKnown_holds : Rows.ChachaKnownSaid :=
  OpenClaim.holds_of_wide 12 Try.f12 rfl rfl rfl rfl rfl rfl rfl ⟨rfl, rfl, rfl, rfl, rfl⟩ rfl rfl rfl rfl rfl (by kernel_rfl) Try.func12 (by kernel_rfl)
    (of_decide_eq_true (by kernel_rfl)) (by unfold Func.isWrapper; first | (rw [if_pos (by decide +kernel)]; kernel_rfl) | (rw [if_neg (by decide +kernel)]; exact ⟨rfl, rfl⟩))
    (fun os started H enc _ => law_known_lifted os started H enc)
#print axioms chachaKnown_holds
end Go.Proofs.Ytnagnolbomcnjaa
