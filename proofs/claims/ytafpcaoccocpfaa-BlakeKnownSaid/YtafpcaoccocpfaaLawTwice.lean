/- BlakeTwice answers true for all bytes: the given statement BlakeTwiceSaid. No condition. -/
import Derived.Test.YtafpcaoccocpfaaZl
namespace Go.Proofs.Ytafpcaoccocpfaa
set_option linter.unusedSimpArgs false
set_option linter.unusedVariables false
open Go.ChangeShapes Go.WideShapes Go.ChangeAt Go.RowKit

theorem Sl.far {w : World} {g : Nat} {v : Value} {l : List Int} (h : Sl w g v l) (N : Nat) : ∃ gc, (gc < w.heap.size ∨ gc = N) ∧ Sl w gc v l := by
  by_cases hl : l = []
  · subst hl
    exact ⟨N, .inr rfl, h.empty _⟩
  · exact ⟨g, .inl (h.lt6 hl), h⟩
set_option maxRecDepth 100000 in
set_option maxHeartbeats 16000000 in
theorem law_twice_any (g0 : Nat) (A0 : Option Addr) (m0 s0 : Nat) (l0 : List Int) (g1 : Nat) (A1 : Option Addr) (m1 s1 : Nat) (l1 : List Int) (w : World) (hs0 : Sl w g0 (.slice A0 m0 s0) l0) (hn0 : m0 ≤ 140737488351232) (hg0 : l0 ≠ [] → g0 < w.heap.size) (hs1 : Sl w g1 (.slice A1 m1 s1) l1) (hn1 : m1 ≤ 140737488351232) (hg1 : l1 ≠ [] → g1 < w.heap.size) :
    Calls Try.prog 8 #[.slice A0 m0 s0, .slice A1 m1 s1] w fun e w' => e = .returned (.bool true) ∧ Fr (fun _ => False) w w' := by
  obtain ⟨M, hM⟩ : ∃ M : Nat, M = min m0 32 := ⟨_, rfl⟩
  have eM : (if (32 : Int) < (m0 : Int) then (32 : Int) else (m0 : Int)) = (M : Int) := by split <;> omega
  have HA := Lib.hid hs0
  have HB := Lib.hid hs1
  have cA := hs0.cap
  have lA := Lib.hid hs0.len
  have lB := Lib.hid hs1.len
  have HM : Hid (M ≤ m0 ∧ M ≤ 32 ∧ m0 ≤ 140737488351232 ∧ m1 ≤ 140737488351232) := ⟨by omega, by omega, hn0, hn1⟩
  have j1 : (M : Int) ≤ s0 := by omega
  have j2 : 0 ≤ (M : Int) := by omega
  have j3 : ((M : Int)).toNat = M := by omega
  obtain ⟨K, hK⟩ : ∃ K, K = l0.take M := ⟨_, rfl⟩
  have HN : ∀ W, Fr (fun _ => False) w W → Calls Try.prog 18 #[.int .i64 20, .slice A0 M s0] W fun e w' => ∃ g, W.heap.size ≤ g ∧ e = .returned (.tuple #[.pointer (some ⟨g, 0, none⟩), .int .i64 0]) ∧ HashAt w' g 20 K [] ∧ Fr (fun _ => False) W w' := fun W hf => by
    rw [hK]
    exact new_yes 20 g0 A0 M s0 (l0.take M) W ((HA.out.fr hf (fun _ x => x)).take M (by have := lA.out; have := HM.out; omega)) (by decide) (by decide) HM.out.2.1
  obtain ⟨D2, hD2⟩ : ∃ D, D = l0 ++ l1 := ⟨_, rfl⟩
  obtain ⟨R1, hR1⟩ : ∃ D, D = dig 20 K l0 := ⟨_, rfl⟩
  obtain ⟨R2, hR2⟩ : ∃ D, D = dig 20 K D2 := ⟨_, rfl⟩
  have HD2 : Hid (l0 ++ l1 = D2) := hD2.symm
  have CS1 : ∀ W g, HashAt W g 20 K l0 → Calls Try.prog 20 #[.pointer (some ⟨g, 0, none⟩)] W fun e w' => ∃ v, e = .returned v ∧ Nw W w' v R1 ∧ Fr (fun _ => False) W w' := fun W g h => by rw [hR1]; exact hsum_is g 20 K l0 W h
  have CS2 : ∀ W g, HashAt W g 20 K D2 → Calls Try.prog 20 #[.pointer (some ⟨g, 0, none⟩)] W fun e w' => ∃ v, e = .returned v ∧ Nw W w' v R2 ∧ Fr (fun _ => False) W w' := fun W g h => by rw [hR2]; exact hsum_is g 20 K D2 W h
  clear hD2 hR1 hR2
  clear hM hK hs0 hs1 hn0 hn1 hg0 hg1 cA
  go_enter Try.func8, Try.ntmps8
  go_upto_region 3 with (go_at_call 15; refine (works_is _).mono ?_; rintro e w1 ⟨rfl, hf⟩; have F1 := Lib.hid hf; clear hf)
  go_upto_region 4 with (go_at_call 18; refine (HN _ F1.out).mono ?_; rintro e w2 ⟨ga, hg, rfl, hp, hf⟩; have GA := Lib.hid hg; have PA := Lib.hid hp; have G2 := Lib.hid hf; clear hg hp hf)
  have F2 := Lib.hid (F1.out.trans G2.out)
  have LA : Hid (w.heap.size ≤ ga ∧ ga < w2.heap.size) := ⟨Nat.le_trans F1.out.size GA.out, PA.out.lt⟩
  clear G2 GA F1
  go_upto_region 5 with (go_at_call 18; refine (HN _ F2.out).mono ?_; rintro e w3 ⟨gb, hg, rfl, hp, hf⟩; have GB := Lib.hid hg; have PB := Lib.hid hp; have G3 := Lib.hid hf; clear hg hp hf)
  have F3 := Lib.hid (F2.out.trans G3.out)
  replace PA := Lib.hid (PA.out.fr G3.out (fun x => x))
  have LB : Hid (ga < gb ∧ w.heap.size ≤ ga) := ⟨Nat.lt_of_lt_of_le LA.out.2 GB.out, LA.out.1⟩
  clear G3 GB F2 HN LA
  obtain ⟨ca, hca, hsa⟩ := (HA.out.fr (Fr.refl (fun _ => False) w) (fun _ x => x)).far (ga + gb + 1)
  obtain ⟨cb, hcb, hsb⟩ := (HB.out.fr (Fr.refl (fun _ => False) w) (fun _ x => x)).far (ga + gb + 1)
  have NC : Hid ((ca ≠ ga ∧ ca ≠ gb) ∧ (cb ≠ ga ∧ cb ≠ gb)) := by have h := LB.out; show (ca ≠ ga ∧ ca ≠ gb) ∧ (cb ≠ ga ∧ cb ≠ gb); omega
  have SA := Lib.hid (hsa.fr F3.out (fun _ x => x))
  have SB := Lib.hid (hsb.fr F3.out (fun _ x => x))
  clear hca hsa hcb hsb HA HB
  go_upto_region 8 with (go_at_call 19; refine (hwrite_is ga 20 K [] ca A0 m0 s0 l0 w3 PA.out SA.out NC.out.1.1 (by have := HM.out; simp; omega)).mono ?_; rintro e w4 ⟨rfl, hp, hf⟩; rw [List.nil_append] at hp; have PA4 := Lib.hid hp; have G4 := Lib.hid hf; clear hp hf)
  have PB4 := Lib.hid (PB.out.fr G4.out (show ¬ gb = ga by have := LB.out; omega))
  have SA4 := Lib.hid (SA.out.fr G4.out (fun _ e => NC.out.1.1 e))
  have SB4 := Lib.hid (SB.out.fr G4.out (fun _ e => NC.out.2.1 e))
  have F4 : Hid (Fr (fun _ => False) w w4) := F3.out.trans' G4.out (fun j hj e => by have := LB.out; omega)
  clear PA PB SA SB G4 F3
  go_upto_region 9 with (go_at_call 19; refine (hwrite_is gb 20 K [] ca A0 m0 s0 l0 w4 PB4.out SA4.out NC.out.1.2 (by have := HM.out; simp; omega)).mono ?_; rintro e w5 ⟨rfl, hp, hf⟩; rw [List.nil_append] at hp; have PB5 := Lib.hid hp; have G5 := Lib.hid hf; clear hp hf)
  have PA5 := Lib.hid (PA4.out.fr G5.out (show ¬ ga = gb by have := LB.out; omega))
  have SB5 := Lib.hid (SB4.out.fr G5.out (fun _ e => NC.out.2.2 e))
  have F5 : Hid (Fr (fun _ => False) w w5) := F4.out.trans' G5.out (fun j hj e => by have := LB.out; omega)
  have Z5 : Hid (gb < w5.heap.size) := PB5.out.lt
  clear PA4 PB4 SA4 SB4 G5 F4
  have tk1 : True := trivial
  go_upto_region 10 with (first
    | (go_at_call 20; clear tk1; refine (CS1 w5 ga PA5.out).mono ?_; rintro e w6 ⟨v6, rfl, hn, hf⟩; have N6 := Lib.hid hn; have G6 := Lib.hid hf; clear hn hf)
    | (go_at_call 20; refine (CS1 w6 ga (PA5.out.fr G6.out (fun x => x))).mono ?_; rintro e w7 ⟨v7, rfl, hn, hf⟩; have N7 := Lib.hid hn; have G7 := Lib.hid hf; clear hn hf))
  have G67 := Lib.hid (G6.out.trans G7.out)
  have PA7 := Lib.hid (PA5.out.fr G67.out (fun x => x))
  have PB7 := Lib.hid (PB5.out.fr G67.out (fun x => x))
  have SB7 := Lib.hid (SB5.out.fr G67.out (fun _ x => x))
  have X7 : Hid (Nw w5 w7 v6 R1) := N6.out.fr G7.out (fun _ x => x)
  have Y7 : Hid (Nw w5 w7 v7 R1) := N7.out.of G6.out
  have F7 := Lib.hid (F5.out.trans G67.out)
  clear N6 N7 G6 G7 G67 PA5 PB5 SB5 F5
  go_upto_region 11 with (go_at_call 19; refine (hwrite_is ga 20 K _ cb A1 m1 s1 l1 w7 PA7.out SB7.out NC.out.2.1 (by have := HM.out; have := lA.out; simp; omega)).mono ?_; rintro e w8 ⟨rfl, hp, hf⟩; rw [HD2.out] at hp; have PA8 := Lib.hid hp; have G8 := Lib.hid hf; clear hp hf)
  have PB8 := Lib.hid (PB7.out.fr G8.out (show ¬ gb = ga by have := LB.out; omega))
  have SB8 := Lib.hid (SB7.out.fr G8.out (fun _ e => NC.out.2.1 e))
  have X8 : Hid (Ow w8 v6 R1) := X7.out.1.keep G8.out (fun k hk e => by have := X7.out.2 k hk; have := Z5.out; have := LB.out; omega)
  have Y8 : Hid (Ow w8 v7 R1) := Y7.out.1.keep G8.out (fun k hk e => by have := Y7.out.2 k hk; have := Z5.out; have := LB.out; omega)
  have F8 : Hid (Fr (fun _ => False) w w8) := F7.out.trans' G8.out (fun j hj e => by have := LB.out; omega)
  clear PA7 PB7 SB7 F7 G8
  go_upto_region 12 with (go_at_call 19; refine (hwrite_is gb 20 K _ cb A1 m1 s1 l1 w8 PB8.out SB8.out NC.out.2.2 (by have := HM.out; have := lA.out; simp; omega)).mono ?_; rintro e w9 ⟨rfl, hp, hf⟩; rw [HD2.out] at hp; have PB9 := Lib.hid hp; have G9 := Lib.hid hf; clear hp hf)
  have PA9 := Lib.hid (PA8.out.fr G9.out (show ¬ ga = gb by have := LB.out; omega))
  have X9 := Lib.hid (X8.out.keep G9.out (fun k hk e => by have := X7.out.2 k hk; have := Z5.out; omega)).sl
  have Y9 := Lib.hid (Y8.out.keep G9.out (fun k hk e => by have := Y7.out.2 k hk; have := Z5.out; omega)).sl
  have F9 : Hid (Fr (fun _ => False) w w9) := F8.out.trans' G9.out (fun j hj e => by have := LB.out; omega)
  obtain ⟨Ax, nx, cx, rfl, hnx⟩ := X8.out.shape
  obtain ⟨Ay, ny, cy, rfl, hny⟩ := Y8.out.shape
  clear PA8 PB8 SB8 F8 G9 X7 Y7 X8 Y8 hnx hny
  have tk1 : True := trivial
  have tk2 : True := trivial
  go_wp2_with (first
    | (go_at_call 14; clear tk1; refine (eq_yes _ X9.out Y9.out rfl).mono ?_; rintro e w10 ⟨rfl, hf⟩; have G10 := Lib.hid hf; have PA10 := Lib.hid (PA9.out.fr G10.out (fun x => x)); have PB10 := Lib.hid (PB9.out.fr G10.out (fun x => x)); have F10 := Lib.hid (F9.out.trans G10.out); clear hf)
    | (go_at_call 20; clear tk2; refine (CS2 w10 ga PA10.out).mono ?_; rintro e w11 ⟨v11, rfl, hn, hf⟩; obtain ⟨Az, nz, cz, rfl, hq⟩ := hn.1.shape; clear hq; have N11 := Lib.hid hn; have G11 := Lib.hid hf; clear hn hf)
    | (go_at_call 20; refine (CS2 w11 gb (PB10.out.fr G11.out (fun x => x))).mono ?_; rintro e w12 ⟨v12, rfl, hn, hf⟩; obtain ⟨Au, nu, cu, rfl, hq⟩ := hn.1.shape; clear hq; have N12 := Lib.hid hn; have S11 := Lib.hid (N11.out.fr hf (fun _ x => x)).1.sl; have S12 := Lib.hid hn.1.sl; have F12 := Lib.hid ((F10.out.trans G11.out).trans hf); clear hn hf)
    | (go_at_call 14; refine (eq_yes _ S11.out S12.out rfl).mono ?_; rintro e w13 ⟨rfl, hf⟩; have F13 := Lib.hid (F12.out.trans hf); clear hf))
  go_ret
  exact ⟨rfl, F13.out⟩

set_option maxRecDepth 100000 in
theorem law_twice_lifted (os : Os) (started : os.Started) (H : Type) (enc : TypeId × Value → H) :
    ReturnsInHanded {} Try.checked os 8 .any (Rows.blakeTwiceSpec.pre6 enc Try.prog Try.f8 Rows.blakeTwiceRow.domain false) (Rows.blakeTwiceSpec.post enc Try.prog Try.f8 false true false false) := by
  refine returnsInHanded_of_change_sized (C := Try.checked) own started (by kernel_rfl) Try.func8
    (ChangeSpec.witness6 (enc := enc) (C := Try.checked) false ⟨#[], #[.slice none 0 0, .slice none 0 0], []⟩ 8 (by kernel_rfl) (by kernel_rfl) (by kernel_rfl) (by kernel_rfl)) ?_
  intro W base args ds gs before hval0 hW hcnd hsz0 _
  have hsz : (DataW.weightsEach Try.prog (Try.f8.params.toList ++ Rows.blakeTwiceSpec.plain.varTypes Try.prog) (ds ++ gs)).all (· ≤ reachBytes) = true := hsz0
  clear hsz0
  have hval : ∀ (j : Nat) t v, Try.f8.params[j]? = some t → args[j]? = some v → Value.okWide Try.prog W .any base t v := hval0
  have hW' := hW
  obtain ⟨p, q, hA0, hV, rfl, hfz, hnd⟩ := hW
  have hA : DataW.TrodAll enc Try.prog W 0 (fun _ => true) true Try.f8.params.toList args.toList ds p := hA0
  rw [Try.params8] at hA hval hsz
  obtain ⟨v0, vs0, d0, ds0, p0, q0, hargs, rfl, rfl, h0, r0⟩ := trodAll_cons hA
  obtain ⟨v1, vs1, d1, ds1, p1, q1, rfl, rfl, rfl, h1, r1⟩ := trodAll_cons r0
  obtain ⟨rfl, rfl, rfl⟩ := trodAll_nil r1
  obtain rfl : args = #[v0, v1] := by cases args; simp_all
  obtain ⟨rfl, rfl⟩ := trodVars_none hV
  have hlt0 : ∀ x ∈ p0, x.block < W.heap.size := fun x hx => hW'.lt x (by simp [hx])
  have hlt1 : ∀ x ∈ p1, x.block < W.heap.size := fun x hx => hW'.lt x (by simp [hx])
  obtain ⟨A0, m0, s0, g0, l0, rfl, hs0, hg0⟩ := open_sl (hval 0 22 v0 rfl rfl) h0 hlt0
  have hn0 : m0 ≤ 140737488351232 := by
    rcases open_len h0 with e | ⟨el, sp, rfl, hle⟩
    · omega
    · have := sized_slice hsz (j := 0) (t := 22) (e := 5) rfl rfl Try.underlying22
      rw [Try.bytes5] at this
      simp only [reachBytes] at this
      omega
  obtain ⟨A1, m1, s1, g1, l1, rfl, hs1, hg1⟩ := open_sl (hval 1 22 v1 rfl rfl) h1 hlt1
  have hn1 : m1 ≤ 140737488351232 := by
    rcases open_len h1 with e | ⟨el, sp, rfl, hle⟩
    · omega
    · have := sized_slice hsz (j := 1) (t := 22) (e := 5) rfl rfl Try.underlying22
      rw [Try.bytes5] at this
      simp only [reachBytes] at this
      omega
  clear hA0 hval0
  refine (law_twice_any g0 A0 m0 s0 l0 g1 A1 m1 s1 l1 W hs0 hn0 hg0 hs1 hn1 hg1).mono fun e W' ⟨he, hg⟩ => ?_
  subst he
  exact ⟨_, rfl, post_true rfl hW' (by kernel_rfl) rfl rfl hg⟩

theorem blakeTwice_holds : Rows.BlakeTwiceSaid :=
  OpenClaim.holds_of_wide 8 Try.f8 rfl rfl rfl rfl rfl rfl rfl ⟨rfl, rfl, rfl, rfl, rfl⟩ rfl rfl rfl rfl rfl (by kernel_rfl) Try.func8 (by kernel_rfl)
    (of_decide_eq_true (by kernel_rfl)) (by unfold Func.isWrapper; first | (rw [if_pos (by decide +kernel)]; kernel_rfl) | (rw [if_neg (by decide +kernel)]; exact ⟨rfl, rfl⟩))
    (fun os started H enc _ => law_twice_lifted os started H enc)
#print axioms blakeTwice_holds
end Go.Proofs.Ytafpcaoccocpfaa
