/- KdfExtract answers true for all keys and bytes, and its arguments read behind the call as they did: the given statement KdfExtractSaid. No condition. -/
import Derived.Test.YtebknlhooijkcaaYk
namespace Go.Proofs.Ytebknlhooijkcaa
set_option linter.unusedSimpArgs false
set_option linter.unusedVariables false
open Go.ChangeShapes Go.WideShapes Go.ChangeAt Go.RowKit

set_option maxRecDepth 100000 in
set_option maxHeartbeats 16000000 in
theorem law_extract_any (g0 : Nat) (A0 : Option Addr) (m0 s0 : Nat) (l0 : List Int) (g1 : Nat) (A1 : Option Addr) (m1 s1 : Nat) (l1 : List Int) (w : World) (hs0 : Sl w g0 (.slice A0 m0 s0) l0) (hn0 : m0 ≤ 140737488351232) (hg0 : l0 ≠ [] → g0 < w.heap.size) (hs1 : Sl w g1 (.slice A1 m1 s1) l1) (hn1 : m1 ≤ 140737488351232) (hg1 : l1 ≠ [] → g1 < w.heap.size) :
    Calls Try.prog 4 #[.slice A0 m0 s0, .slice A1 m1 s1] w fun e w' => e = .returned (.bool true) ∧ Fr (fun _ => False) w w' := by
  obtain ⟨V, hV⟩ : ∃ V, V = ext l0 l1 := ⟨_, rfl⟩
  have lV : Hid (V.length = 32) := by show _ = _; rw [hV]; exact ext_length _ _
  have L0 := Lib.hid hs0.len
  have L1 := Lib.hid hs1.len
  have HM : Hid (m0 ≤ 140737488351232 ∧ m1 ≤ 140737488351232) := ⟨hn0, hn1⟩
  have C1 : ∀ W g3 A3 m3 c3 g4 A4 m4 c4, Sl W g3 (.slice A3 m3 c3) l0 → Sl W g4 (.slice A4 m4 c4) l1 → Calls Try.prog 16 #[.slice A3 m3 c3, .slice A4 m4 c4] W fun e w' => e = .returned (.agg (vs .u8 V)) ∧ Fr (fun _ => False) W w' := fun W g3 A3 m3 c3 g4 A4 m4 c4 h3 h4 => by
    have e3 := h3.len
    have e4 := h4.len
    rw [hV]
    exact kextract_is g3 A3 m3 c3 l0 g4 A4 m4 c4 l1 W h3 (by have := L0.out; omega) h4 (by have := L1.out; omega)
  have C2 : ∀ W, Fr (fun _ => False) w W → Calls Try.prog 17 #[.slice A0 m0 s0, .slice A1 m1 s1] W fun e w' => e = .returned (.agg (vs .u8 V)) ∧ Fr (fun _ => False) W w' := fun W hf => by
    rw [hV]
    exact rextract_is g0 A0 m0 s0 l0 g1 A1 m1 s1 l1 W (hs0.fr hf (fun _ x => x)) (by omega) (hs1.fr hf (fun _ x => x)) (by omega)
  have HE : ∀ W, (Op.equalIn 10000 24 (.agg (vs .u8 V)) (.agg (vs .u8 V))).run Try.prog W = .ok true W := fun W => (eq32 V V lV.out lV.out W).trans (by rw [decide_eq_true rfl])
  have H0 := Lib.hid hs0
  have H1 := Lib.hid hs1
  clear hV hs0 hs1 hn0 hn1 hg0 hg1
  go_enter Try.func4, Try.ntmps4
  have tk1 : True := trivial
  go_upto_region 2 with (first
    | (go_at_call 11; clear tk1; refine (copy_new w w H0.out (by have := HM.out; omega) (Fr.refl _ _)).mono ?_; rintro e w1 ⟨v1, rfl, hn, hf⟩; have P1 := Lib.hid hn; have F1 := Lib.hid hf; clear hn hf)
    | (go_at_call 11; refine (copy_new w w1 (H1.out.fr F1.out (fun _ x => x)) (by have := HM.out; omega) F1.out).mono ?_; rintro e w2 ⟨v2, rfl, hn, hf⟩; have P2 := Lib.hid hn; have G2 := Lib.hid hf; clear hn hf))
  replace P1 := Lib.hid (P1.out.fr G2.out (fun _ x => x))
  have F2 := Lib.hid (F1.out.trans G2.out)
  obtain ⟨Ax, nx, cx, rfl, hnx⟩ := P1.out.1.shape
  obtain ⟨Ay, ny, cy, rfl, hny⟩ := P2.out.1.shape
  clear hnx hny F1 G2
  have tk1 : True := trivial
  go_wp2_with (first
    | (go_at_call 16; refine (C1 _ _ _ _ _ _ _ _ _ P1.out.1.sl P2.out.1.sl).mono ?_; rintro e w3 ⟨rfl, hf⟩; have G3 := Lib.hid hf; clear hf)
    | (go_at_call 17; refine (C2 _ (F2.out.trans G3.out)).mono ?_; rintro e w4 ⟨rfl, hf⟩; have G4 := Lib.hid (G3.out.trans hf); clear hf)
    | (go_at_call 14; clear tk1; refine (eq_yes _ (P1.out.fr G4.out (fun _ x => x)).1.sl (H0.out.fr (F2.out.trans G4.out) (fun _ x => x)) rfl).mono ?_; rintro e w5 ⟨rfl, hf⟩; have G5 := Lib.hid (G4.out.trans hf); clear hf)
    | (go_at_call 14; refine (eq_yes _ (P2.out.fr G5.out (fun _ x => x)).1.sl (H1.out.fr (F2.out.trans G5.out) (fun _ x => x)) rfl).mono ?_; rintro e w6 ⟨rfl, hf⟩; have G6 := Lib.hid (G5.out.trans hf); clear hf)
    | (go_at_call 15; refine (works_is _).mono ?_; rintro e w7 ⟨rfl, hf⟩; have F7 := Lib.hid ((F2.out.trans G6.out).trans hf); clear hf))
  go_ret
  exact ⟨rfl, F7.out⟩

set_option maxRecDepth 100000 in
theorem law_extract_lifted (os : Os) (started : os.Started) (H : Type) (enc : TypeId × Value → H) :
    ReturnsInHanded {} Try.checked os 4 .any (Rows.kdfExtractSpec.pre6 enc Try.prog Try.f4 Rows.kdfExtractRow.domain false) (Rows.kdfExtractSpec.post enc Try.prog Try.f4 false true false false) := by
  refine returnsInHanded_of_change_sized (C := Try.checked) own started (by kernel_rfl) Try.func4
    (ChangeSpec.witness6 (enc := enc) (C := Try.checked) false ⟨#[], #[.slice none 0 0, .slice none 0 0], []⟩ 8 (by kernel_rfl) (by kernel_rfl) (by kernel_rfl) (by kernel_rfl)) ?_
  intro W base args ds gs before hval0 hW hcnd hsz0 _
  have hsz : (DataW.weightsEach Try.prog (Try.f4.params.toList ++ Rows.kdfExtractSpec.plain.varTypes Try.prog) (ds ++ gs)).all (· ≤ reachBytes) = true := hsz0
  clear hsz0
  have hval : ∀ (j : Nat) t v, Try.f4.params[j]? = some t → args[j]? = some v → Value.okWide Try.prog W .any base t v := hval0
  have hW' := hW
  obtain ⟨p, q, hA0, hV, rfl, hfz, hnd⟩ := hW
  have hA : DataW.TrodAll enc Try.prog W 0 (fun _ => true) true Try.f4.params.toList args.toList ds p := hA0
  rw [Try.params4] at hA hval hsz
  obtain ⟨v0, vs0, d0, ds0, p0, q0, hargs, rfl, rfl, h0, r0⟩ := trodAll_cons hA
  obtain ⟨v1, vs1, d1, ds1, p1, q1, rfl, rfl, rfl, h1, r1⟩ := trodAll_cons r0
  obtain ⟨rfl, rfl, rfl⟩ := trodAll_nil r1
  obtain rfl : args = #[v0, v1] := by cases args; simp_all
  obtain ⟨rfl, rfl⟩ := trodVars_none hV
  have hlt0 : ∀ x ∈ p0, x.block < W.heap.size := fun x hx => hW'.lt x (by simp [hx])
  have hlt1 : ∀ x ∈ p1, x.block < W.heap.size := fun x hx => hW'.lt x (by simp [hx])
  obtain ⟨A0, m0, s0, g0, l0, rfl, hs0, hg0⟩ := open_sl (hval 0 22 v0 rfl rfl) h0 hlt0
  have hn0 : m0 ≤ 140737488351232 := by
    rcases open_len h0 with e | ⟨el, sp, rfl, hle⟩
    · omega
    · have := sized_slice hsz (j := 0) (t := 22) (e := 5) rfl rfl Try.underlying22
      rw [Try.bytes5] at this
      simp only [reachBytes] at this
      omega
  obtain ⟨A1, m1, s1, g1, l1, rfl, hs1, hg1⟩ := open_sl (hval 1 22 v1 rfl rfl) h1 hlt1
  have hn1 : m1 ≤ 140737488351232 := by
    rcases open_len h1 with e | ⟨el, sp, rfl, hle⟩
    · omega
    · have := sized_slice hsz (j := 1) (t := 22) (e := 5) rfl rfl Try.underlying22
      rw [Try.bytes5] at this
      simp only [reachBytes] at this
      omega
  clear hA0 hval0
  refine (law_extract_any g0 A0 m0 s0 l0 g1 A1 m1 s1 l1 W hs0 hn0 hg0 hs1 hn1 hg1).mono fun e W' ⟨he, hg⟩ => ?_
  subst he
  exact ⟨_, rfl, post_true rfl hW' (by kernel_rfl) rfl rfl hg⟩

theorem kdfExtract_holds : Rows.KdfExtractSaid :=
  OpenClaim.holds_of_wide 4 Try.f4 rfl rfl rfl rfl rfl rfl rfl ⟨rfl, rfl, rfl, rfl, rfl⟩ rfl rfl rfl rfl rfl (by kernel_rfl) Try.func4 (by kernel_rfl)
    (of_decide_eq_true (by kernel_rfl)) (by unfold Func.isWrapper; first | (rw [if_pos (by decide +kernel)]; kernel_rfl) | (rw [if_neg (by decide +kernel)]; exact ⟨rfl, rfl⟩))
    (fun os started H enc _ => law_extract_lifted os started H enc)
#print axioms kdfExtract_holds
end Go.Proofs.Ytebknlhooijkcaa
