/- BlakeSum answers true for all bytes: the given statement BlakeSumSaid. No condition. -/
import Derived.Test.YtafpcaoccocpfaaZl
namespace Go.Proofs.Ytafpcaoccocpfaa
set_option linter.unusedSimpArgs false
set_option linter.unusedVariables false
open Go.ChangeShapes Go.WideShapes Go.ChangeAt Go.RowKit

set_option maxRecDepth 100000 in
set_option maxHeartbeats 8000000 in
theorem law_sum_any (g0 : Nat) (A0 : Option Addr) (m0 s0 : Nat) (l0 : List Int) (w : World) (hs0 : Sl w g0 (.slice A0 m0 s0) l0) (hn0 : m0 ≤ 140737488351232) (hg0 : l0 ≠ [] → g0 < w.heap.size) :
    Calls Try.prog 4 #[.slice A0 m0 s0] w fun e w' => e = .returned (.bool true) ∧ Fr (fun _ => False) w w' := by
  obtain ⟨V, hV⟩ : ∃ V, V = dig 32 [] l0 := ⟨_, rfl⟩
  have C1 : ∀ W, Fr (fun _ => False) w W → Calls Try.prog 16 #[.slice A0 m0 s0] W fun e w' => e = .returned (.agg (vs .u8 V)) ∧ Fr (fun _ => False) W w' := fun W hf => by rw [hV]; exact sum_is g0 A0 m0 s0 l0 W (hs0.fr hf (fun _ x => x)) hn0
  have C2 : ∀ W, Fr (fun _ => False) w W → Calls Try.prog 17 #[.slice A0 m0 s0] W fun e w' => e = .returned (.agg (vs .u8 V)) ∧ Fr (fun _ => False) W w' := fun W hf => by rw [hV]; exact rsum_is g0 A0 m0 s0 l0 W (hs0.fr hf (fun _ x => x)) hn0
  have lV : Hid (V.length = 32) := by show _ = _; rw [hV]; exact dig_length (by decide) _ _
  have HE : ∀ W, (Op.equalIn 10000 30 (.agg (vs .u8 V)) (.agg (vs .u8 V))).run Try.prog W = .ok true W := fun W => (eq32 V V lV.out lV.out W).trans (by rw [decide_eq_true rfl])
  clear hV hs0 hn0 hg0
  go_enter Try.func4, Try.ntmps4
  go_wp2_with (first
    | (go_at_call 16; refine (C1 _ (Fr.refl _ _)).mono ?_; rintro e w1 ⟨rfl, hf⟩; have F1 := Lib.hid hf; clear hf)
    | (go_at_call 17; refine (C2 _ F1.out).mono ?_; rintro e w2 ⟨rfl, hf⟩; have F2 := Lib.hid (F1.out.trans hf); clear hf)
    | (go_at_call 15; refine (works_is _).mono ?_; rintro e w3 ⟨rfl, hf⟩; have F3 := Lib.hid (F2.out.trans hf); clear hf))
  go_ret
  exact ⟨rfl, F3.out⟩

set_option maxRecDepth 100000 in
theorem law_sum_lifted (os : Os) (started : os.Started) (H : Type) (enc : TypeId × Value → H) :
    ReturnsInHanded {} Try.checked os 4 .any (Rows.blakeSumSpec.pre6 enc Try.prog Try.f4 Rows.blakeSumRow.domain false) (Rows.blakeSumSpec.post enc Try.prog Try.f4 false true false false) := by
  refine returnsInHanded_of_change_sized (C := Try.checked) own started (by kernel_rfl) Try.func4
    (ChangeSpec.witness6 (enc := enc) (C := Try.checked) false ⟨#[], #[.slice none 0 0], []⟩ 8 (by kernel_rfl) (by kernel_rfl) (by kernel_rfl) (by kernel_rfl)) ?_
  intro W base args ds gs before hval0 hW hcnd hsz0 _
  have hsz : (DataW.weightsEach Try.prog (Try.f4.params.toList ++ Rows.blakeSumSpec.plain.varTypes Try.prog) (ds ++ gs)).all (· ≤ reachBytes) = true := hsz0
  clear hsz0
  have hval : ∀ (j : Nat) t v, Try.f4.params[j]? = some t → args[j]? = some v → Value.okWide Try.prog W .any base t v := hval0
  have hW' := hW
  obtain ⟨p, q, hA0, hV, rfl, hfz, hnd⟩ := hW
  have hA : DataW.TrodAll enc Try.prog W 0 (fun _ => true) true Try.f4.params.toList args.toList ds p := hA0
  rw [Try.params4] at hA hval hsz
  obtain ⟨v0, vs0, d0, ds0, p0, q0, hargs, rfl, rfl, h0, r0⟩ := trodAll_cons hA
  obtain ⟨rfl, rfl, rfl⟩ := trodAll_nil r0
  obtain rfl : args = #[v0] := by cases args; simp_all
  obtain ⟨rfl, rfl⟩ := trodVars_none hV
  have hlt0 : ∀ x ∈ p0, x.block < W.heap.size := fun x hx => hW'.lt x (by simp [hx])
  obtain ⟨A0, m0, s0, g0, l0, rfl, hs0, hg0⟩ := open_sl (hval 0 22 v0 rfl rfl) h0 hlt0
  have hn0 : m0 ≤ 140737488351232 := by
    rcases open_len h0 with e | ⟨el, sp, rfl, hle⟩
    · omega
    · have := sized_slice hsz (j := 0) (t := 22) (e := 5) rfl rfl Try.underlying22
      rw [Try.bytes5] at this
      simp only [reachBytes] at this
      omega
  clear hA0 hval0
  refine (law_sum_any g0 A0 m0 s0 l0 W hs0 hn0 hg0).mono fun e W' ⟨he, hg⟩ => ?_
  subst he
  exact ⟨_, rfl, post_true rfl hW' (by kernel_rfl) rfl rfl hg⟩

theorem blakeSum_holds : Rows.BlakeSumSaid :=
  OpenClaim.holds_of_wide 4 Try.f4 rfl rfl rfl rfl rfl rfl rfl ⟨rfl, rfl, rfl, rfl, rfl⟩ rfl rfl rfl rfl rfl (by kernel_rfl) Try.func4 (by kernel_rfl)
    (of_decide_eq_true (by kernel_rfl)) (by unfold Func.isWrapper; first | (rw [if_pos (by decide +kernel)]; kernel_rfl) | (rw [if_neg (by decide +kernel)]; exact ⟨rfl, rfl⟩))
    (fun os started H enc _ => law_sum_lifted os started H enc)
#print axioms blakeSum_holds
end Go.Proofs.Ytafpcaoccocpfaa
