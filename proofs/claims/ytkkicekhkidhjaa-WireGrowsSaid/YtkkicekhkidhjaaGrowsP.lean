/- WireGrows answers true for every list of calls, and its argument reads behind the call as it did: the given statement WireGrowsSaid. No condition. -/
import Derived.Test.YtkkicekhkidhjaaCalls
namespace Go.Proofs.Ytkkicekhkidhjaa
open Go.ChangeShapes Go.WideShapes Go.ChangeAt Go.RowKit

set_option maxRecDepth 100000 in
set_option maxHeartbeats 4000000 in
theorem grows_none (A : Option Addr) (cap : Nat) (w : World) :
    Calls Try.prog 5 #[.slice A 0 cap] w fun e w' => e = .returned (.bool true) ∧ Fr (fun _ => False) w w' := by
  go_enter Try.func5, Try.ntmps5
  go_wp2_with fail
  refine (works_any _).mono ?_
  rintro e w1 ⟨rfl, r1⟩
  have F1 := Lib.hid r1
  clear r1
  go_wp2_with fail
  refine (write_any _).mono ?_
  rintro e w2 ⟨rfl, r1, r2⟩
  have F2 : Hid (Fr (fun _ => False) w w2) := F1.out.trans r2
  clear r1 r2
  go_wp2_with fail
  go_rounds 1
  go_ret
  exact ⟨rfl, F2.out⟩

set_option maxRecDepth 100000 in
theorem grows_lifted (os : Os) (started : os.Started) (H : Type) (enc : TypeId × Value → H) :
    ReturnsInHanded {} Try.checked os 5 .any (Rows.wireGrowsSpec.pre6 enc Try.prog Try.f5 Rows.wireGrowsRow.domain false) (Rows.wireGrowsSpec.post enc Try.prog Try.f5 false true false false) := by
  refine returnsInHanded_of_change_sized (C := Try.checked) own started (by kernel_rfl) Try.func5
    (ChangeSpec.witness6 (enc := enc) (C := Try.checked) false ⟨#[], #[.slice none 0 0], []⟩ 8 (by kernel_rfl) (by kernel_rfl) (by kernel_rfl) (by kernel_rfl)) ?_
  intro W base args ds gs before hval0 hW hcnd hsz0 _
  have hsz : (DataW.weightsEach Try.prog (Try.f5.params.toList ++ Rows.wireGrowsSpec.plain.varTypes Try.prog) (ds ++ gs)).all (· ≤ reachBytes) = true := hsz0
  clear hsz0
  have hval : ∀ (j : Nat) t v, Try.f5.params[j]? = some t → args[j]? = some v → Value.okWide Try.prog W .any base t v := hval0
  have hW' := hW
  obtain ⟨p, q, hA0, hV, rfl, hfz, hnd⟩ := hW
  have hA : DataW.TrodAll enc Try.prog W 0 (fun _ => true) true Try.f5.params.toList args.toList ds p := hA0
  rw [Try.params5] at hA hval hsz
  obtain ⟨v0, vs0, d0, ds0, p0, q0, hargs, rfl, rfl, h0, r0⟩ := trodAll_cons hA
  obtain ⟨rfl, rfl, rfl⟩ := trodAll_nil r0
  obtain rfl : args = #[v0] := by cases args; simp_all
  obtain ⟨rfl, rfl⟩ := trodVars_none hV
  have hlt : ∀ x ∈ p0, x.block < W.heap.size := fun x hx => hW'.lt x (by simp [hx])
  obtain ⟨A, len, cap, rfl, hm, hC⟩ := open_calls (hval 0 22 v0 rfl rfl) h0 hlt
  clear hA0 hval0
  have fin : ∀ (e : Ending) (W' : World), e = .returned (.bool true) ∧ Fr (fun _ => False) W W' → ∃ v, e = .returned v ∧ Rows.wireGrowsSpec.post enc Try.prog Try.f5 false true false false W #[.slice A len cap] v W' := by
    rintro e W' ⟨he, hg⟩
    subst he
    exact ⟨_, rfl, post_true rfl hW' (by kernel_rfl) rfl rfl hg⟩
  rcases Nat.eq_zero_or_pos len with rfl | hl
  · exact (grows_none A cap W).mono fin
  · obtain ⟨b, off, rfl, hC2⟩ := hC hl
    refine (grows_any b off len cap W ?_ hC2).mono fin
    obtain ⟨fuel, hf⟩ := h0
    rcases Go.Deep.open_slice Try.underlying22 hf with ⟨hcs, hx⟩ | ⟨a, len', cap', m, n, D, Pl, hcs, _, hl2, hm2, hmm, hx, hel⟩
    · simp [Value.cells] at hcs
    · simp [Value.cells] at hcs
      obtain ⟨_, rfl, rfl⟩ := hcs
      simp only [Prod.mk.injEq] at hx
      obtain ⟨rfl, _⟩ := hx
      have := sized_slice hsz (j := 0) (t := 22) (e := 29) rfl rfl Try.underlying22
      simp only [List.length_map, List.length_range, reachBytes] at this
      have hb : Try.prog.bytesOf 29 = 48 := by kernel_rfl
      rw [hb] at this
      omega

theorem wireGrows_holds : Rows.WireGrowsSaid :=
  OpenClaim.holds_of_wide 5 Try.f5 rfl rfl rfl rfl rfl rfl rfl ⟨rfl, rfl, rfl, rfl, rfl⟩ rfl rfl rfl rfl rfl (by kernel_rfl) Try.func5 (by kernel_rfl)
    (of_decide_eq_true (by kernel_rfl)) (by unfold Func.isWrapper; first | (rw [if_pos (by decide +kernel)]; kernel_rfl) | (rw [if_neg (by decide +kernel)]; exact ⟨rfl, rfl⟩))
    (fun os started H enc _ => grows_lifted os started H enc)
#print axioms wireGrows_holds
end Go.Proofs.Ytkkicekhkidhjaa
