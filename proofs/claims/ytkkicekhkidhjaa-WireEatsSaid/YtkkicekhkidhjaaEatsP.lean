/- WireEats answers true for every slice of bytes and every list of calls, and its arguments read behind the call as they did: the given statement WireEatsSaid. No condition. -/
import Derived.Test.YtkkicekhkidhjaaTwoP
import Derived.Test.YtkkicekhkidhjaaCalls
import Derived.Test.YtkkicekhkidhjaaEatsW
namespace Go.Proofs.Ytkkicekhkidhjaa
open Go.ChangeShapes Go.WideShapes Go.ChangeAt Go.RowKit

set_option maxRecDepth 100000 in
theorem eats_lifted (os : Os) (started : os.Started) (H : Type) (enc : TypeId × Value → H) :
    ReturnsInHanded {} Try.checked os 4 .any (Rows.wireEatsSpec.pre6 enc Try.prog Try.f4 Rows.wireEatsRow.domain false) (Rows.wireEatsSpec.post enc Try.prog Try.f4 false true false false) := by
  refine returnsInHanded_of_change_sized (C := Try.checked) own started (by kernel_rfl) Try.func4
    (ChangeSpec.witness6 (enc := enc) (C := Try.checked) false ⟨#[], #[.slice none 0 0, .slice none 0 0], []⟩ 8 (by kernel_rfl) (by kernel_rfl) (by kernel_rfl) (by kernel_rfl)) ?_
  intro W base args ds gs before hval0 hW hcnd hsz0 _
  have hsz : (DataW.weightsEach Try.prog (Try.f4.params.toList ++ Rows.wireEatsSpec.plain.varTypes Try.prog) (ds ++ gs)).all (· ≤ reachBytes) = true := hsz0
  clear hsz0
  have hval : ∀ (j : Nat) t v, Try.f4.params[j]? = some t → args[j]? = some v → Value.okWide Try.prog W .any base t v := hval0
  have hW' := hW
  obtain ⟨p, q, hA0, hV, rfl, hfz, hnd⟩ := hW
  have hA : DataW.TrodAll enc Try.prog W 0 (fun _ => true) true Try.f4.params.toList args.toList ds p := hA0
  rw [Try.params4] at hA hval hsz
  obtain ⟨v0, vs0, d0, ds0, p0, q0, hargs, rfl, rfl, h0, r0⟩ := trodAll_cons hA
  obtain ⟨v1, vs1, d1, ds1, p1, q1, rfl, rfl, rfl, h1, r1⟩ := trodAll_cons r0
  obtain ⟨rfl, rfl, rfl⟩ := trodAll_nil r1
  obtain rfl : args = #[v0, v1] := by cases args; simp_all
  obtain ⟨rfl, rfl⟩ := trodVars_none hV
  have hlt : ∀ x ∈ p0, x.block < W.heap.size := fun x hx => hW'.lt x (by simp [hx])
  have hlt1 : ∀ x ∈ p1, x.block < W.heap.size := fun x hx => hW'.lt x (by simp [hx])
  obtain ⟨A, n, c, g, l, rfl, hs, hg⟩ := open_sl (hval 0 27 v0 rfl rfl) h0 hlt
  have hn : n ≤ 140737488355328 := by
    rcases open_len h0 with e | ⟨el, sp, rfl, hle⟩
    · omega
    · have := sized_slice hsz (j := 0) (t := 27) (e := 5) rfl rfl Try.underlying27
      rw [Try.bytes5] at this
      simp only [reachBytes] at this
      omega
  obtain ⟨V, len, cap, rfl, hm, hC⟩ := open_calls (hval 1 22 v1 rfl rfl) h1 hlt1
  clear hA0 hval0
  have hlen : len ≤ 140737488355328 := by
    obtain ⟨fuel, hf⟩ := h1
    rcases Go.Deep.open_slice Try.underlying22 hf with ⟨hcs, hx⟩ | ⟨a, len', cap', m, n, D, Pl, hcs, _, hl2, hm2, hmm, hx, hel⟩
    · simp [Value.cells] at hcs
      omega
    · simp [Value.cells] at hcs
      obtain ⟨_, rfl, rfl⟩ := hcs
      simp only [Prod.mk.injEq] at hx
      obtain ⟨rfl, _⟩ := hx
      have := sized_slice hsz (j := 1) (t := 22) (e := 29) rfl rfl Try.underlying22
      simp only [List.length_map, List.length_range, reachBytes] at this
      have hb : Try.prog.bytesOf 29 = 48 := by kernel_rfl
      rw [hb] at this
      omega
  have main : Calls Try.prog 4 #[.slice A n c, .slice V len cap] W fun e w' => e = .returned (.bool true) ∧ Fr (fun _ => False) W w' := by
    rcases Nat.eq_zero_or_pos len with rfl | hl
    · exact eats_any g A n c l V 0 0 0 cap (fun h => absurd h (Nat.lt_irrefl _)) W hs hn hlen (fun i hi => absurd hi (Nat.not_lt_zero _))
    · obtain ⟨b, off, rfl, hC2⟩ := hC hl
      exact eats_any g A n c l _ b off len cap (fun _ => rfl) W hs hn hlen hC2
  refine main.mono fun e W' ⟨he, hg⟩ => ?_
  subst he
  exact ⟨_, rfl, post_true rfl hW' (by kernel_rfl) rfl rfl hg⟩

theorem wireEats_holds : Rows.WireEatsSaid :=
  OpenClaim.holds_of_wide 4 Try.f4 rfl rfl rfl rfl rfl rfl rfl ⟨rfl, rfl, rfl, rfl, rfl⟩ rfl rfl rfl rfl rfl (by kernel_rfl) Try.func4 (by kernel_rfl)
    (of_decide_eq_true (by kernel_rfl)) (by unfold Func.isWrapper; first | (rw [if_pos (by decide +kernel)]; kernel_rfl) | (rw [if_neg (by decide +kernel)]; exact ⟨rfl, rfl⟩))
    (fun os started H enc _ => eats_lifted os started H enc)
#print axioms wireEats_holds
end Go.Proofs.Ytkkicekhkidhjaa
