/- WireNests answers true for all bytes and all that is put ahead and behind, and its arguments read behind the call as they did: the given statement WireNestsSaid. No condition. -/
import Derived.Test.YtkkicekhkidhjaaCalls
import Derived.Test.YtkkicekhkidhjaaNestsW
namespace Go.Proofs.Ytkkicekhkidhjaa
open Go.ChangeShapes Go.WideShapes Go.ChangeAt Go.RowKit

theorem open_rows {H : Type} {enc : TypeId × Value → H} {W : World} {base : Nat} {v : Value} {d : DataW H} {ps : List MemPlace} (hv : Value.okWide Try.prog W .any base 55 v) (h : DataW.Trod enc Try.prog W 0 (fun _ => true) true 55 v d ps) (hlt : ∀ x ∈ ps, x.block < W.heap.size) :
    ∃ A len cap, v = .slice A len cap ∧ (len = 0 ∨ ∃ elems spare, d = .slice elems spare ∧ len ≤ elems.length + spare.length) ∧
      (0 < len → ∃ (b off : Nat) (D : Nat → List Int), A = some ⟨b, off, none⟩ ∧ ∀ i, i < len → ∃ A m c g, RowAt W b off i A m c g (D i)) := by
  obtain ⟨A, len, cap, rfl⟩ := okWide_slice Try.underlying55 hv
  obtain ⟨fuel, hf⟩ := h
  rcases Go.Deep.open_slice1 Try.underlying55 Try.cells27 hf with ⟨hcs, hx⟩ | ⟨a, len', cap', m, n, V, D, Pl, hcs, _, hl, hm, hmm, hx, hel⟩
  · simp [Value.cells] at hcs
    obtain ⟨rfl, rfl, rfl⟩ := hcs
    exact ⟨none, 0, 0, rfl, .inl rfl, fun h => absurd h (Nat.lt_irrefl _)⟩
  · simp [Value.cells] at hcs
    obtain ⟨rfl, rfl, rfl⟩ := hcs
    simp only [if_true] at hmm
    simp only [Prod.mk.injEq] at hx
    obtain ⟨rfl, rfl⟩ := hx
    subst hmm
    refine ⟨_, len, m, rfl, .inr ⟨_, _, rfl, by simp⟩, fun h0 => ?_⟩
    obtain ⟨b, off, spot⟩ := a
    have hspot : spot = none := by
      have := (hel 0 (by omega)).1
      simpa [Addr.add] using World.cell?_spot this
    subst hspot
    have each : ∀ i, i < len → ∃ l A m c g, RowAt W b off i A m c g l := by
      intro i hi
      obtain ⟨h1, h2⟩ := hel i (by omega)
      have hpl : ∀ x ∈ Pl i, x.block < W.heap.size := fun x hx => hlt x (List.mem_append_right _ (List.mem_flatMap.2 ⟨i, List.mem_range.2 (by omega), hx⟩))
      obtain ⟨A, m', c, g, data, e3, hs, hg⟩ := open_sl_cell h2 hpl
      rw [Addr_add_none, e3] at h1
      exact ⟨data, A, m', c, g, h1, hs, hg⟩
    refine ⟨b, off, fun i => if h : i < len then (each i h).choose else [], rfl, fun i hi => ?_⟩
    have := (each i hi).choose_spec
    simpa [hi] using this

set_option maxRecDepth 100000 in
theorem nests_lifted (os : Os) (started : os.Started) (H : Type) (enc : TypeId × Value → H) :
    ReturnsInHanded {} Try.checked os 8 .any (Rows.wireNestsSpec.pre6 enc Try.prog Try.f8 Rows.wireNestsRow.domain false) (Rows.wireNestsSpec.post enc Try.prog Try.f8 false true false false) := by
  refine returnsInHanded_of_change_sized (C := Try.checked) own started (by kernel_rfl) Try.func8
    (ChangeSpec.witness6 (enc := enc) (C := Try.checked) false ⟨#[], #[.slice none 0 0, .slice none 0 0, .slice none 0 0], []⟩ 8 (by kernel_rfl) (by kernel_rfl) (by kernel_rfl) (by kernel_rfl)) ?_
  intro W base args ds gs before hval0 hW hcnd hsz0 _
  have hsz : (DataW.weightsEach Try.prog (Try.f8.params.toList ++ Rows.wireNestsSpec.plain.varTypes Try.prog) (ds ++ gs)).all (· ≤ reachBytes) = true := hsz0
  clear hsz0
  have hval : ∀ (j : Nat) t v, Try.f8.params[j]? = some t → args[j]? = some v → Value.okWide Try.prog W .any base t v := hval0
  have hW' := hW
  obtain ⟨p, q, hA0, hV, rfl, hfz, hnd⟩ := hW
  have hA : DataW.TrodAll enc Try.prog W 0 (fun _ => true) true Try.f8.params.toList args.toList ds p := hA0
  rw [Try.params8] at hA hval hsz
  obtain ⟨v0, vs0, d0, ds0, p0, q0, hargs, rfl, rfl, h0, r0⟩ := trodAll_cons hA
  obtain ⟨v1, vs1, d1, ds1, p1, q1, rfl, rfl, rfl, h1, r1⟩ := trodAll_cons r0
  obtain ⟨v2, vs2, d2, ds2, p2, q2, rfl, rfl, rfl, h2, r2⟩ := trodAll_cons r1
  obtain ⟨rfl, rfl, rfl⟩ := trodAll_nil r2
  obtain rfl : args = #[v0, v1, v2] := by cases args; simp_all
  obtain ⟨rfl, rfl⟩ := trodVars_none hV
  have hlt0 : ∀ x ∈ p0, x.block < W.heap.size := fun x hx => hW'.lt x (by simp [hx])
  have hlt1 : ∀ x ∈ p1, x.block < W.heap.size := fun x hx => hW'.lt x (by simp [hx])
  have hlt2 : ∀ x ∈ p2, x.block < W.heap.size := fun x hx => hW'.lt x (by simp [hx])
  obtain ⟨A, n, c, g, l, rfl, hs, hg⟩ := open_sl (hval 0 27 v0 rfl rfl) h0 hlt0
  obtain ⟨AA, la, ca, rfl, za, hRA⟩ := open_rows (hval 1 55 v1 rfl rfl) h1 hlt1
  obtain ⟨BB, lb, cb, rfl, zb, hRB⟩ := open_rows (hval 2 55 v2 rfl rfl) h2 hlt2
  have hby : Try.prog.bytesOf 27 = 24 := by kernel_rfl
  have hla : la ≤ 140737488355328 := by
    rcases za with e | ⟨el, sp, rfl, hle⟩
    · omega
    · have := sized_slice hsz (j := 1) (t := 55) (e := 27) rfl rfl Try.underlying55
      rw [hby] at this
      simp only [reachBytes] at this
      omega
  have hlb : lb ≤ 140737488355328 := by
    rcases zb with e | ⟨el, sp, rfl, hle⟩
    · omega
    · have := sized_slice hsz (j := 2) (t := 55) (e := 27) rfl rfl Try.underlying55
      rw [hby] at this
      simp only [reachBytes] at this
      omega
  clear hA0 hval0
  have fin : ∀ (e : Ending) (W' : World), e = .returned (.bool true) ∧ Fr (fun _ => False) W W' → ∃ v, e = .returned v ∧ Rows.wireNestsSpec.post enc Try.prog Try.f8 false true false false W #[.slice A n c, .slice AA la ca, .slice BB lb cb] v W' := by
    rintro e W' ⟨he, hg⟩
    subst he
    exact ⟨_, rfl, post_true rfl hW' (by kernel_rfl) rfl rfl hg⟩
  by_cases hz : la = 0 ∨ lb = 0
  · exact (nests_zero A AA BB n c g l la ca lb cb W hs hz hla hlb).mono fin
  · obtain ⟨ba, oa, DA, e1, hDA⟩ := hRA (by omega)
    obtain ⟨bb, ob, DB, e2, hDB⟩ := hRB (by omega)
    subst e1
    subst e2
    exact (nests_any A n c g l ba oa la ca bb ob lb cb W hs DA DB hDA hDB hla hlb).mono fin

theorem wireNests_holds : Rows.WireNestsSaid :=
  OpenClaim.holds_of_wide 8 Try.f8 rfl rfl rfl rfl rfl rfl rfl ⟨rfl, rfl, rfl, rfl, rfl⟩ rfl rfl rfl rfl rfl (by kernel_rfl) Try.func8 (by kernel_rfl)
    (of_decide_eq_true (by kernel_rfl)) (by unfold Func.isWrapper; first | (rw [if_pos (by decide +kernel)]; kernel_rfl) | (rw [if_neg (by decide +kernel)]; exact ⟨rfl, rfl⟩))
    (fun os started H enc _ => nests_lifted os started H enc)
#print axioms wireNests_holds
end Go.Proofs.Ytkkicekhkidhjaa
