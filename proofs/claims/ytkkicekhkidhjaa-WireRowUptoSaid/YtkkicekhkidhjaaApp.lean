/- Append onto a writer's list, whatever the source: what it leaves, as a law for the walks. Condition: not more bytes than a machine has. -/
import Derived.Test.YtkkicekhkidhjaaEq
namespace Go.Proofs.Ytkkicekhkidhjaa
set_option linter.unusedSimpArgs false
set_option linter.unusedVariables false
open Go.RowKit

/-- What an append of k onto the list of the writer at p leaves. -/
structure Ap (w : World) (p : Nat) (v : Value) (l k : List Int) (v' : Value) (w' : World) : Prop where
  own : w'.ownsRow 0 5 1 v' (l ++ k).length (bs (l ++ k))
  grown : w.grownBy w' v.ownBlock
  at_ : v'.ownBlock = v.ownBlock ∨ v'.ownBlock = some w.heap.size
  lt : p < w.heap.size
  ne : v.ownBlock ≠ some p
  here : w.heap[p]? = some (.cells #[.bool true, v] 60 (0, 0))
  bys : Bys (l ++ k)

theorem Ap.heap {w : World} {p : Nat} {v : Value} {l k : List Int} {v' : Value} {w' : World} (h : Ap w p v l k v' w') : w'.heap[p]? = some (.cells #[.bool true, v] 60 (0, 0)) :=
  (h.grown.block p h.lt (fun e => h.ne e.symm)).trans h.here
theorem Ap.cell {w : World} {p : Nat} {v : Value} {l k : List Int} {v' : Value} {w' : World} (h : Ap w p v l k v' w') : w'.cell? ⟨p, 1, none⟩ = some v := by
  rw [cell_of_row w' p 1 _ _ _ h.heap]; rfl
theorem Ap.frozen {w : World} {p : Nat} {v : Value} {l k : List Int} {v' : Value} {w' : World} (h : Ap w p v l k v' w') : w'.frozen? ⟨p, 1, none⟩ = false := frozen_of_row w' p 1 _ _ h.heap
theorem Ap.stored {w : World} {p : Nat} {v : Value} {l k : List Int} {v' : Value} {w' : World} (h : Ap w p v l k v' w') : Wr (w'.setCell ⟨p, 1, none⟩ v') p v' (l ++ k) := by
  have hne : v'.ownBlock ≠ some p := by
    rcases h.at_ with e | e
    · rw [e]; exact h.ne
    · rw [e]; intro x; have := h.lt; injection x; omega
  refine ⟨?_, ?_, h.bys⟩
  · rw [heap_setCell_same w' p 1 _ _ v' h.heap]; rfl
  · obtain ⟨hl, hx⟩ := h.own
    refine ⟨hl, ?_⟩
    rcases hx with hx | ⟨g, cap, cur, hv', hb, hh, r⟩
    · exact .inl hx
    · refine .inr ⟨g, cap, cur, hv', hb, ?_, r⟩
      rw [heap_setCell_other w' _ g _ (by rintro rfl; exact hne (by rw [hv']; rfl))]
      exact hh
theorem Ap.fr {w : World} {p : Nat} {v : Value} {l k : List Int} {v' : Value} {w' : World} (h : Ap w p v l k v' w') : Fr (Tw p v) w (w'.setCell ⟨p, 1, none⟩ v') :=
  ((Fr.refl _ w).grown h.grown (fun k hk => .inl (.inr hk))).setCell _ (.inl (.inl rfl))
theorem Ap.new {w : World} {p : Nat} {v : Value} {l k : List Int} {v' : Value} {w' : World} (h : Ap w p v l k v' w') : ∀ j, v'.ownBlock = some j → v.ownBlock = some j ∨ w.heap.size ≤ j := by
  intro j hj
  rcases h.at_ with e | e
  · rw [e] at hj; exact .inl hj
  · rw [e] at hj; injection hj with hj; exact .inr (by omega)

theorem run_app_nil (w : World) (ty : TypeId) (v : Value) (n : Nat) (xs : List Value) (hown : w.ownsRow 0 5 1 v n xs) (c : Nat) : (Builtin.append_ #[27, 27] ty #[v, .slice none 0 c]).run Try.prog w = .ok v w := by
  obtain ⟨i0, hi, hz0, hz1, hz2⟩ := info_parts Try.info5
  rcases hown.2 with ⟨rfl, _⟩ | ⟨g, cap, cur, rfl, _, _, hnc, _⟩
  · simp [Builtin.append_, run_underlying Try.underlying27, sizeOf, typeInfo, hi, Builtin.lenOf, Builtin.firstCells]
  · simp [Builtin.append_, run_underlying Try.underlying27, sizeOf, typeInfo, hi, Builtin.lenOf, Builtin.firstCells, hnc, storeCells]

theorem run_app {w : World} {p : Nat} {v : Value} {l : List Int} (ty : TypeId) (h : Wr w p v l) {g : Nat} {A : Option Addr} {m c : Nat} {k : List Int} (hs : Sl w g (.slice A m c) k) (hlen : l.length + m ≤ 140737488355328) :
    ∃ A' c' w', (Builtin.append_ #[27, 27] ty #[v, .slice A m c]).run Try.prog w = .ok (.slice A' (l ++ k).length c') w' ∧ Ap w p v l k (.slice A' (l ++ k).length c') w' := by
  obtain ⟨i0, hi, hz0, hz1, hz2⟩ := info_parts Try.info5
  have hkl := hs.len
  have main : ∃ v' w', (Builtin.append_ #[27, 27] ty #[v, .slice A m c]).run Try.prog w = .ok v' w' ∧ w'.ownsRow 0 5 1 v' (l ++ k).length (bs (l ++ k)) ∧ w.grownBy w' v.ownBlock ∧ (v'.ownBlock = v.ownBlock ∨ v'.ownBlock = some w.heap.size) := by
    rcases A with _ | ad
    · have hk : k = [] := by
        rcases k with _ | ⟨b, k'⟩
        · rfl
        · obtain ⟨_, A', c', e, _, _, hx⟩ := hs
          injection e with e1
          obtain ⟨o, e2, _⟩ := hx (by simp)
          rw [← e1] at e2; cases e2
      subst hk
      have hm : m = 0 := by simpa using hkl.symm
      subst hm
      refine ⟨v, w, run_app_nil w ty v _ _ h.2.1 c, by simpa using h.2.1, World.grownBy.refl w _, .inl rfl⟩
    · have hcells : ∀ j u, (bs k)[j]? = some u → w.cell? (ad.add j) = some u := by
        intro j u hu
        rw [bs_get] at hu
        obtain ⟨b, hb, rfl⟩ := Option.map_eq_some_iff.1 hu
        obtain ⟨_, A', c', e, _, _, hx⟩ := hs
        injection e with e1
        obtain ⟨o, e2, _, hcell⟩ := hx (by rintro rfl; simp at hb)
        rw [← e1] at e2
        injection e2 with e2
        subst e2
        rw [Addr_add_none]
        exact hcell j b hb
      obtain ⟨v', w', hrun, h2, h3, _, h5⟩ := run_append_own_at (P := Try.prog) w 0 27 ty 5 i0 _ 1 1 Try.underlying27 hi hz0 hz1 hz2 rfl (by decide) v l.length (bs l) h.2.1 ad m c (bs k) (by rw [bs_length]; omega) hcells (bs_one k) (by simp only [maxLen]; omega) (by omega) (Nat.zero_le _)
      refine ⟨v', w', hrun, ?_, h3, h5⟩
      rw [bs_append] at h2
      rw [List.length_append, hkl]
      exact h2
  obtain ⟨v', w', hrun, h2, h3, h5⟩ := main
  have sh : ∃ A' c', v' = .slice A' (l ++ k).length c' := by
    rcases h2.2 with ⟨e, e0⟩ | ⟨g, cap, cur, e, _⟩
    · exact ⟨none, 0, by rw [e, e0]⟩
    · exact ⟨_, cap, e⟩
  obtain ⟨A', c', rfl⟩ := sh
  exact ⟨A', c', w', hrun, h2, h3, h5, heap_lt h.1, h.ne, h.1, h.2.2.append hs.1⟩

theorem wp_app {o : Oper} {a : Act} {w : World} {K : Act → World → Prop} {Q : Exit → Act → World → Prop} (s x : Operand)
    (ho : o.op = .call { callee := .builtin .append, args := #[s, x], argTypes := #[27, 27] })
    {p : Nat} {v : Value} {l : List Int} (h : Wr w p v l) (hsv : a.eval s = v) {g : Nat} {A : Option Addr} {m c : Nat} {k : List Int} (hx : a.eval x = .slice A m c) (hs : Sl w g (.slice A m c) k) (hlen : l.length + m ≤ 140737488355328)
    (hK : ∀ A' N c' w', Ap w p v l k (.slice A' N c') w' → K (a.put o.dst (.slice A' N c')) w') : o.wp Try.prog a w K Q := by
  obtain ⟨A', c', w', hrun, hap⟩ := run_app o.type h hs hlen
  unfold Oper.wp execOp
  simp only [ho, resolve, invoke, builtin, Sem.run_bind, Sem.run_pure, Result.andThen_ok, List.map_toArray, List.map_cons, List.map_nil, hsv, hx, hrun]
  exact hK A' _ c' w' hap
theorem wpList_app {ops : Array Oper} {rest : List Oper} {o : Oper} {a : Act} {w : World} {Q : Exit → Act → World → Prop} (hgd : o.guard = none) (s x : Operand)
    (ho : o.op = .call { callee := .builtin .append, args := #[s, x], argTypes := #[27, 27] })
    {p : Nat} {v : Value} {l : List Int} (h : Wr w p v l) (hsv : a.eval s = v) {g : Nat} {A : Option Addr} {m c : Nat} {k : List Int} (hx : a.eval x = .slice A m c) (hs : Sl w g (.slice A m c) k) (hlen : l.length + m ≤ 140737488355328)
    (hK : ∀ A' N c' w', Ap w p v l k (.slice A' N c') w' → wpList Try.prog ops Q rest (a.put o.dst (.slice A' N c')) w') : wpList Try.prog ops Q (o :: rest) a w :=
  wpList_plain hgd fun _ hk => wp_app s x ho h hsv hx hs hlen fun A' N c' w' hap => hk _ _ (hK A' N c' w' hap)
theorem step_app {ops : Array Oper} {o : Oper} {a : Act} {w : World} {K : Act → World → Prop} {Q : Exit → Act → World → Prop} {E : Prop} (hgd : o.guard = none) (s x : Operand)
    (ho : o.op = .call { callee := .builtin .append, args := #[s, x], argTypes := #[27, 27] })
    {p : Nat} {v : Value} {l : List Int} (h : Wr w p v l) (hsv : a.eval s = v) {g : Nat} {A : Option Addr} {m c : Nat} {k : List Int} (hx : a.eval x = .slice A m c) (hs : Sl w g (.slice A m c) k) (hlen : l.length + m ≤ 140737488355328)
    (hK : ∀ A' N c' w', Ap w p v l k (.slice A' N c') w' → K (a.put o.dst (.slice A' N c')) w') :
    if Region.wanted o (yielded ops a.tmps) = true then Oper.wp Try.prog o a w K Q else E := by
  have hw : Region.wanted o (yielded ops a.tmps) = true := by simp [Region.wanted, hgd]
  rw [if_pos hw]
  exact wp_app s x ho h hsv hx hs hlen hK
end Go.Proofs.Ytkkicekhkidhjaa
