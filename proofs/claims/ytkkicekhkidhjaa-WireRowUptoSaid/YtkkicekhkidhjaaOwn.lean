/- Append onto a row of the call's own, and the reference's CopyBytes: contracts. Condition: not more bytes than a machine has. -/
import Derived.Test.YtkkicekhkidhjaaExtra
namespace Go.Proofs.Ytkkicekhkidhjaa
set_option linter.unusedSimpArgs false
set_option linter.unusedVariables false
open Go.RowKit

/-- A row of bytes of the call's own. -/
def Ow (w : World) (v : Value) (l : List Int) : Prop := w.ownsRow 0 5 1 v l.length (bs l) ∧ Bys l
structure Ap2 (w : World) (v : Value) (l k : List Int) (v' : Value) (w' : World) : Prop where
  own : Ow w' v' (l ++ k)
  grown : w.grownBy w' v.ownBlock
  at_ : v'.ownBlock = v.ownBlock ∨ v'.ownBlock = some w.heap.size

theorem Ow.nil (w : World) : Ow w (.slice none 0 0) [] := ⟨World.ownsRow_nil _ _ _ _, Bys.nil⟩
theorem Ow.sl {w : World} {v : Value} {l : List Int} (h : Ow w v l) : Sl w (v.ownBlock.getD 0) v l := by
  obtain ⟨h2, hb⟩ := h
  rcases h2.2 with ⟨hv, h0⟩ | ⟨g, cap, cur, hv, _, hh, hn, hm, hs, ht⟩
  · subst hv
    have : l = [] := List.eq_nil_of_length_eq_zero h0
    subst this
    exact Sl.nil _ _
  · subst hv
    refine Sl.block hb hh (fun j hj => ?_) hn hm
    rw [← ht, List.getElem?_take, if_pos (by omega)]
    simp
theorem Ow.shape {w : World} {v : Value} {l : List Int} (h : Ow w v l) : ∃ A n c, v = .slice A n c ∧ n = l.length := by
  rcases h.1.2 with ⟨hv, h0⟩ | ⟨g, cap, cur, hv, _⟩
  · exact ⟨none, 0, 0, hv, h0.symm⟩
  · exact ⟨_, _, cap, hv, rfl⟩
theorem Ow.keep {w w' : World} {v : Value} {l : List Int} (h : Ow w v l) {S : Nat → Prop} (hf : Fr S w w') (hv : ∀ k, v.ownBlock = some k → ¬ S k) : Ow w' v l := by
  obtain ⟨⟨hl, hx⟩, hb⟩ := h
  refine ⟨⟨hl, ?_⟩, hb⟩
  rcases hx with hx | ⟨g, cap, cur, hv', hb, hh, r⟩
  · exact .inl hx
  · exact .inr ⟨g, cap, cur, hv', hb, (hf.block g (heap_lt hh) (hv g (by rw [hv']; rfl))).trans hh, r⟩

theorem run_own {w : World} {v : Value} {l : List Int} (ty : TypeId) (h : Ow w v l) {g : Nat} {A : Option Addr} {m c : Nat} {k : List Int} (hs : Sl w g (.slice A m c) k) (hlen : l.length + m ≤ 140737488355328) :
    ∃ A' N c' w', (Builtin.append_ #[27, 27] ty #[v, .slice A m c]).run Try.prog w = .ok (.slice A' N c') w' ∧ Ap2 w v l k (.slice A' N c') w' ∧ N = (l ++ k).length := by
  obtain ⟨i0, hi, hz0, hz1, hz2⟩ := info_parts Try.info5
  have hkl := hs.len
  have main : ∃ v' w', (Builtin.append_ #[27, 27] ty #[v, .slice A m c]).run Try.prog w = .ok v' w' ∧ w'.ownsRow 0 5 1 v' (l ++ k).length (bs (l ++ k)) ∧ w.grownBy w' v.ownBlock ∧ (v'.ownBlock = v.ownBlock ∨ v'.ownBlock = some w.heap.size) := by
    rcases A with _ | ad
    · have hk : k = [] := by
        rcases k with _ | ⟨b, k'⟩
        · rfl
        · obtain ⟨_, A', c', e, _, _, hx⟩ := hs
          injection e with e1
          obtain ⟨o, e2, _⟩ := hx (by simp)
          rw [← e1] at e2; cases e2
      subst hk
      have hm : m = 0 := by simpa using hkl.symm
      subst hm
      refine ⟨v, w, run_app_nil w ty v _ _ h.1 c, by simpa using h.1, World.grownBy.refl w _, .inl rfl⟩
    · have hcells : ∀ j u, (bs k)[j]? = some u → w.cell? (ad.add j) = some u := by
        intro j u hu
        rw [bs_get] at hu
        obtain ⟨b, hb, rfl⟩ := Option.map_eq_some_iff.1 hu
        obtain ⟨_, A', c', e, _, _, hx⟩ := hs
        injection e with e1
        obtain ⟨o, e2, _, hcell⟩ := hx (by rintro rfl; simp at hb)
        rw [← e1] at e2
        injection e2 with e2
        subst e2
        rw [Addr_add_none]
        exact hcell j b hb
      obtain ⟨v', w', hrun, h2, h3, _, h5⟩ := run_append_own_at (P := Try.prog) w 0 27 ty 5 i0 _ 1 1 Try.underlying27 hi hz0 hz1 hz2 rfl (by decide) v l.length (bs l) h.1 ad m c (bs k) (by rw [bs_length]; omega) hcells (bs_one k) (by simp only [maxLen]; omega) (by omega) (Nat.zero_le _)
      refine ⟨v', w', hrun, ?_, h3, h5⟩
      rw [bs_append] at h2
      rw [List.length_append, hkl]
      exact h2
  obtain ⟨v', w', hrun, h2, h3, h5⟩ := main
  obtain ⟨A', N, c', rfl, hN⟩ := Ow.shape (l := l ++ k) ⟨h2, h.2.append hs.1⟩
  exact ⟨A', N, c', w', hrun, ⟨⟨h2, h.2.append hs.1⟩, h3, h5⟩, hN⟩

theorem wpList_own {ops : Array Oper} {rest : List Oper} {o : Oper} {a : Act} {w : World} {Q : Exit → Act → World → Prop} (hgd : o.guard = none) (s x : Operand)
    (ho : o.op = .call { callee := .builtin .append, args := #[s, x], argTypes := #[27, 27] })
    {v : Value} {l : List Int} (h : Ow w v l) (hsv : a.eval s = v) {g : Nat} {A : Option Addr} {m c : Nat} {k : List Int} (hx : a.eval x = .slice A m c) (hs : Sl w g (.slice A m c) k) (hlen : l.length + m ≤ 140737488355328)
    (hK : ∀ A' N c' w', Ap2 w v l k (.slice A' N c') w' → N = (l ++ k).length → wpList Try.prog ops Q rest (a.put o.dst (.slice A' N c')) w') : wpList Try.prog ops Q (o :: rest) a w := by
  refine wpList_plain hgd fun K hk => ?_
  obtain ⟨A', N, c', w', hrun, hap, hN⟩ := run_own o.type h hs hlen
  unfold Oper.wp execOp
  simp only [ho, resolve, invoke, builtin, Sem.run_bind, Sem.run_pure, Result.andThen_ok, List.map_toArray, List.map_cons, List.map_nil, hsv, hx, hrun]
  exact hk _ _ (hK A' N c' w' hap hN)
theorem step_own {ops : Array Oper} {o : Oper} {a : Act} {w : World} {K : Act → World → Prop} {Q : Exit → Act → World → Prop} {E : Prop} (hgd : o.guard = none) (s x : Operand)
    (ho : o.op = .call { callee := .builtin .append, args := #[s, x], argTypes := #[27, 27] })
    {v : Value} {l : List Int} (h : Ow w v l) (hsv : a.eval s = v) {g : Nat} {A : Option Addr} {m c : Nat} {k : List Int} (hx : a.eval x = .slice A m c) (hs : Sl w g (.slice A m c) k) (hlen : l.length + m ≤ 140737488355328)
    (hK : ∀ A' N c' w', Ap2 w v l k (.slice A' N c') w' → N = (l ++ k).length → K (a.put o.dst (.slice A' N c')) w') :
    if Region.wanted o (yielded ops a.tmps) = true then Oper.wp Try.prog o a w K Q else E := by
  have hw : Region.wanted o (yielded ops a.tmps) = true := by simp [Region.wanted, hgd]
  rw [if_pos hw]
  obtain ⟨A', N, c', w', hrun, hap, hN⟩ := run_own o.type h hs hlen
  unfold Oper.wp execOp
  simp only [ho, resolve, invoke, builtin, Sem.run_bind, Sem.run_pure, Result.andThen_ok, List.map_toArray, List.map_cons, List.map_nil, hsv, hx, hrun]
  exact hK A' N c' w' hap hN

set_option maxHeartbeats 400000 in
theorem copyBytes_any (g : Nat) (A : Option Addr) (n c : Nat) (l : List Int) (w : World) (hs : Sl w g (.slice A n c) l) (hn : n ≤ 140737488355328) :
    Calls Try.prog 13 #[.slice A n c] w fun e w' => ∃ A' c', e = .returned (.slice A' n c') ∧ Ow w' (.slice A' n c') l ∧ (∀ k, (Value.slice A' n c').ownBlock = some k → w.heap.size ≤ k) ∧ Fr (fun _ => False) w w' := by
  have HS := Lib.hid hs
  have HN := Lib.hid hs.len
  clear hs
  go_enter Try.func13, Try.ntmps13
  go_wp2_with (at_builtin; refine wpList_own rfl (.tmp 4) (.tmp 5) rfl (Ow.nil w) rfl rfl HS.out (by simpa using hn) ?_; intro A2 N2 c2 w2 hap hN2; have HN2 := Lib.hid hN2; clear hN2)
  go_ret
  have e : N2 = n := by rw [HN2.out]; simpa using HN.out
  subst e
  refine ⟨A2, c2, rfl, hap.own, fun k hk => ?_, (Fr.refl _ w).grown hap.grown (fun k hk => by cases hk)⟩
  rcases hap.at_ with e | e
  · rw [e] at hk; cases hk
  · rw [e] at hk; injection hk with hk; omega
end Go.Proofs.Ytkkicekhkidhjaa
