/- The reference's writer: its pieces, each a row of its own; what stays of it. Definitions and lemmas alone. -/
import Derived.Test.YtkkicekhkidhjaaRO
import Derived.Great.BuildSlice
namespace Go.Proofs.Ytkkicekhkidhjaa
set_option linter.unusedSimpArgs false
set_option linter.unusedVariables false
open Go.RowKit

/-- A writer of the reference's at block p: the slice v of its pieces, which are vals, of the bytes ls. -/
structure RW (w : World) (p : Nat) (v : Value) (ls : List (List Int)) (vals : List Value) : Prop where
  here : w.heap[p]? = some (.cells #[v] 63 (0, 0))
  row : w.ownsRow 0 27 1 v ls.length vals
  len : vals.length = ls.length
  each : ∀ (i : Nat) (x : Value) (l : List Int), vals[i]? = some x → ls[i]? = some l → Ow w x l
/-- What belongs to it. -/
def Tb (p : Nat) (v : Value) (vals : List Value) (k : Nat) : Prop := k = p ∨ v.ownBlock = some k ∨ ∃ x ∈ vals, x.ownBlock = some k
theorem RW.get {w : World} {p : Nat} {v : Value} {ls : List (List Int)} {vals : List Value} (h : RW w p v ls vals) {i : Nat} {l : List Int} (hi : ls[i]? = some l) : ∃ x, vals[i]? = some x ∧ Ow w x l := by
  have hl : i < ls.length := (List.getElem?_eq_some_iff.1 hi).1
  exact ⟨vals[i]'(by rw [h.len]; exact hl), List.getElem?_eq_getElem _, h.each i _ l (List.getElem?_eq_getElem _) hi⟩
theorem ownsRow_keep {w w' : World} {e : TypeId} {s n : Nat} {v : Value} {xs : List Value} (h : w.ownsRow 0 e s v n xs) (hk : ∀ k, v.ownBlock = some k → k < w.heap.size → w'.heap[k]? = w.heap[k]?) : w'.ownsRow 0 e s v n xs := by
  obtain ⟨hl, hx⟩ := h
  refine ⟨hl, ?_⟩
  rcases hx with hx | ⟨g, cap, cur, hv, hb, hh, r⟩
  · exact .inl hx
  · exact .inr ⟨g, cap, cur, hv, hb, (hk g (by rw [hv]; rfl) (heap_lt hh)).trans hh, r⟩
theorem RW.keep {w w' : World} {p : Nat} {v : Value} {ls : List (List Int)} {vals : List Value} (h : RW w p v ls vals) {S : Nat → Prop} (hf : Fr S w w') (hn : ∀ k, Tb p v vals k → ¬ S k) : RW w' p v ls vals :=
  ⟨(hf.block p (heap_lt h.here) (hn p (.inl rfl))).trans h.here, ownsRow_keep h.row (fun k hk hl => hf.block k hl (hn k (.inr (.inl hk)))), h.len,
    fun i x l hx hl => (h.each i x l hx hl).keep hf (fun k hk => hn k (.inr (.inr ⟨x, List.mem_of_getElem? hx, hk⟩)))⟩
theorem RW.row_ne {w : World} {p : Nat} {v : Value} {ls : List (List Int)} {vals : List Value} (h : RW w p v ls vals) : v.ownBlock ≠ some p := by
  intro e
  rcases h.row.2 with ⟨hv, _⟩ | ⟨g, cap, cur, hv, _, hh, _⟩
  · rw [hv] at e; cases e
  · rw [hv] at e
    have e : some g = some p := e
    injection e with e
    subst e
    rw [h.here] at hh
    cases hh
/-- A row of bytes and a row of slices share no block. -/
theorem apart_types {w : World} {v x : Value} {n : Nat} {vals : List Value} {l : List Int} (h : w.ownsRow 0 27 1 v n vals) (hx : Ow w x l) {k : Nat} (h1 : v.ownBlock = some k) (h2 : x.ownBlock = some k) : False := by
  rcases h.2 with ⟨hv, _⟩ | ⟨g, cap, cur, hv, _, hh, _⟩
  · rw [hv] at h1; cases h1
  · rcases hx.1.2 with ⟨hx', _⟩ | ⟨g', cap', cur', hx', _, hh', _⟩
    · rw [hx'] at h2; cases h2
    · rw [hv] at h1
      rw [hx'] at h2
      have h1 : some g = some k := h1
      have h2 : some g' = some k := h2
      injection h1 with h1
      injection h2 with h2
      subst h1 h2
      rw [hh] at hh'
      cases hh'
theorem piece_ne {w : World} {p : Nat} {v : Value} {x : Value} {l : List Int} (h : w.heap[p]? = some (.cells #[v] 63 (0, 0))) (hx : Ow w x l) : x.ownBlock ≠ some p := by
  intro e
  rcases hx.1.2 with ⟨hx', _⟩ | ⟨g', cap', cur', hx', _, hh', _⟩
  · rw [hx'] at e; cases e
  · rw [hx'] at e
    have e : some g' = some p := e
    injection e with e
    subst e
    rw [h] at hh'
    cases hh'
/-- A piece put behind the others: what append answers, and what the store of it leaves. -/
theorem RW.push {w : World} {p : Nat} {v : Value} {ls : List (List Int)} {vals : List Value} (h : RW w p v ls vals) {x : Value} {l : List Int} (hx : Ow w x l) {nb : Nat} (hc : w.cell? ⟨nb, 0, none⟩ = some x) (ty : TypeId) (hn : ls.length ≤ 1000) :
    ∃ v' w', (Builtin.append_ #[55, 55] ty #[v, .slice (some ⟨nb, 0, none⟩) 1 1]).run Try.prog w = .ok v' w' ∧ w'.heap[p]? = some (.cells #[v] 63 (0, 0)) ∧ RW (w'.setCell ⟨p, 0, none⟩ v') p v' (ls ++ [l]) (vals ++ [x]) ∧
      Fr (fun k => k = p ∨ v.ownBlock = some k) w (w'.setCell ⟨p, 0, none⟩ v') ∧ (∀ k, v'.ownBlock = some k → v.ownBlock = some k ∨ w.heap.size ≤ k) := by
  obtain ⟨i0, hi, hz0, hz1, hz2⟩ := info_parts (show (Try.prog.info? 27).map (fun i => (i.zero, i.size, i.bytes)) = some (some (.slice none 0 0), 1, 24) by kernel_rfl)
  have hone : x.oneCell' = true := by
    obtain ⟨A, n, c, rfl, _⟩ := hx.shape
    rfl
  obtain ⟨v', w', hrun, h2, h3, _, h5⟩ := run_append_own_at (P := Try.prog) w 0 55 ty 27 i0 _ 1 24 Try.underlying55 hi hz0 hz1 hz2 rfl (by decide) v ls.length vals h.row ⟨nb, 0, none⟩ 1 1 [x] (by simp)
    (fun j u hu => by
      have hj : j = 0 := by
        have := (List.getElem?_eq_some_iff.1 hu).1
        simp at this
        omega
      subst hj
      simp at hu
      subst hu
      simpa [Addr.add] using hc)
    (fun u hu => by simp at hu; subst hu; exact hone) (by simp only [maxLen]; omega) (by omega) (Nat.zero_le _)
  have hp' : w'.heap[p]? = some (.cells #[v] 63 (0, 0)) := (h3.block p (heap_lt h.here) (fun e => h.row_ne e.symm)).trans h.here
  have hv'p : v'.ownBlock ≠ some p := by
    rcases h5 with e | e
    · rw [e]; exact h.row_ne
    · rw [e]; intro e2; injection e2 with e2; have := heap_lt h.here; omega
  have hnew : ∀ k, v'.ownBlock = some k → v.ownBlock = some k ∨ w.heap.size ≤ k := by
    intro k hk
    rcases h5 with e | e
    · rw [e] at hk; exact .inl hk
    · rw [e] at hk; injection hk with hk; exact .inr (by omega)
  have F1 : Fr (fun k => k = p ∨ v.ownBlock = some k) w (w'.setCell ⟨p, 0, none⟩ v') := ((Fr.refl _ w).grown h3 (fun k hk => .inl (.inr hk))).setCell _ (.inl (.inl rfl))
  refine ⟨v', w', hrun, hp', ⟨?_, ?_, by simp [h.len], ?_⟩, F1, hnew⟩
  · rw [heap_setCell_same w' p 0 _ _ v' hp']
    rfl
  · rw [List.length_append, List.length_singleton]
    exact ownsRow_keep h2 (fun k hk _ => heap_setCell_other w' _ k _ (by rintro rfl; exact hv'p hk))
  · intro i y m hy hm
    have keepO : ∀ {y : Value} {m : List Int}, Ow w y m → Ow (w'.setCell ⟨p, 0, none⟩ v') y m := fun ho => ho.keep F1 (fun k hk hS => by
      rcases hS with rfl | hS
      · exact piece_ne h.here ho hk
      · exact apart_types h.row ho hS hk)
    rcases Nat.lt_or_ge i ls.length with hlt | hge
    · rw [List.getElem?_append_left (by rw [h.len]; exact hlt)] at hy
      rw [List.getElem?_append_left hlt] at hm
      exact keepO (h.each i y m hy hm)
    · rw [List.getElem?_append_right (by rw [h.len]; exact hge)] at hy
      rw [List.getElem?_append_right hge] at hm
      rw [h.len] at hy
      have h0 : i - ls.length = 0 := by
        have := (List.getElem?_eq_some_iff.1 hm).1
        simp at this
        omega
      rw [h0] at hy hm
      simp at hy hm
      subst hy hm
      exact keepO hx
end Go.Proofs.Ytkkicekhkidhjaa
