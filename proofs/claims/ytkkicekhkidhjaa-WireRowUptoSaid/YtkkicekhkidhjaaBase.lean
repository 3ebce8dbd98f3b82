/- What a wire writer, a wire reader and a slice of bytes look like in memory, and what stays of them when other memory turns; a number's bytes as plain mathematics. No condition: definitions and lemmas alone. -/
import Derived.Below
import Derived.Laws.OwnMore
import Derived.Laws.Rows
import Derived.Laws.MakeOwn
import Derived.Maps.AppendAt
import Derived.Deep.Draws
import Derived.WalkKit
namespace Go.Proofs.Ytkkicekhkidhjaa
set_option linter.unusedSimpArgs false
set_option linter.unusedVariables false
open Go.RowKit

/-! ### Bytes -/
def bs (l : List Int) : List Value := l.map (Value.int .u8)
def Bys (l : List Int) : Prop := ∀ b ∈ l, 0 ≤ b ∧ b ≤ 255

theorem bs_length (l : List Int) : (bs l).length = l.length := by simp [bs]
theorem bs_append (l k : List Int) : bs l ++ bs k = bs (l ++ k) := by simp [bs]
theorem bs_one (l : List Int) : ∀ u ∈ bs l, u.oneCell' = true := by
  intro u hu
  simp only [bs, List.mem_map] at hu
  obtain ⟨x, _, rfl⟩ := hu
  rfl
theorem bs_get (l : List Int) (j : Nat) : (bs l)[j]? = (l[j]?).map (Value.int .u8) := by simp [bs]
theorem Bys.append {l k : List Int} (h : Bys l) (h' : Bys k) : Bys (l ++ k) := by
  intro b hb
  rcases List.mem_append.1 hb with h1 | h1
  · exact h b h1
  · exact h' b h1
theorem Bys.nil : Bys [] := by intro b hb; cases hb
theorem Bys.drop {l : List Int} (h : Bys l) (k : Nat) : Bys (l.drop k) := fun b hb => h b (List.mem_of_mem_drop hb)
theorem Bys.take {l : List Int} (h : Bys l) (k : Nat) : Bys (l.take k) := fun b hb => h b (List.mem_of_mem_take hb)

/-! ### Frames: all blocks that were there stay, but for those in S -/
structure Fr (S : Nat → Prop) (w w' : World) : Prop where
  os : w'.os = w.os
  tape : w'.tape = w.tape
  output : w'.output = w.output
  size : w.heap.size ≤ w'.heap.size
  block : ∀ k, k < w.heap.size → ¬ S k → w'.heap[k]? = w.heap[k]?

theorem Fr.refl (S : Nat → Prop) (w : World) : Fr S w w := ⟨rfl, rfl, rfl, Nat.le_refl _, fun _ _ _ => rfl⟩
theorem Fr.trans {S : Nat → Prop} {a b c : World} (h : Fr S a b) (k : Fr S b c) : Fr S a c :=
  ⟨k.os.trans h.os, k.tape.trans h.tape, k.output.trans h.output, Nat.le_trans h.size k.size, fun i hi hs => (k.block i (Nat.lt_of_lt_of_le hi h.size) hs).trans (h.block i hi hs)⟩
/-- The second step may touch what is new since the first world, too. -/
theorem Fr.trans' {S T : Nat → Prop} {a b c : World} (h : Fr S a b) (k : Fr T b c) (hT : ∀ i, i < a.heap.size → T i → S i) : Fr S a c :=
  ⟨k.os.trans h.os, k.tape.trans h.tape, k.output.trans h.output, Nat.le_trans h.size k.size, fun i hi hs => (k.block i (Nat.lt_of_lt_of_le hi h.size) (fun ht => hs (hT i hi ht))).trans (h.block i hi hs)⟩
theorem Fr.weaken {S T : Nat → Prop} {a b : World} (h : Fr S a b) (hT : ∀ i, i < a.heap.size → S i → T i) : Fr T a b :=
  ⟨h.os, h.tape, h.output, h.size, fun i hi hs => h.block i hi (fun x => hs (hT i hi x))⟩
theorem Fr.drew {S : Nat → Prop} {a b : World} (h : Fr S a b) : Fr S a b.drew := ⟨h.os, h.tape, h.output, h.size, h.block⟩
theorem Fr.drewN {S : Nat → Prop} {a b : World} (h : Fr S a b) (n : Nat) : Fr S a (b.drewN n) := ⟨h.os, h.tape, h.output, h.size, h.block⟩
theorem Fr.alloc {S : Nat → Prop} {a b : World} (h : Fr S a b) (o : Obj) : Fr S a (b.alloc o) :=
  ⟨h.os, h.tape, h.output, Nat.le_trans h.size (by simp), fun i hi hs => (Below.heap_alloc b o i (Nat.lt_of_lt_of_le hi h.size)).trans (h.block i hi hs)⟩
theorem Fr.setCell {S : Nat → Prop} {a b : World} (h : Fr S a b) {p : Addr} (u : Value) (hp : S p.block ∨ a.heap.size ≤ p.block) : Fr S a (b.setCell p u) :=
  ⟨h.os, h.tape, h.output, by simpa [World.setCell] using h.size, fun i hi hs => (Below.heap_setCell b p u i (by
    rintro rfl
    rcases hp with hp | hp
    · exact hs hp
    · omega)).trans (h.block i hi hs)⟩
theorem Fr.setRow {S : Nat → Prop} {a b : World} (h : Fr S a b) {g : Nat} (cs : Array Value) (hp : S g ∨ a.heap.size ≤ g) : Fr S a (b.setRow g cs) :=
  ⟨h.os, h.tape, h.output, by simpa using h.size, fun i hi hs => (setRow_other b g i cs (by
    rintro rfl
    rcases hp with hp | hp
    · exact hs hp
    · omega)).trans (h.block i hi hs)⟩
theorem Fr.grown {S : Nat → Prop} {a b c : World} (h : Fr S a b) {row : Option Nat} (hg : b.grownBy c row) (hr : ∀ k, row = some k → S k ∨ a.heap.size ≤ k) : Fr S a c :=
  ⟨hg.os.trans h.os, hg.tape.trans h.tape, hg.output.trans h.output, Nat.le_trans h.size hg.size, fun i hi hs => (hg.block i (Nat.lt_of_lt_of_le hi h.size) (fun e => by
    rcases hr i e.symm with h1 | h1
    · exact hs h1
    · omega)).trans (h.block i hi hs)⟩
theorem Fr.below {a b : World} (h : Fr (fun _ => False) a b) : Below a.heap.size a b := ⟨h.os, h.tape, h.output, h.size, fun k hk => h.block k hk (fun x => x)⟩
theorem Fr.of_below {S : Nat → Prop} {a b : World} (h : Below a.heap.size a b) : Fr S a b := ⟨h.os, h.tape, h.output, h.size, fun k hk _ => h.block k hk⟩
theorem Fr.any {S : Nat → Prop} {a b : World} (h : Fr (fun _ => False) a b) : Fr S a b := h.weaken fun _ _ x => x.elim

theorem heap_lt {w : World} {g : Nat} {o : Obj} (h : w.heap[g]? = some o) : g < w.heap.size := (Array.getElem?_eq_some_iff.1 h).1

theorem Addr_add_block (a : Addr) (n : Nat) : (a.add n).block = a.block := by unfold Addr.add; split <;> rfl
theorem Addr_add_none (g o j : Nat) : (⟨g, o, none⟩ : Addr).add j = ⟨g, o + j, none⟩ := by
  unfold Addr.add
  by_cases h0 : j = 0 <;> simp [h0]

/-! ### A slice of bytes: the value, the block in which it lies (any, where it is empty) -/
def Sl (w : World) (g : Nat) (v : Value) (l : List Int) : Prop :=
  Bys l ∧ ∃ A c, v = .slice A l.length c ∧ l.length ≤ c ∧ c ≤ maxLen ∧ (l ≠ [] → ∃ o, A = some ⟨g, o, none⟩ ∧ g < w.heap.size ∧ ∀ j b, l[j]? = some b → w.cell? ⟨g, o + j, none⟩ = some (.int .u8 b))

theorem Sl.keep {w w' : World} {g : Nat} {v : Value} {l : List Int} (h : Sl w g v l) (hs : w.heap.size ≤ w'.heap.size) (hk : g < w.heap.size → w'.heap[g]? = w.heap[g]?) : Sl w' g v l := by
  obtain ⟨hb, A, c, rfl, hc, hm, hx⟩ := h
  refine ⟨hb, A, c, rfl, hc, hm, fun hl => ?_⟩
  obtain ⟨o, rfl, hg, hcell⟩ := hx hl
  exact ⟨o, rfl, by omega, fun j b hj => (World.cell?_of_block (w := w) (hk hg)).trans (hcell j b hj)⟩
theorem Sl.fr {S : Nat → Prop} {w w' : World} {g : Nat} {v : Value} {l : List Int} (h : Sl w g v l) (hf : Fr S w w') (hn : g < w.heap.size → ¬ S g) : Sl w' g v l := h.keep hf.size fun hg => hf.block g hg (hn hg)
theorem Sl.nil (w : World) (g : Nat) : Sl w g (.slice none 0 0) [] := ⟨Bys.nil, none, 0, rfl, by simp, by simp [maxLen], fun h => absurd rfl h⟩
/-- A block made for these bytes alone. -/
theorem Sl.block {w : World} {g : Nat} {cs : Array Value} {l : List Int} {c : Nat} {t : TypeId} {fr : Nat × Nat} (hb : Bys l) (h : w.heap[g]? = some (.cells cs t fr)) (hcs : ∀ j, j < l.length → cs[j]? = (bs l)[j]?) (hc : l.length ≤ c) (hm : c ≤ maxLen) : Sl w g (.slice (some ⟨g, 0, none⟩) l.length c) l :=
  ⟨hb, _, c, rfl, hc, hm, fun _ => ⟨0, rfl, heap_lt h, fun j b hj => by
    rw [Nat.zero_add, cell_of_row w g j cs t fr h, hcs j (by
      rcases Nat.lt_or_ge j l.length with h1 | h1
      · exact h1
      · rw [List.getElem?_eq_none h1] at hj; cases hj), bs_get, hj]; rfl⟩⟩
theorem Sl.drop {w : World} {g : Nat} {A : Option Addr} {n c : Nat} {l : List Int} (h : Sl w g (.slice A n c) l) (k : Nat) (hk : k ≤ l.length) :
    Sl w g (.slice (if c = k then A else A.map (·.add k)) (l.length - k) (c - k)) (l.drop k) := by
  obtain ⟨hb, A', c', e, hc, hm, hx⟩ := h
  injection e with e1 e2 e3
  subst e1 e2 e3
  refine ⟨hb.drop k, _, _, by rw [List.length_drop], by rw [List.length_drop]; omega, by omega, fun hl => ?_⟩
  have hlen : k < l.length := by
    rcases Nat.lt_or_ge k l.length with h1 | h1
    · exact h1
    · exact absurd (List.drop_eq_nil_of_le h1) hl
  obtain ⟨o, rfl, hg, hcell⟩ := hx (by intro e; rw [e] at hlen; simp at hlen)
  rw [if_neg (by omega)]
  refine ⟨o + k, ?_, hg, fun j b hj => ?_⟩
  · unfold Addr.add
    by_cases h0 : k = 0 <;> simp [h0]
  · rw [Nat.add_assoc]
    exact hcell (k + j) b (by rw [← hj, List.getElem?_drop])
theorem Sl.take {w : World} {g : Nat} {A : Option Addr} {n c : Nat} {l : List Int} (h : Sl w g (.slice A n c) l) (k : Nat) (hk : k ≤ l.length) : Sl w g (.slice A k c) (l.take k) := by
  obtain ⟨hb, A', c', e, hc, hm, hx⟩ := h
  injection e with e1 e2 e3
  subst e1 e2 e3
  refine ⟨hb.take k, _, _, by rw [List.length_take, Nat.min_eq_left hk], by rw [List.length_take]; omega, hm, fun hl => ?_⟩
  obtain ⟨o, rfl, hg, hcell⟩ := hx (by intro e; rw [e] at hl; simp at hl)
  refine ⟨o, rfl, hg, fun j b hj => hcell j b ?_⟩
  rw [List.getElem?_take] at hj
  split at hj
  · exact hj
  · cases hj

/-! ### A writer at block p, whose list is the slice v, of these bytes; a reader at block p, what is left of whose list lies in block g -/
def Wr (w : World) (p : Nat) (v : Value) (l : List Int) : Prop :=
  w.heap[p]? = some (.cells #[.bool true, v] 60 (0, 0)) ∧ w.ownsRow 0 5 1 v l.length (bs l) ∧ Bys l
/-- What a call of a writer may touch. -/
def Tw (p : Nat) (v : Value) (k : Nat) : Prop := k = p ∨ v.ownBlock = some k
def Rd (w : World) (p g : Nat) (l : List Int) : Prop :=
  ∃ v, w.heap[p]? = some (.cells #[.bool true, v] 61 (0, 0)) ∧ Sl w g v l ∧ p ≠ g

theorem Wr.keep {w w' : World} {p : Nat} {v : Value} {l : List Int} (h : Wr w p v l) {S : Nat → Prop} (hf : Fr S w w') (hp : ¬ S p) (hv : ∀ k, v.ownBlock = some k → ¬ S k) : Wr w' p v l := by
  refine ⟨(hf.block p (heap_lt h.1) hp).trans h.1, ?_, h.2.2⟩
  obtain ⟨hl, hx⟩ := h.2.1
  refine ⟨hl, ?_⟩
  rcases hx with hx | ⟨g, cap, cur, hv', hb, hh, r⟩
  · exact .inl hx
  · exact .inr ⟨g, cap, cur, hv', hb, (hf.block g (heap_lt hh) (hv g (by rw [hv']; rfl))).trans hh, r⟩
theorem Wr.ne {w : World} {p : Nat} {v : Value} {l : List Int} (h : Wr w p v l) : v.ownBlock ≠ some p := by
  intro e
  rcases h.2.1.2 with ⟨hv, _⟩ | ⟨g, cap, cur, hv, _, hh, _⟩
  · rw [hv] at e; cases e
  · rw [hv] at e
    injection e with e
    change g = p at e
    subst e
    have := hh.symm.trans h.1
    simp at this
theorem Wr.shape {w : World} {p : Nat} {v : Value} {l : List Int} (h : Wr w p v l) : ∃ A c, v = .slice A l.length c := by
  rcases h.2.1.2 with ⟨hv, h0⟩ | ⟨g, cap, cur, hv, _⟩
  · exact ⟨none, 0, by rw [hv, h0]⟩
  · exact ⟨_, cap, hv⟩
theorem Wr.sl {w : World} {p : Nat} {v : Value} {l : List Int} (h : Wr w p v l) : Sl w (v.ownBlock.getD 0) v l := by
  obtain ⟨h1, h2, hb⟩ := h
  rcases h2.2 with ⟨hv, h0⟩ | ⟨g, cap, cur, hv, _, hh, hn, hm, hs, ht⟩
  · subst hv
    have : l = [] := List.eq_nil_of_length_eq_zero h0
    subst this
    exact Sl.nil _ _
  · subst hv
    refine Sl.block hb hh (fun j hj => ?_) hn hm
    rw [← ht, List.getElem?_take, if_pos (by omega)]
    simp
theorem Rd.keep {w w' : World} {p g : Nat} {l : List Int} (h : Rd w p g l) {S : Nat → Prop} (hf : Fr S w w') (hp : ¬ S p) (hg : g < w.heap.size → ¬ S g) : Rd w' p g l := by
  obtain ⟨v, h1, h2, h3⟩ := h
  exact ⟨v, (hf.block p (heap_lt h1) hp).trans h1, h2.fr hf hg, h3⟩
end Go.Proofs.Ytkkicekhkidhjaa
