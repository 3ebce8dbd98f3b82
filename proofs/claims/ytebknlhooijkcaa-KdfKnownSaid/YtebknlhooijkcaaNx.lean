/- Own rows of bytes, cell by cell; literals; rows made behind a world. Lemmas alone. -/
import Derived.Test.YtebknlhooijkcaaRn
import Derived.Test.YtebknlhooijkcaaT
namespace Go.Proofs.Ytebknlhooijkcaa
set_option linter.unusedSimpArgs false
set_option linter.unusedVariables false
open Go.ChangeShapes Go.WideShapes Go.ChangeAt Go.RowKit

/-- The bytes of a row of the call's own, cell by cell. -/
theorem Ow.cells {w : World} {A : Option Addr} {n c : Nat} {l : List Int} (h : Ow w (.slice A n c) l) (b0 : Nat) (hb : ∀ k, (Value.slice A n c).ownBlock = some k → b0 ≤ k) (hs : b0 ≤ w.heap.size) :
    ∃ g, b0 ≤ g ∧ (0 < n → g < w.heap.size ∧ A = some ⟨g, 0, none⟩ ∧ ∀ i, i < n → w.cell? ⟨g, i, none⟩ = some (.int .u8 (l.getD i 0)) ∧ w.frozen? ⟨g, i, none⟩ = false) ∧ (∀ k, (Value.slice A n c).ownBlock = some k → k = g) ∧ Sl w g (.slice A n c) l := by
  rcases h.1.2 with ⟨hv, h0⟩ | ⟨g, cap, cur, hv, _, hh, hn, hm, hs, ht⟩
  · injection hv with e1 e2 e3
    subst e1 e2 e3
    exact ⟨w.heap.size, hs, fun h => absurd h (Nat.lt_irrefl _), (fun k hk => by cases hk), by rw [List.eq_nil_of_length_eq_zero h0]; exact Sl.nil _ _⟩
  · injection hv with e1 e2 e3
    subst e1 e2
    refine ⟨g, hb g rfl, fun _ => ⟨heap_lt hh, rfl, fun i hi => ⟨?_, frozen_of_row _ _ _ _ _ hh⟩⟩, (fun k hk => ?_), h.sl⟩
    · rw [Nat.mul_one] at ht
      rw [cell_of_row _ _ _ _ _ _ hh]
      have hc : cur[i]? = (bs l)[i]? := by rw [← ht, List.getElem?_take, if_pos hi]; simp
      rw [hc, bs_get, getD_some hi]
      rfl
    · have hk : some g = some k := hk
      injection hk with hk
      exact hk.symm
/-- A row's bytes from a place on. -/
def Cl (W : World) (g : Nat) (A : Option Addr) (k n : Nat) (l : List Int) : Prop := 0 < n → g < W.heap.size ∧ A = some ⟨g, 0, none⟩ ∧ ∀ i, k ≤ i → i < n → W.cell? ⟨g, i, none⟩ = some (.int .u8 (l.getD i 0)) ∧ W.frozen? ⟨g, i, none⟩ = false
theorem Cl.fr {W W' : World} {g : Nat} {A : Option Addr} {k n : Nat} {l : List Int} (h : Cl W g A k n l) {S : Nat → Prop} (hf : Fr S W W') (hs : ¬ S g) : Cl W' g A k n l := fun h0 => by
  obtain ⟨h1, h2, h3⟩ := h h0
  have e := hf.block g h1 hs
  exact ⟨Nat.lt_of_lt_of_le h1 hf.size, h2, fun i a b => ⟨(World.cell?_of_block (w := W) e).trans (h3 i a b).1, (World.frozen?_of_block (w := W) e).trans (h3 i a b).2⟩⟩
theorem Cl.set {W : World} {g : Nat} {A : Option Addr} {k n : Nat} {l : List Int} (h : Cl W g A k n l) (v : Value) : Cl (W.setCell ⟨g, k, none⟩ v) g A (k + 1) n l := fun h0 => by
  obtain ⟨h1, h2, h3⟩ := h h0
  exact ⟨by simpa using h1, h2, fun i a b => ⟨(World.cell?_setCell_other (w := W) (v := v) (a := ⟨g, k, none⟩) (b := ⟨g, i, none⟩) (by intro e; injection e with _ e _; omega)).trans (h3 i (by omega) b).1, by rw [World.frozen?_setCell]; exact (h3 i (by omega) b).2⟩⟩
theorem Ap2.next {w w' W0 : World} {v v' : Value} {l k : List Int} (h : Ap2 w v l k v' w') (G : Fr (fun _ => False) W0 w) (B : ∀ j, v.ownBlock = some j → W0.heap.size ≤ j) : Ow w' v' (l ++ k) ∧ Fr (fun _ => False) W0 w' ∧ ∀ j, v'.ownBlock = some j → W0.heap.size ≤ j := by
  refine ⟨h.own, G.grown h.grown (fun j hj => .inr (B j hj)), fun j hj => ?_⟩
  rcases h.at_ with e | e
  · rw [e] at hj; exact B j hj
  · rw [e] at hj
    injection hj with hj
    rw [← hj]
    exact G.size
theorem lit_sl (w : World) (x : Int) (hx : 0 ≤ x ∧ x ≤ 255) : Sl (w.alloc (.cells #[.int .u8 x] 5)) w.heap.size (.slice (some ⟨w.heap.size, 0, none⟩) 1 1) [x] :=
  Sl.block (fun b hb => by rw [List.mem_singleton.1 hb]; exact hx) (heap_alloc_new w _) (fun j _ => by simp [bs]) (by simp) (by decide)
theorem lit_ow (w : World) (x : Int) (hx : 0 ≤ x ∧ x ≤ 255) : Ow (w.alloc (.cells #[.int .u8 x] 5)) (.slice (some ⟨w.heap.size, 0, none⟩) 1 1) [x] :=
  ⟨⟨by simp [bs], .inr ⟨w.heap.size, 1, #[.int .u8 x], by simp, Nat.zero_le _, heap_alloc_new w _, by simp, by decide, by simp, by simp [bs]⟩⟩, fun b hb => by rw [List.mem_singleton.1 hb]; exact hx⟩
theorem Ow.len {w : World} {A : Option Addr} {n c : Nat} {l : List Int} (h : Ow w (.slice A n c) l) : l.length = n := h.sl.len
/-- One byte of a row of the call's own is written. -/
theorem Ow.setSl {w : World} {v : Value} {l : List Int} (h : Ow w v l) (i : Nat) (hi : i < l.length) (y : Int) (hy : 0 ≤ y ∧ y ≤ 255) :
    ∃ g c, v = .slice (some ⟨g, 0, none⟩) l.length c ∧ w.cell? ⟨g, i, none⟩ = some (.int .u8 (l.getD i 0)) ∧ w.frozen? ⟨g, i, none⟩ = false ∧ g < w.heap.size ∧ Sl (w.setCell ⟨g, i, none⟩ (.int .u8 y)) g v (l.set i y) := by
  obtain ⟨⟨hx, hz⟩, hb⟩ := h
  rcases hz with ⟨_, h0⟩ | ⟨g, cap, cur, hv, _, hh, hn, hm, hs, ht⟩
  · rw [h0] at hi; omega
  · rw [Nat.mul_one] at ht hs
    have hcur : ∀ j, j < l.length → cur[j]? = (bs l)[j]? := fun j hj => by
      rw [← ht, List.getElem?_take, if_pos hj]
      simp
    have hc : cur[i]? = some (.int .u8 (l.getD i 0)) := by rw [hcur i hi, bs_get, getD_some hi]; rfl
    refine ⟨g, cap, hv, (cell_of_row _ _ _ _ _ _ hh).trans hc, frozen_of_row _ _ _ _ _ hh, heap_lt hh, ?_⟩
    subst hv
    have hh2 := heap_setCell_same w g i _ _ (.int .u8 y) hh
    have hb2 : Bys (l.set i y) := fun b hb' => by
      rcases List.mem_or_eq_of_mem_set hb' with h | rfl
      · exact hb b h
      · exact hy
    have hS := Sl.block (c := cap) hb2 hh2 (fun j hj => by
      rw [List.length_set] at hj
      rw [Array.getElem?_setIfInBounds]
      split
      · rename_i e
        subst e
        have hsz : i < cur.size := by omega
        rw [if_pos hsz, bs_get, List.getElem?_set_self hj]
        rfl
      · rename_i e
        rw [hcur j hj, bs_get, bs_get, List.getElem?_set_ne e]) (by rw [List.length_set]; exact hn) hm
    rwa [List.length_set] at hS

/-- A row that was made behind a world. -/
def Nw (W0 : World) (w : World) (v : Value) (l : List Int) : Prop := Ow w v l ∧ ∀ j, v.ownBlock = some j → W0.heap.size ≤ j
theorem Nw.fr {W0 w w' : World} {v : Value} {l : List Int} (h : Nw W0 w v l) (hf : Fr (fun _ => False) w w') (_ : ∀ i : Nat, False → False) : Nw W0 w' v l := ⟨h.1.keep hf (fun _ _ x => x), h.2⟩
theorem Nw.of {W0 W1 w : World} {v : Value} {l : List Int} (h : Nw W1 w v l) (hf : Fr (fun _ => False) W0 W1) : Nw W0 w v l := ⟨h.1, fun j hj => Nat.le_trans hf.size (h.2 j hj)⟩
theorem Nw.nil (W0 w : World) : Nw W0 w (.slice none 0 0) [] := ⟨Ow.nil w, fun _ h => by cases h⟩
theorem Nw.shape {W0 w : World} {v : Value} {l : List Int} (h : Nw W0 w v l) : ∃ A c, v = .slice A l.length c := by
  obtain ⟨A, n, c, rfl, rfl⟩ := h.1.shape
  exact ⟨A, c, rfl⟩
theorem Sl.lt6 {w : World} {g : Nat} {v : Value} {l : List Int} (h : Sl w g v l) (hl : l ≠ []) : g < w.heap.size := by
  obtain ⟨_, A, c, _, _, _, hx⟩ := h
  obtain ⟨o, _, hg, _⟩ := hx hl
  exact hg
theorem Nw.lt {W0 w : World} {v : Value} {l : List Int} (h : Nw W0 w v l) : l ≠ [] → v.ownBlock.getD 0 < w.heap.size := fun hl => h.1.sl.lt6 hl
theorem pow8' (i : Nat) : (2 : Int) ^ (8 * i) = 256 ^ i := by rw [Int.pow_mul]; rfl
theorem Nw.app {W0 w w' : World} {v v' : Value} {l k : List Int} (h : Nw W0 w v l) (hf : Fr (fun _ => False) W0 w) {w1 : World} (h1 : Fr (fun _ => False) w w1) (ha : Ap2 w1 v l k v' w') : Nw W0 w' v' (l ++ k) ∧ Fr (fun _ => False) W0 w' := by
  obtain ⟨a, b, c⟩ := ha.next (hf.trans h1) h.2
  exact ⟨⟨a, c⟩, b⟩
theorem Nw.open {W0 w : World} {v : Value} {l : List Int} (h : Nw W0 w v l) (h0 : 0 < l.length) : ∃ g c, v = .slice (some ⟨g, 0, none⟩) l.length c ∧ W0.heap.size ≤ g ∧ l.length ≤ c ∧ Sl w g (.slice (some ⟨g, 0, none⟩) l.length c) l := by
  have hs := h.1.sl
  rcases h.1.1.2 with ⟨_, e⟩ | ⟨g, cap, cur, hv, _, hh, hn, hm, _⟩
  · omega
  · refine ⟨g, cap, hv, h.2 g (by rw [hv]; rfl), hn, ?_⟩
    rw [hv] at hs
    exact hs
theorem Ar.ow {w : World} {g m : Nat} {l : List Int} (h : Ar w g 5 .u8 l) (hb : Bys l) (hl : l.length = m) (hm : m ≤ maxLen) : Ow w (.slice (some ⟨g, 0, none⟩) m m) l := by
  subst hl
  refine ⟨⟨by simp [bs], .inr ⟨g, l.length, vs .u8 l, rfl, Nat.zero_le _, h, Nat.le_refl _, hm, ?_, ?_⟩⟩, hb⟩
  · simp [vs]
  · rw [Nat.mul_one]
    exact List.take_of_length_le (by simp [vs])
theorem Ar.slt {w : World} {g m : Nat} {t : TypeId} {l : List Int} (h : Ar w g t .u8 l) (hb : Bys l) (hl : l.length = m) (hm : m ≤ maxLen) : Sl w g (.slice (some ⟨g, 0, none⟩) m m) l := by
  subst hl
  exact Sl.block hb h (fun j _ => by rw [vs_bs]; simp) (Nat.le_refl _) hm
theorem Sl.hgb {w : World} {g : Nat} {A : Option Addr} {m c : Nat} {l : List Int} (h : Sl w g (.slice A m c) l) : l ≠ [] → g < w.heap.size := fun x => h.lt6 x
end Go.Proofs.Ytebknlhooijkcaa
