/- The law's helper 'spoil': it changes the bytes of one block, and no other memory. Condition: a slice of bytes in a block that may be written. -/
import Derived.Test.YtkkicekhkidhjaaRef4
namespace Go.Proofs.Ytkkicekhkidhjaa
set_option linter.unusedSimpArgs false
set_option linter.unusedVariables false
open Go.RowKit

/-- A block that may be written. -/
def NF (w : World) (g : Nat) : Prop := ∃ cs t, w.heap[g]? = some (.cells cs t (0, 0))
theorem NF.fr {w w' : World} {g : Nat} (h : NF w g) {S : Nat → Prop} (hf : Fr S w w') (hn : ¬ S g) : NF w' g := by
  obtain ⟨cs, t, h⟩ := h
  exact ⟨cs, t, (hf.block g (heap_lt h) hn).trans h⟩
theorem NF.set {w : World} {g : Nat} (h : NF w g) (i : Nat) (v : Value) : NF (w.setCell ⟨g, i, none⟩ v) g := by
  obtain ⟨cs, t, h⟩ := h
  exact ⟨_, t, heap_setCell_same w g i cs t v h⟩
theorem NF.frozen {w : World} {g : Nat} (h : NF w g) (i : Nat) : w.frozen? ⟨g, i, none⟩ = false := by
  obtain ⟨cs, t, h⟩ := h
  exact frozen_of_row w g i cs t h

theorem Sl.set {w : World} {g o n c : Nat} {l : List Int} (h : Sl w g (.slice (some ⟨g, o, none⟩) n c) l) (j : Nat) (y : Int) (hj : j < l.length) (h0 : 0 ≤ y) (h1 : y ≤ 255) :
    Sl (w.setCell ⟨g, o + j, none⟩ (.int .u8 y)) g (.slice (some ⟨g, o, none⟩) n c) (l.set j y) := by
  obtain ⟨hb, A, c', e, hc, hm, hx⟩ := h
  obtain ⟨o', e2, hg, hcell⟩ := hx (by rintro rfl; simp at hj)
  injection e with e3 e4 e5
  rw [e2] at e3
  injection e3 with e3
  injection e3 with _ e6
  subst e6 e4 e5
  refine ⟨?_, _, c, by rw [List.length_set], by rw [List.length_set]; exact hc, hm, fun _ => ⟨o, rfl, by simpa [World.setCell] using hg, fun t b ht => ?_⟩⟩
  · intro b hb'
    rcases List.mem_or_eq_of_mem_set hb' with h | h
    · exact hb b h
    · omega
  · rw [List.getElem?_set] at ht
    split at ht
    · rename_i e
      subst e
      injection ht with ht
      rw [World.cell?_setCell_same _ _ _ (hcell j _ (List.getElem?_eq_getElem hj)), ht]
    · rename_i hne
      rw [World.cell?_setCell_other _ _ _ _ (by intro e; injection e with e; omega)]
      exact hcell t b ht

theorem spoil_any (g : Nat) (A : Option Addr) (n c : Nat) (l : List Int) (w : World) (hs : Sl w g (.slice A n c) l) (hf : l ≠ [] → NF w g) :
    Calls Try.prog 24 #[.slice A n c] w fun e w' => e = .returned (.tuple #[]) ∧ Fr (fun x => x = g ∧ l ≠ []) w w' := by
  have hn := hs.len
  by_cases h0 : l = []
  · subst h0
    obtain rfl : n = 0 := by simpa using hn.symm
    go_enter Try.func24, Try.ntmps24
    go_wp2
    go_loopw [2] (fun i wr => i = .int .i64 0 ∧ wr = w) (fun i _ => 0)
    case atStart => exact ⟨rfl, rfl⟩
    case round =>
      obtain ⟨rfl, rfl⟩ := hrel
      go_wp2
      go_end0
      exact ⟨rfl, Fr.refl _ _⟩
  · have hcap := hs.cap
    unfold maxLen at hcap
    obtain ⟨o, rfl, _⟩ := hs.at_ (by have := List.length_pos_iff.2 h0; omega)
    have HN := Lib.hid hn
    have HS := Lib.hid hs
    have HF := Lib.hid (hf h0)
    clear hn hf hs
    go_enter Try.func24, Try.ntmps24
    go_wp2
    go_loopw [2] (fun i wr => ∃ (j : Nat) (l' : List Int), j ≤ n ∧ i = .int .i64 j ∧ Sl wr g (.slice (some ⟨g, o, none⟩) n c) l' ∧ NF wr g ∧ Fr (fun x => x = g ∧ l ≠ []) w wr) (fun i _ => n - (intOf i).toNat)
    case atStart => exact ⟨0, l, Nat.zero_le _, rfl, HS.out, HF.out, Fr.refl _ _⟩
    case round =>
      obtain ⟨j, l', hj, rfl, s1, s2, s3⟩ := hrel
      have hn' := s1.len
      by_cases hlt : j < n
      · obtain ⟨o', e1, hc⟩ := s1.at_ (by omega)
        injection e1 with e1
        injection e1 with _ e1
        subst e1
        have c1 := hc j hlt
        have c2 := s2.frozen (o + j)
        have hb0 := (s1.1 (l'.getD j 0) (by rw [List.getD_eq_getElem?_getD, List.getElem?_eq_getElem (by omega)]; exact List.getElem_mem (by omega)))
        obtain ⟨x, hx⟩ : ∃ x, l'.getD j 0 = x := ⟨_, rfl⟩
        rw [hx] at c1 hb0
        clear hx
        have hx1 : (j : Int) < (n : Int) := by omega
        have HS1 := Lib.hid s1
        have HS2 := Lib.hid s2
        have HS3 := Lib.hid s3
        clear s1 s2 s3 hc
        go_wp2
        refine ⟨⟨j + 1, l'.set j (255 - x), by omega, rfl, HS1.out.set j _ (by omega) (by omega) (by omega), HS2.out.set _ _, Fr.setCell HS3.out (p := ⟨g, o + j, none⟩) _ (.inl ⟨rfl, h0⟩)⟩, by simp [intOf]; omega⟩
      · go_wp2
        go_end0
        exact ⟨rfl, s3⟩
end Go.Proofs.Ytkkicekhkidhjaa
