/- poly.Tag: contract. Conditions: a key of 32 bytes, a slice that lies in memory. -/
import Derived.Test.YtcoggpedpclkaaaSu
namespace Go.Proofs.Ytcoggpedpclkaaa
set_option linter.unusedSimpArgs false
set_option linter.unusedVariables false
open Go.RowKit

theorem Sl.empty {w : World} {g : Nat} {v : Value} (h : Sl w g v []) (g' : Nat) : Sl w g' v [] := by
  obtain ⟨h1, A, c, h2, h3, h4, _⟩ := h
  exact ⟨h1, A, c, h2, h3, h4, fun e => absurd rfl e⟩
/-- A block that is not g, where the bytes may be said to lie. -/
theorem Sl.apart {w : World} {gb : Nat} {v : Value} {l : List Int} (h : Sl w gb v l) (hgb : l ≠ [] → gb < w.heap.size) (g : Nat) (hg : w.heap.size ≤ g) : ∃ gc, gc ≠ g ∧ Sl w gc v l ∧ (l ≠ [] → gc < w.heap.size) := by
  by_cases hl : l = []
  · subst hl
    exact ⟨g + 1, by omega, h.empty _, fun e => absurd rfl e⟩
  · exact ⟨gb, by have := hgb hl; omega, h, hgb⟩
set_option maxRecDepth 100000 in
set_option maxHeartbeats 8000000 in
theorem tag_is (k : List Int) (gb : Nat) (A : Option Addr) (m cap : Nat) (l : List Int) (w : World) (hk : k.length = 32) (hb : Bys k) (hs : Sl w gb (.slice A m cap) l) (hgb : l ≠ [] → gb < w.heap.size) :
    Calls Try.prog 15 #[.agg (vs .u8 k), .slice A m cap] w fun e w' => e = .returned (.agg (vs .u8 (tag k l))) ∧ Fr (fun _ => False) w w' := by
  have HK := Lib.hid (And.intro hk hb)
  have HS := Lib.hid (And.intro hs hgb)
  obtain ⟨t, ht⟩ : ∃ t, t = tag k l := ⟨_, rfl⟩
  have HT := Lib.hid ht
  have lt : t.length = 16 := by rw [ht]; exact tag_length k l
  rw [← ht]
  have s26 : Hid ((Try.prog.info? 26).map (·.size) = some (vs .u8 t).size) := by show _ = _; rw [vs_size, lt]; exact info26
  have s23 : Hid ((Try.prog.info? 23).map (·.size) = some (vs .u8 k).size) := by show _ = _; rw [vs_size, hk]; exact info23
  have eL : Hid ((vs .u8 (List.replicate 16 (0 : Int))).size = (vs .u8 t).size) := by show _ = _; rw [vs_size, vs_size, lt]; rfl
  obtain ⟨Z, hZ⟩ : ∃ Z, Z = List.replicate 16 (0 : Int) := ⟨_, rfl⟩
  have hz2 : ∀ W : World, (zeroValue 26).run Try.prog W = .ok (.agg (vs .u8 Z)) W := fun W => by rw [hZ]; exact zero26 W
  rw [← hZ] at eL
  clear hZ hk hb hs hgb ht lt
  go_enter Try.func15, Try.ntmps15
  go_upto_region 1 with (fail)
  generalize hW0 : (w.alloc (.cells (vs .u8 k) 23)).alloc (.cells (vs .u8 Z) 26) = W0
  have HW := Lib.hid (calm2 hW0)
  have X0 : Hid (Ar W0 w.heap.size 23 .u8 k) := HW.out.1
  have X1 : Hid (Ar W0 (w.heap.size + 1) 26 .u8 Z) := HW.out.2.1
  have F0 : Hid (Fr (fun _ => False) w W0) := HW.out.2.2
  clear hW0 HW hz2
  go_upto_region 2 with (first
    | (go_at_call 19; refine (new_is k _ HK.out.1 HK.out.2).mono ?_; rintro e w1 ⟨g, hg, rfl, hp, hf⟩)
    | refine wpList_load_row rfl 23 (.tmp 2) rfl (w.heap.size) rfl 23 (vs .u8 k) (0, 0) _ X0.out Try.underlying23 rfl s23.out ?_)
  have HP := Lib.hid hp
  have hX1 : w.heap.size + 1 < g := Nat.lt_of_lt_of_le X1.out.lt hg
  obtain ⟨gc, hgc, hsc, hgc2⟩ := (HS.out.1.fr F0.out (fun _ x => x)).apart (fun h => Nat.lt_of_lt_of_le (HS.out.2 h) F0.out.size) g hg
  have HC := Lib.hid (And.intro hgc (And.intro (hsc.fr hf (fun _ x => x)) (fun h => Nat.lt_of_lt_of_le (hgc2 h) hf.size)))
  replace X1 := Lib.hid (Ar.fr X1.out hf (fun x => x))
  have hw0 : w.heap.size ≤ g := by omega
  replace F0 := Lib.hid (F0.out.trans hf)
  clear X0 hp hf hg hgc hsc hgc2
  go_upto_region 3 with (go_at_call 20; refine (write_is k [] g gc A m cap l w1 HK.out.1 HK.out.2 HP.out HC.out.2.1 HC.out.1 HC.out.2.2).mono ?_; rintro e w2 ⟨rfl, hp2, hf2⟩)
  rw [List.nil_append] at hp2
  have HP2 := Lib.hid hp2
  replace X1 := Lib.hid (Ar.fr X1.out hf2 (show ¬ _ = g by omega))
  replace F0 : Hid (Fr (fun _ => False) w w2) := F0.out.trans' hf2 (fun i hi e => absurd e (by omega))
  clear hp2 hf2 HP HC
  go_wp2_with (first
    | (go_at_call 21; refine (sum_is k l g w2 HK.out.1 HK.out.2 HP2.out).mono ?_; rw [← HT.out]; rintro e w3 ⟨rfl, hf3⟩)
    | refine wpList_store_row rfl 26 (.tmp 4) (.tmp 12) rfl (w.heap.size + 1) (vs .u8 t) rfl rfl 26 _ (Ar.fr X1.out hf3 (fun x => x)) s26.out eL.out (vs_all _ _) ?_)
  refine bodyPost_ret (results_cell_row Try.results15 _ _ _ 26 _ (0, 0) _ rfl (setRow_heap _ _ _ _ _ _ (Ar.fr X1.out hf3 (fun x => x))) Try.underlying26 rfl s26.out) rfl ⟨rfl, (F0.out.trans hf3).setRow _ (.inr (by omega))⟩
end Go.Proofs.Ytcoggpedpclkaaa
