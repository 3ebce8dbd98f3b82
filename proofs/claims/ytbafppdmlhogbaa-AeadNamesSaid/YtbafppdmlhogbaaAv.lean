/- Own rows of bytes, cell by cell; literals; the values of layer 6: padding, the one-time key, what is tagged, boxes, nonces. Lemmas alone. -/
import Derived.Test.YtbafppdmlhogbaaXe
import Derived.Test.YtbafppdmlhogbaaSp
import Derived.Test.YtbafppdmlhogbaaSu
import Derived.Test.YtbafppdmlhogbaaLi
namespace Go.Proofs.Ytbafppdmlhogbaa
set_option linter.unusedSimpArgs false
set_option linter.unusedVariables false
open Go.ChangeShapes Go.WideShapes Go.ChangeAt Go.RowKit

/-- The bytes of a row of the call's own, cell by cell. -/
theorem Ow.cells {w : World} {A : Option Addr} {n c : Nat} {l : List Int} (h : Ow w (.slice A n c) l) (b0 : Nat) (hb : ∀ k, (Value.slice A n c).ownBlock = some k → b0 ≤ k) (hs : b0 ≤ w.heap.size) :
    ∃ g, b0 ≤ g ∧ (0 < n → g < w.heap.size ∧ A = some ⟨g, 0, none⟩ ∧ ∀ i, i < n → w.cell? ⟨g, i, none⟩ = some (.int .u8 (l.getD i 0)) ∧ w.frozen? ⟨g, i, none⟩ = false) ∧ (∀ k, (Value.slice A n c).ownBlock = some k → k = g) ∧ Sl w g (.slice A n c) l := by
  rcases h.1.2 with ⟨hv, h0⟩ | ⟨g, cap, cur, hv, _, hh, hn, hm, hs, ht⟩
  · injection hv with e1 e2 e3
    subst e1 e2 e3
    exact ⟨w.heap.size, hs, fun h => absurd h (Nat.lt_irrefl _), (fun k hk => by cases hk), by rw [List.eq_nil_of_length_eq_zero h0]; exact Sl.nil _ _⟩
  · injection hv with e1 e2 e3
    subst e1 e2
    refine ⟨g, hb g rfl, fun _ => ⟨heap_lt hh, rfl, fun i hi => ⟨?_, frozen_of_row _ _ _ _ _ hh⟩⟩, (fun k hk => ?_), h.sl⟩
    · rw [Nat.mul_one] at ht
      rw [cell_of_row _ _ _ _ _ _ hh]
      have hc : cur[i]? = (bs l)[i]? := by rw [← ht, List.getElem?_take, if_pos hi]; simp
      rw [hc, bs_get, getD_some hi]
      rfl
    · have hk : some g = some k := hk
      injection hk with hk
      exact hk.symm
/-- A row's bytes from a place on. -/
def Cl (W : World) (g : Nat) (A : Option Addr) (k n : Nat) (l : List Int) : Prop := 0 < n → g < W.heap.size ∧ A = some ⟨g, 0, none⟩ ∧ ∀ i, k ≤ i → i < n → W.cell? ⟨g, i, none⟩ = some (.int .u8 (l.getD i 0)) ∧ W.frozen? ⟨g, i, none⟩ = false
theorem Cl.fr {W W' : World} {g : Nat} {A : Option Addr} {k n : Nat} {l : List Int} (h : Cl W g A k n l) {S : Nat → Prop} (hf : Fr S W W') (hs : ¬ S g) : Cl W' g A k n l := fun h0 => by
  obtain ⟨h1, h2, h3⟩ := h h0
  have e := hf.block g h1 hs
  exact ⟨Nat.lt_of_lt_of_le h1 hf.size, h2, fun i a b => ⟨(World.cell?_of_block (w := W) e).trans (h3 i a b).1, (World.frozen?_of_block (w := W) e).trans (h3 i a b).2⟩⟩
theorem Cl.set {W : World} {g : Nat} {A : Option Addr} {k n : Nat} {l : List Int} (h : Cl W g A k n l) (v : Value) : Cl (W.setCell ⟨g, k, none⟩ v) g A (k + 1) n l := fun h0 => by
  obtain ⟨h1, h2, h3⟩ := h h0
  exact ⟨by simpa using h1, h2, fun i a b => ⟨(World.cell?_setCell_other (w := W) (v := v) (a := ⟨g, k, none⟩) (b := ⟨g, i, none⟩) (by intro e; injection e with _ e _; omega)).trans (h3 i (by omega) b).1, by rw [World.frozen?_setCell]; exact (h3 i (by omega) b).2⟩⟩
theorem Ap2.next {w w' W0 : World} {v v' : Value} {l k : List Int} (h : Ap2 w v l k v' w') (G : Fr (fun _ => False) W0 w) (B : ∀ j, v.ownBlock = some j → W0.heap.size ≤ j) : Ow w' v' (l ++ k) ∧ Fr (fun _ => False) W0 w' ∧ ∀ j, v'.ownBlock = some j → W0.heap.size ≤ j := by
  refine ⟨h.own, G.grown h.grown (fun j hj => .inr (B j hj)), fun j hj => ?_⟩
  rcases h.at_ with e | e
  · rw [e] at hj; exact B j hj
  · rw [e] at hj
    injection hj with hj
    rw [← hj]
    exact G.size
theorem lit_sl (w : World) (x : Int) (hx : 0 ≤ x ∧ x ≤ 255) : Sl (w.alloc (.cells #[.int .u8 x] 5)) w.heap.size (.slice (some ⟨w.heap.size, 0, none⟩) 1 1) [x] :=
  Sl.block (fun b hb => by rw [List.mem_singleton.1 hb]; exact hx) (heap_alloc_new w _) (fun j _ => by simp [bs]) (by simp) (by decide)
theorem lit_ow (w : World) (x : Int) (hx : 0 ≤ x ∧ x ≤ 255) : Ow (w.alloc (.cells #[.int .u8 x] 5)) (.slice (some ⟨w.heap.size, 0, none⟩) 1 1) [x] :=
  ⟨⟨by simp [bs], .inr ⟨w.heap.size, 1, #[.int .u8 x], by simp, Nat.zero_le _, heap_alloc_new w _, by simp, by decide, by simp, by simp [bs]⟩⟩, fun b hb => by rw [List.mem_singleton.1 hb]; exact hx⟩
theorem Ow.len {w : World} {A : Option Addr} {n c : Nat} {l : List Int} (h : Ow w (.slice A n c) l) : l.length = n := h.sl.len
/-- One byte of a row of the call's own is written. -/
theorem Ow.setSl {w : World} {v : Value} {l : List Int} (h : Ow w v l) (i : Nat) (hi : i < l.length) (y : Int) (hy : 0 ≤ y ∧ y ≤ 255) :
    ∃ g c, v = .slice (some ⟨g, 0, none⟩) l.length c ∧ w.cell? ⟨g, i, none⟩ = some (.int .u8 (l.getD i 0)) ∧ w.frozen? ⟨g, i, none⟩ = false ∧ g < w.heap.size ∧ Sl (w.setCell ⟨g, i, none⟩ (.int .u8 y)) g v (l.set i y) := by
  obtain ⟨⟨hx, hz⟩, hb⟩ := h
  rcases hz with ⟨_, h0⟩ | ⟨g, cap, cur, hv, _, hh, hn, hm, hs, ht⟩
  · rw [h0] at hi; omega
  · rw [Nat.mul_one] at ht hs
    have hcur : ∀ j, j < l.length → cur[j]? = (bs l)[j]? := fun j hj => by
      rw [← ht, List.getElem?_take, if_pos hj]
      simp
    have hc : cur[i]? = some (.int .u8 (l.getD i 0)) := by rw [hcur i hi, bs_get, getD_some hi]; rfl
    refine ⟨g, cap, hv, (cell_of_row _ _ _ _ _ _ hh).trans hc, frozen_of_row _ _ _ _ _ hh, heap_lt hh, ?_⟩
    subst hv
    have hh2 := heap_setCell_same w g i _ _ (.int .u8 y) hh
    have hb2 : Bys (l.set i y) := fun b hb' => by
      rcases List.mem_or_eq_of_mem_set hb' with h | rfl
      · exact hb b h
      · exact hy
    have hS := Sl.block (c := cap) hb2 hh2 (fun j hj => by
      rw [List.length_set] at hj
      rw [Array.getElem?_setIfInBounds]
      split
      · rename_i e
        subst e
        have hsz : i < cur.size := by omega
        rw [if_pos hsz, bs_get, List.getElem?_set_self hj]
        rfl
      · rename_i e
        rw [hcur j hj, bs_get, bs_get, List.getElem?_set_ne e]) (by rw [List.length_set]; exact hn) hm
    rwa [List.length_set] at hS

/-- A row that was made behind a world. -/
def Nw (W0 : World) (w : World) (v : Value) (l : List Int) : Prop := Ow w v l ∧ ∀ j, v.ownBlock = some j → W0.heap.size ≤ j
theorem Nw.fr {W0 w w' : World} {v : Value} {l : List Int} (h : Nw W0 w v l) (hf : Fr (fun _ => False) w w') (_ : ∀ i : Nat, False → False) : Nw W0 w' v l := ⟨h.1.keep hf (fun _ _ x => x), h.2⟩
theorem Nw.of {W0 W1 w : World} {v : Value} {l : List Int} (h : Nw W1 w v l) (hf : Fr (fun _ => False) W0 W1) : Nw W0 w v l := ⟨h.1, fun j hj => Nat.le_trans hf.size (h.2 j hj)⟩
theorem Nw.nil (W0 w : World) : Nw W0 w (.slice none 0 0) [] := ⟨Ow.nil w, fun _ h => by cases h⟩
theorem Nw.shape {W0 w : World} {v : Value} {l : List Int} (h : Nw W0 w v l) : ∃ A c, v = .slice A l.length c := by
  obtain ⟨A, n, c, rfl, rfl⟩ := h.1.shape
  exact ⟨A, c, rfl⟩
theorem Sl.lt6 {w : World} {g : Nat} {v : Value} {l : List Int} (h : Sl w g v l) (hl : l ≠ []) : g < w.heap.size := by
  obtain ⟨_, A, c, _, _, _, hx⟩ := h
  obtain ⟨o, _, hg, _⟩ := hx hl
  exact hg
theorem Nw.lt {W0 w : World} {v : Value} {l : List Int} (h : Nw W0 w v l) : l ≠ [] → v.ownBlock.getD 0 < w.heap.size := fun hl => h.1.sl.lt6 hl
theorem les_get (n : Nat) : ∀ (x : Int) (i : Nat), i < n → (les n x)[i]? = some (x / 256 ^ i % 256) := by
  induction n with
  | zero => intro x i h; omega
  | succ n ih =>
    intro x i h
    cases i with
    | zero => simp [les]
    | succ i =>
      simp only [les, List.getElem?_cons_succ]
      rw [ih _ _ (by omega), Int.pow_succ', Int.ediv_ediv_of_nonneg (by decide)]
theorem les_take (n : Nat) (x : Int) (i : Nat) (h : i < n) : (les n x).take i ++ [x / 256 ^ i % 256] = (les n x).take (i + 1) := take_snoc (les_get n x i h)
theorem les_byte (x : Int) : 0 ≤ x % 256 ∧ x % 256 ≤ 255 := by omega
theorem les_inj (n : Nat) (x y : Int) (hx : 0 ≤ x ∧ x < 256 ^ n) (hy : 0 ≤ y ∧ y < 256 ^ n) (h : les n x = les n y) : x = y := by
  have h2 : vl (les n x) = vl (les n y) := by rw [h]
  rw [vl_les, vl_les, Int.emod_eq_of_lt hx.1 hx.2, Int.emod_eq_of_lt hy.1 hy.2] at h2
  exact h2

/-- How many bytes 0 fill a length up to a multiple of 16. -/
def gap (n : Nat) : Nat := (16 - n % 16) % 16
def pad (b : List Int) : List Int := b ++ List.replicate (gap b.length) 0
theorem pad_length (b : List Int) : (pad b).length = b.length + gap b.length := by simp [pad]
theorem gap_lt (n : Nat) : gap n < 16 := Nat.mod_lt _ (by decide)
theorem noughts6 (m : Nat) : Bys (List.replicate m 0) := fun b hb => by rw [List.eq_of_mem_replicate hb]; decide
theorem pad_bys {b : List Int} (h : Bys b) : Bys (pad b) := h.append (noughts6 _)
/-- The key of the tag: the first 32 bytes of the block 0. -/
def otk (k n : List Int) : List Int := (bk64 k 0 n).take 32
theorem wd0 : Wd 0 := by unfold Wd; omega
theorem wd1 : Wd 1 := by unfold Wd; omega
theorem otk_length {k n : List Int} (hk : k.length = 32) (bk : Bys k) (hn : n.length = 12) (bn : Bys n) : (otk k n).length = 32 := by
  rw [otk, List.length_take, bk64_length hk bk wd0 hn bn]
  rfl
theorem otk_bys (k n : List Int) : Bys (otk k n) := (bk64_bys k 0 n).take 32
/-- What is tagged. -/
def mac (ad b : List Int) : List Int := ((pad ad ++ pad b) ++ les 8 ad.length) ++ les 8 b.length
theorem mac_bys {ad b : List Int} (h1 : Bys ad) (h2 : Bys b) : Bys (mac ad b) := (((pad_bys h1).append (pad_bys h2)).append (les_bys _ _)).append (les_bys _ _)
/-- The tag of a box's first part. -/
def atag (k n ad b : List Int) : List Int := tag (otk k n) (mac ad b)
theorem atag_length (k n ad b : List Int) : (atag k n ad b).length = 16 := tag_length _ _
theorem atag_bys (k n ad b : List Int) : Bys (atag k n ad b) := tag_bys _ _
def box (k n ad l : List Int) : List Int := xo k 1 n l ++ atag k n ad (xo k 1 n l)
theorem box_length (k n ad l : List Int) : (box k n ad l).length = l.length + 16 := by simp [box, xo_length, atag_length]
theorem box_bys {k n ad l : List Int} (h : Bys l) : Bys (box k n ad l) := (xo_bys' h).append (atag_bys _ _ _ _)
theorem box_take (k n ad l : List Int) : (box k n ad l).take l.length = xo k 1 n l := by
  rw [box, List.take_append_of_le_length (by rw [xo_length]; exact Nat.le_refl _), List.take_of_length_le (by rw [xo_length]; exact Nat.le_refl _)]
theorem box_drop (k n ad l : List Int) : (box k n ad l).drop l.length = atag k n ad (xo k 1 n l) := by
  rw [box, List.drop_append_of_le_length (by rw [xo_length]; exact Nat.le_refl _), List.drop_of_length_le (by rw [xo_length]; exact Nat.le_refl _), List.nil_append]
/-- What Seal answers. -/
def sealv (k n ad l : List Int) : List Int × Int := if 4096 < ad.length ∨ 4096 < l.length then ([], 5) else (box k n ad l, 0)
/-- What Open answers. -/
def openv (k n ad b : List Int) : List Int × Int :=
  if 4096 < ad.length ∨ 4112 < b.length then ([], 5)
  else if b.length < 16 then ([], 3)
  else if atag k n ad (b.take (b.length - 16)) = b.drop (b.length - 16) then (xo k 1 n (b.take (b.length - 16)), 0)
  else ([], 60)
theorem sealv_bys {k n ad l : List Int} (h : Bys l) : Bys (sealv k n ad l).1 := by
  unfold sealv
  split
  · exact Bys.nil
  · exact box_bys h
theorem openv_bys {k n ad b : List Int} (h : Bys b) : Bys (openv k n ad b).1 := by
  unfold openv
  split
  · exact Bys.nil
  · split
    · exact Bys.nil
    · split
      · exact xo_bys' (h.take _)
      · exact Bys.nil
/-- What is sealed is opened. -/
theorem openv_box {k n ad l : List Int} (bl : Bys l) (ha : ad.length ≤ 4096) (hl : l.length ≤ 4096) : openv k n ad (box k n ad l) = (l, 0) := by
  unfold openv
  rw [box_length, if_neg (by omega), if_neg (by omega), Nat.add_sub_cancel, box_take, box_drop, if_pos rfl, xo_xo bl]
/-- What opens is a box. -/
theorem box_openv {k n ad b x : List Int} (bb : Bys b) (h : openv k n ad b = (x, 0)) : ad.length ≤ 4096 ∧ x.length ≤ 4096 ∧ 16 ≤ b.length ∧ box k n ad x = b := by
  unfold openv at h
  split at h
  · injection h with _ h; cases h
  · split at h
    · injection h with _ h; cases h
    · split at h
      · rename_i h1 h2 h3
        injection h with h h'
        clear h'
        subst h
        refine ⟨by omega, by rw [xo_length, List.length_take]; omega, by omega, ?_⟩
        rw [box, xo_xo (bb.take _), h3, List.take_append_drop]
      · injection h with _ h; cases h
/-- A number's nonce. -/
def nonce (x : Int) : List Int := [0, 0, 0, 0] ++ les 8 x
theorem nonce_length (x : Int) : (nonce x).length = 12 := by simp [nonce, les_length]
theorem nonce_bys (x : Int) : Bys (nonce x) := Bys.append (fun b hb => by simp at hb; omega) (les_bys _ _)
end Go.Proofs.Ytbafppdmlhogbaa
