/- Arrays of integers in memory; the digits of the reference's numbers: plain mathematics. No condition: definitions and lemmas alone. -/
import Derived.Test.YtbkbodcncjhcmaaEBytes
namespace Go.Proofs.Ytbkbodcncjhcmaa
open Go.RowKit

/-! ### A block that is an array of integers -/
def vs (k : IntKind) (l : List Int) : Array Value := (l.map (Value.int k)).toArray
def Ar (w : World) (g : Nat) (t : TypeId) (k : IntKind) (l : List Int) : Prop := w.heap[g]? = some (.cells (vs k l) t (0, 0))

theorem vs_size (k : IntKind) (l : List Int) : (vs k l).size = l.length := by simp [vs]
theorem vs_get (k : IntKind) (l : List Int) (i : Nat) : (vs k l)[i]? = (l[i]?).map (Value.int k) := by simp [vs]
theorem vs_all (k : IntKind) (l : List Int) : ((vs k l).all (·.oneCell')) = true := by
  apply Array.all_eq_true_iff_forall_mem.2
  intro v hv
  simp only [vs, List.mem_toArray, List.mem_map] at hv
  obtain ⟨x, _, rfl⟩ := hv
  rfl
theorem vs_set (k : IntKind) (l : List Int) (i : Nat) (x : Int) : (vs k l).setIfInBounds i (.int k x) = vs k (l.set i x) := by
  apply Array.toList_inj.1
  simp [vs, List.map_set]
section
variable {w w' : World} {g : Nat} {t : TypeId} {k : IntKind} {l : List Int}
theorem Ar.lt (h : Ar w g t k l) : g < w.heap.size := heap_lt h
theorem Ar.cell (h : Ar w g t k l) {i : Nat} {x : Int} (hx : l[i]? = some x) : w.cell? ⟨g, i, none⟩ = some (.int k x) := by
  rw [cell_of_row w g i _ _ _ h, vs_get, hx]
  rfl
theorem Ar.frozen (h : Ar w g t k l) (i : Nat) : w.frozen? ⟨g, i, none⟩ = false := frozen_of_row _ _ _ _ _ h
theorem Ar.set (h : Ar w g t k l) (i : Nat) (x : Int) : Ar (w.setCell ⟨g, i, none⟩ (.int k x)) g t k (l.set i x) := by
  show _ = _
  rw [heap_setCell_same w g i _ _ _ h, vs_set]
theorem Ar.far (h : Ar w g t k l) {a : Addr} (ha : g ≠ a.block) (v : Value) : Ar (w.setCell a v) g t k l := (heap_setCell_other _ _ _ _ ha).trans h
theorem Ar.fr {S : Nat → Prop} (h : Ar w g t k l) (hf : Fr S w w') (hs : ¬ S g) : Ar w' g t k l := (hf.block _ h.lt hs).trans h
theorem Ar.drew (h : Ar w g t k l) : Ar w.drew g t k l := h
theorem Ar.drewN (h : Ar w g t k l) (n : Nat) : Ar (w.drewN n) g t k l := h
theorem Ar.alloc (h : Ar w g t k l) (o : Obj) : Ar (w.alloc o) g t k l := (Below.heap_alloc w o g h.lt).trans h
theorem Ar.row (h : Ar w g t k l) (m : List Int) : Ar (w.setRow g (vs k m)) g t k m := setRow_heap _ _ _ _ _ _ h
theorem Ar.rowFar (h : Ar w g t k l) {g' : Nat} (hg : g ≠ g') (cs : Array Value) : Ar (w.setRow g' cs) g t k l := (setRow_other _ _ _ _ hg).trans h
end
theorem Ar.new (w : World) (t : TypeId) (k : IntKind) (l : List Int) : Ar (w.alloc (.cells (vs k l) t)) w.heap.size t k l := heap_alloc_new w _
theorem Ar.alloc1 (w : World) (t t' : TypeId) (k k' : IntKind) (l l' : List Int) : Ar ((w.alloc (.cells (vs k l) t)).alloc (.cells (vs k' l') t')) (w.heap.size + 1) t' k' l' := by
  have h := Ar.new (w.alloc (.cells (vs k l) t)) t' k' l'
  rwa [show (w.alloc (.cells (vs k l) t)).heap.size = w.heap.size + 1 by simp] at h
theorem getD_some {l : List Int} {i : Nat} (h : i < l.length) : l[i]? = some (l.getD i 0) := by
  rw [List.getD_eq_getElem?_getD, List.getElem?_eq_getElem h]
  rfl

/-! ### Digits of 65536 -/
def vd : List Int → Int
  | [] => 0
  | b :: r => b + 65536 * vd r
def Digs (l : List Int) : Prop := ∀ b ∈ l, 0 ≤ b ∧ b ≤ 65535
def Bnd (B : Int) (l : List Int) : Prop := ∀ b ∈ l, -B ≤ b ∧ b ≤ B
theorem vd_append (l k : List Int) : vd (l ++ k) = vd l + 65536 ^ l.length * vd k := by
  induction l with
  | nil => simp [vd]
  | cons b r ih =>
    simp only [List.cons_append, vd, ih, List.length_cons, Int.pow_succ]
    rw [Int.mul_add, Int.mul_comm ((65536 : Int) ^ r.length) 65536, Int.mul_assoc, Int.add_assoc]
theorem vd_bd (l : List Int) (h : Digs l) : 0 ≤ vd l ∧ vd l < (65536 : Int) ^ l.length := by
  induction l with
  | nil => simp [vd]
  | cons b r ih =>
    have h1 := h b (by simp)
    have h2 := ih (fun x hx => h x (by simp [hx]))
    simp only [vd, List.length_cons, Int.pow_succ]
    omega
theorem vd_take_succ (l : List Int) (k : Nat) (h : k < l.length) : vd (l.take (k + 1)) = vd (l.take k) + 65536 ^ k * l.getD k 0 := by
  have e : l[k] = l.getD k 0 := by
    have := getD_some h
    rw [List.getElem?_eq_getElem h] at this
    injection this
  rw [List.take_succ_eq_append_getElem h, vd_append, e]
  simp only [vd, List.length_take, Nat.min_eq_left (Nat.le_of_lt h), Int.mul_zero, Int.add_zero]

/-! ### One round of carrying -/
/-- What is carried into place k. -/
def ca (x : List Int) : Nat → Int
  | 0 => 0
  | k + 1 => (x.getD k 0 + ca x k) / 65536
/-- The digit that is left at place k. -/
def dg (x : List Int) (k : Nat) : Int := (x.getD k 0 + ca x k) % 65536
def done (x : List Int) (k : Nat) : List Int := (List.range k).map (dg x) ++ x.drop k
theorem done_length (x : List Int) (k : Nat) (h : k ≤ x.length) : (done x k).length = x.length := by simp [done]; omega
theorem done_zero (x : List Int) : done x 0 = x := by simp [done]
theorem done_get (x : List Int) (k : Nat) (h : k < x.length) : (done x k)[k]? = some (x.getD k 0) := by
  unfold done
  rw [List.getElem?_append_right (by simp)]
  simp only [List.length_map, List.length_range, Nat.sub_self, List.getElem?_drop, Nat.add_zero]
  exact getD_some h
theorem done_succ (x : List Int) (k : Nat) (h : k < x.length) : (done x k).set k (dg x k) = done x (k + 1) := by
  unfold done
  rw [List.set_append_right _ _ (by simp)]
  simp only [List.length_map, List.length_range, Nat.sub_self, List.range_succ, List.map_append, List.map_cons, List.map_nil, List.append_assoc]
  rw [List.drop_eq_getElem_cons h]
  rfl
theorem carry_sum (x : List Int) (k : Nat) (h : k ≤ x.length) : vd ((List.range k).map (dg x)) + 65536 ^ k * ca x k = vd (x.take k) := by
  induction k with
  | zero => simp [vd, ca]
  | succ k ih =>
    have ih := ih (by omega)
    rw [vd_take_succ x k (by omega), ← ih, List.range_succ, List.map_append, vd_append]
    simp only [List.map_cons, List.map_nil, vd, List.length_map, List.length_range, ca, dg, Int.pow_succ]
    have e := Int.mul_ediv_add_emod (x.getD k 0 + ca x k) 65536
    generalize (x.getD k 0 + ca x k) / 65536 = q at *
    generalize (x.getD k 0 + ca x k) % 65536 = r at *
    have : x.getD k 0 = 65536 * q + r - ca x k := by omega
    rw [this]
    generalize (65536 : Int) ^ k = P
    grind
theorem ca_bd (x : List Int) (B : Int) (hB : Bnd B x) (h0 : 65536 ≤ B) (k : Nat) (h : k ≤ x.length) : -(B / 32768) ≤ ca x k ∧ ca x k ≤ B / 32768 := by
  induction k with
  | zero => simp only [ca]; omega
  | succ k ih =>
    have ih := ih (by omega)
    have hx := hB (x.getD k 0) (List.mem_of_getElem? (getD_some (by omega)))
    simp only [ca]
    omega
theorem dg_bd (x : List Int) (k : Nat) : 0 ≤ dg x k ∧ dg x k ≤ 65535 := by unfold dg; omega
theorem digs_done (x : List Int) (k : Nat) : Digs ((List.range k).map (dg x)) := by
  intro b hb
  simp only [List.mem_map] at hb
  obtain ⟨i, _, rfl⟩ := hb
  exact dg_bd x i

/-- What one round leaves. -/
def rnd (x : List Int) : List Int := (done x 16).set 0 ((done x 16).getD 0 0 + 38 * ca x 16)
theorem set0 (l : List Int) (y : Int) (h : 0 < l.length) : vd (l.set 0 y) = vd l - l.getD 0 0 + y := by
  cases l with
  | nil => simp at h
  | cons b r => simp [vd]; omega

def pw : Int := 115792089237316195423570985008687907853269984665640564039457584007913129639936
theorem rnd_val (x : List Int) (hl : x.length = 16) : vd (done x 16) + pw * ca x 16 = vd x ∧ Digs (done x 16) ∧ (done x 16).length = 16 ∧ vd (rnd x) = vd (done x 16) + 38 * ca x 16 := by
  have e : done x 16 = (List.range 16).map (dg x) := by
    unfold done
    rw [List.drop_eq_nil_of_le (by omega), List.append_nil]
  refine ⟨?_, ?_, ?_, ?_⟩
  · have h := carry_sum x 16 (by omega)
    rw [List.take_of_length_le (by omega)] at h
    rw [e, ← h]
    rfl
  · rw [e]; exact digs_done x 16
  · rw [done_length x 16 (by omega), hl]
  · unfold rnd
    rw [set0 _ _ (by rw [done_length x 16 (by omega)]; omega)]
    omega
theorem rnd_length (x : List Int) (hl : x.length = 16) : (rnd x).length = 16 := by
  unfold rnd
  rw [List.length_set, done_length x 16 (by omega), hl]
/-- The bounds ahead of each round. -/
def Bd : Nat → List Int → Prop
  | 0, x => Bnd 1152921504606846976 x
  | 1, x => Bnd 1152921504606846976 x ∧ -2251799813685248 ≤ vd x ∧ vd x < pw + 2251799813685248
  | 2, x => Bnd 1152921504606846976 x ∧ 0 ≤ vd x ∧ vd x < pw
  | _, x => Digs x
theorem Bd.bnd {t : Nat} {x : List Int} (h : Bd t x) : Bnd 1152921504606846976 x := by
  match t, h with
  | 0, h => exact h
  | 1, h => exact h.1
  | 2, h => exact h.1
  | _ + 3, h => exact fun b hb => by have := h b hb; omega
theorem bnd_rnd (x : List Int) (hl : x.length = 16) (h : Bnd 1152921504606846976 x) : Bnd 1152921504606846976 (rnd x) := by
  have hc := ca_bd x _ h (by decide) 16 (by omega)
  obtain ⟨-, hd, hdl, -⟩ := rnd_val x hl
  intro b hb
  unfold rnd at hb
  rcases List.mem_or_eq_of_mem_set hb with hb | rfl
  · have := hd b hb; omega
  · have := hd ((done x 16).getD 0 0) (List.mem_of_getElem? (getD_some (by omega)))
    omega
theorem Bd.rnd {t : Nat} {x : List Int} (hl : x.length = 16) (h : Bd t x) : Bd (t + 1) (rnd x) ∧ vd (Ytbkbodcncjhcmaa.rnd x) % pp = vd x % pp := by
  obtain ⟨e, hd, hdl, e2⟩ := rnd_val x hl
  have hb := bnd_rnd x hl h.bnd
  have hc := ca_bd x _ h.bnd (by decide) 16 (by omega)
  have hv := vd_bd _ hd
  rw [hdl] at hv
  have hpw : (65536 : Int) ^ 16 = pw := by decide
  rw [hpw] at hv
  generalize hC : ca x 16 = c at *
  refine ⟨?_, ?_⟩
  · match t, h with
    | 0, h =>
      refine ⟨hb, ?_⟩
      rw [e2]
      omega
    | 1, h =>
      refine ⟨hb, ?_⟩
      obtain ⟨_, h1, h2⟩ := h
      rw [e2]
      have : c = -1 ∨ c = 0 ∨ c = 1 := by unfold pw at *; omega
      unfold pw at *
      rcases this with rfl | rfl | rfl <;> omega
    | 2, h =>
      obtain ⟨_, h1, h2⟩ := h
      have : c = 0 := by unfold pw at *; omega
      intro b hb'
      unfold Ytbkbodcncjhcmaa.rnd at hb'
      rcases List.mem_or_eq_of_mem_set hb' with hb' | rfl
      · exact hd b hb'
      · have := hd ((done x 16).getD 0 0) (List.mem_of_getElem? (getD_some (by omega)))
        omega
    | n + 3, h =>
      have h1 := vd_bd x h
      rw [hl, hpw] at h1
      have : c = 0 := by unfold pw at *; omega
      intro b hb'
      unfold Ytbkbodcncjhcmaa.rnd at hb'
      rcases List.mem_or_eq_of_mem_set hb' with hb' | rfl
      · exact hd b hb'
      · have := hd ((done x 16).getD 0 0) (List.mem_of_getElem? (getD_some (by omega)))
        omega
  · rw [e2]
    have : vd (done x 16) + 38 * c = vd x + pp * (-2 * c) := by
      unfold pw at e
      unfold pp
      omega
    rw [this, Int.add_mul_emod_self_left]
end Go.Proofs.Ytbkbodcncjhcmaa
