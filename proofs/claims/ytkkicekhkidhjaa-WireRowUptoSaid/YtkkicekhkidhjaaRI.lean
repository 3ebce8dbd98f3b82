/- Arrays of integers in memory; the bits of a number. Definitions and lemmas alone. -/
import Derived.Test.YtkkicekhkidhjaaSpoil
import Derived.Deep.Cut
namespace Go.Proofs.Ytkkicekhkidhjaa
set_option linter.unusedSimpArgs false
set_option linter.unusedVariables false
open Go.RowKit

/-! ### A block that is an array of integers -/
def vs (k : IntKind) (l : List Int) : Array Value := (l.map (Value.int k)).toArray
def Ar (w : World) (g : Nat) (t : TypeId) (k : IntKind) (l : List Int) : Prop := w.heap[g]? = some (.cells (vs k l) t (0, 0))

theorem vs_size (k : IntKind) (l : List Int) : (vs k l).size = l.length := by simp [vs]
theorem vs_get (k : IntKind) (l : List Int) (i : Nat) : (vs k l)[i]? = (l[i]?).map (Value.int k) := by simp [vs]
theorem vs_all (k : IntKind) (l : List Int) : ((vs k l).all (·.oneCell')) = true := by
  apply Array.all_eq_true_iff_forall_mem.2
  intro v hv
  simp only [vs, List.mem_toArray, List.mem_map] at hv
  obtain ⟨x, _, rfl⟩ := hv
  rfl
theorem vs_set (k : IntKind) (l : List Int) (i : Nat) (x : Int) : (vs k l).setIfInBounds i (.int k x) = vs k (l.set i x) := by
  apply Array.toList_inj.1
  simp [vs, List.map_set]
section
variable {w w' : World} {g : Nat} {t : TypeId} {k : IntKind} {l : List Int}
theorem Ar.lt (h : Ar w g t k l) : g < w.heap.size := heap_lt h
theorem Ar.cell (h : Ar w g t k l) {i : Nat} {x : Int} (hx : l[i]? = some x) : w.cell? ⟨g, i, none⟩ = some (.int k x) := by
  rw [cell_of_row w g i _ _ _ h, vs_get, hx]
  rfl
theorem Ar.frozen (h : Ar w g t k l) (i : Nat) : w.frozen? ⟨g, i, none⟩ = false := frozen_of_row _ _ _ _ _ h
theorem Ar.set (h : Ar w g t k l) (i : Nat) (x : Int) : Ar (w.setCell ⟨g, i, none⟩ (.int k x)) g t k (l.set i x) := by
  show _ = _
  rw [heap_setCell_same w g i _ _ _ h, vs_set]
theorem Ar.far (h : Ar w g t k l) {a : Addr} (ha : g ≠ a.block) (v : Value) : Ar (w.setCell a v) g t k l := (heap_setCell_other _ _ _ _ ha).trans h
theorem Ar.fr {S : Nat → Prop} (h : Ar w g t k l) (hf : Fr S w w') (hs : ¬ S g) : Ar w' g t k l := (hf.block _ h.lt hs).trans h
theorem Ar.drew (h : Ar w g t k l) : Ar w.drew g t k l := h
theorem Ar.drewN (h : Ar w g t k l) (n : Nat) : Ar (w.drewN n) g t k l := h
theorem Ar.alloc (h : Ar w g t k l) (o : Obj) : Ar (w.alloc o) g t k l := (Below.heap_alloc w o g h.lt).trans h
theorem Ar.row (h : Ar w g t k l) (m : List Int) : Ar (w.setRow g (vs k m)) g t k m := setRow_heap _ _ _ _ _ _ h
theorem Ar.rowFar (h : Ar w g t k l) {g' : Nat} (hg : g ≠ g') (cs : Array Value) : Ar (w.setRow g' cs) g t k l := (setRow_other _ _ _ _ hg).trans h
end
theorem Ar.new (w : World) (t : TypeId) (k : IntKind) (l : List Int) : Ar (w.alloc (.cells (vs k l) t)) w.heap.size t k l := heap_alloc_new w _
theorem Ar.alloc1 (w : World) (t t' : TypeId) (k k' : IntKind) (l l' : List Int) : Ar ((w.alloc (.cells (vs k l) t)).alloc (.cells (vs k' l') t')) (w.heap.size + 1) t' k' l' := by
  have h := Ar.new (w.alloc (.cells (vs k l) t)) t' k' l'
  rwa [show (w.alloc (.cells (vs k l) t)).heap.size = w.heap.size + 1 by simp] at h
theorem getD_some {l : List Int} {i : Nat} (h : i < l.length) : l[i]? = some (l.getD i 0) := by
  rw [List.getD_eq_getElem?_getD, List.getElem?_eq_getElem h]
  rfl

theorem int_and1 (n : Int) : bits .and .i64 n 1 = n % 2 := by
  have h1 : (BitVec.ofInt 64 1).toNat = 2 ^ 1 - 1 := by decide
  have key : (BitVec.ofInt 64 n &&& BitVec.ofInt 64 1).toNat = (n % ((2 ^ 64 : Nat) : Int)).toNat % 2 ^ 1 := by
    rw [BitVec.toNat_and, BitVec.toNat_ofInt, h1, Nat.and_two_pow_sub_one_eq_mod]
  show IntKind.i64.wrap ((BitVec.ofInt 64 n &&& BitVec.ofInt 64 1).toNat : Nat) = n % 2
  rw [key, IntKind.wrap_i64]
  omega
/-- A number's 64 bits, the highest first. -/
def bitl (v : Int) : List Int := (List.range 64).map fun i => v / 2 ^ (63 - i) % 2
theorem bitl_length (v : Int) : (bitl v).length = 64 := by simp [bitl]
theorem bitl_get (v : Int) (i : Nat) (h : i < 64) : (bitl v)[i]? = some (v / 2 ^ (63 - i) % 2) := by simp [bitl, h]
/-- The last bits laid. -/
def btl (v : Int) (i : Nat) : List Int := List.replicate (64 - i) 0 ++ (bitl v).drop (64 - i)
theorem btl_length (v : Int) (i : Nat) (h : i ≤ 64) : (btl v i).length = 64 := by simp [btl, bitl_length] <;> omega
theorem btl_zero (v : Int) : btl v 0 = List.replicate 64 0 := by
  unfold btl
  rw [List.drop_eq_nil_of_le (by rw [bitl_length]; omega), List.append_nil]
theorem btl_all (v : Int) : btl v 64 = bitl v := by simp [btl]
theorem btl_set (v : Int) (i : Nat) (h : i < 64) : (btl v i).set (63 - i) (v / 2 ^ i % 2) = btl v (i + 1) := by
  have hg := bitl_get v (63 - i) (by omega)
  rw [show 63 - (63 - i) = i by omega] at hg
  apply List.ext_getElem?
  intro j
  unfold btl
  rw [List.getElem?_set]
  by_cases hj : 63 - i = j
  · subst hj
    rw [if_pos rfl, if_pos (by simp [bitl_length] <;> omega), List.getElem?_append_right (by simp <;> omega)]
    simp only [List.length_replicate, List.getElem?_drop]
    rw [show 64 - (i + 1) + (63 - i - (64 - (i + 1))) = 63 - i by omega, hg]
  · rw [if_neg hj]
    rcases Nat.lt_or_ge j (63 - i) with h1 | h1
    · rw [List.getElem?_append_left (by simp <;> omega), List.getElem?_append_left (by simp <;> omega)]
      rw [List.getElem?_replicate, List.getElem?_replicate, if_pos (by omega), if_pos (by omega)]
    · rw [List.getElem?_append_right (by simp <;> omega), List.getElem?_append_right (by simp <;> omega)]
      simp only [List.length_replicate, List.getElem?_drop]
      congr 1
      omega
theorem half (v : Int) (i : Nat) : v / 2 ^ i / 2 = v / 2 ^ (i + 1) := by
  rw [Int.pow_succ, Int.ediv_ediv_of_nonneg (Int.le_of_lt (Int.pow_pos (by decide)))]
theorem pow_bound (v : Int) (i : Nat) (h1 : -9223372036854775808 ≤ v) (h2 : v ≤ 9223372036854775807) : -9223372036854775808 ≤ v / 2 ^ i ∧ v / 2 ^ i ≤ 9223372036854775807 := by
  induction i with
  | zero => simpa using ⟨h1, h2⟩
  | succ i ih =>
    rw [← half]
    omega
set_option maxHeartbeats 2000000 in
theorem rbits_any (v : Int) (w : World) (h1 : -9223372036854775808 ≤ v) (h2 : v ≤ 9223372036854775807) :
    Calls Try.prog 43 #[.int .i64 v, .int .i64 8] w fun e w' => ∃ g, e = .returned (.slice (some ⟨g, 0, none⟩) 64 64) ∧ Ar w' g 3 .i64 (bitl v) ∧ w.heap.size ≤ g ∧ Fr (fun _ => False) w w' := by
  have HV := Lib.hid (And.intro h1 h2)
  have hmk : ∀ W : World, (Instr.makeSlice 66 (.int .i64 64) (.int .i64 64)).run Try.prog W = .ok (.slice (some ⟨W.heap.size, 0, none⟩) 64 64) (W.alloc (.cells (vs .i64 (btl v 0)) 3)) := fun W => by
    obtain ⟨i0, hi, hz0, hz1, hz2⟩ := info_parts (show (Try.prog.info? 3).map (fun i => (i.zero, i.size, i.bytes)) = some (some (.int .i64 0), 1, 8) by kernel_rfl)
    have h := run_make (P := Try.prog) W 66 3 i0 _ Try.underlying66 hi hz0 .i64 .i64 64 64 (by omega) (by omega) (by rw [hz2]; omega) (by omega)
    rw [h]
    congr 3
    apply Array.toList_inj.1
    rw [hz1, btl_zero]
    refine (toList_madeCells_one _ _).trans ?_
    simp [vs]
  clear h1 h2
  go_enter Try.func43, Try.ntmps43
  go_upto_region 2 with (fail)
  generalize hW : w.alloc (.cells (vs .i64 (btl v 0)) 3) = W0
  have A0 : Hid (Ar W0 w.heap.size 3 .i64 (btl v 0)) := by show _; rw [← hW]; exact Ar.new w 3 .i64 (btl v 0)
  have F0 : Hid (Fr (fun _ => False) w W0) := by show _; rw [← hW]; exact (Fr.refl _ w).alloc _
  clear hW hmk
  try simp only [Act.put, List.setIfInBounds_toArray, List.set_cons_succ, List.set_cons_zero]
  go_wp2
  go_loopw [0, 6] (fun u0 u6 wr => ∃ i : Nat, u0 = .int .i64 (v / 2 ^ i) ∧ u6 = .int .i64 i ∧ i ≤ 64 ∧ Hid (Ar wr w.heap.size 3 .i64 (btl v i)) ∧ Hid (Fr (fun _ => False) w wr))
    (fun _ u6 _ => 64 - (intOf u6).toNat)
  case atStart => exact ⟨0, by simp, rfl, by omega, A0, F0⟩
  case round =>
    obtain ⟨i, rfl, rfl, hi, hA, hF⟩ := hrel
    by_cases hil : i < 64
    · obtain ⟨x, hx⟩ : ∃ x, v / 2 ^ i = x := ⟨_, rfl⟩
      have xb := pow_bound v i HV.out.1 HV.out.2
      rw [hx] at xb
      have hand := int_and1 x
      have hset := btl_set v i hil
      rw [hx] at hset
      have A2 := Lib.hid (hA.out.set (63 - i) (x % 2))
      rw [hset] at A2
      have c1 := Ar.cell hA.out (getD_some (l := btl v i) (i := 63 - i) (by rw [btl_length v i hi]; omega))
      have f1 := Ar.frozen hA.out (63 - i)
      have v1 : IntKind.i64.wrap (63 - (i : Int)) = 63 - i := by rw [IntKind.wrap_i64]; omega
      have v2 : (63 - (i : Int)).toNat = 63 - i := by omega
      have v3 : 0 ≤ 63 - (i : Int) := by omega
      have v4 : 63 - (i : Int) < 64 := by omega
      have x0 := xb.1
      have x9 := xb.2
      have hhalf : Unit → v / 2 ^ (i + 1) = x / 2 := fun _ => by rw [← half, hx]
      have F2 : Hid (Fr (fun _ => False) w (wr.setCell ⟨w.heap.size, 63 - i, none⟩ (.int .i64 (x % 2)))) := hF.out.setCell _ (.inr (Nat.le_refl _))
      rw [hx]
      clear hA hF hset xb hx
      go_wp2
      go_roundw
      case rel => exact ⟨i + 1, by rw [hhalf ()], by go_num, by omega, A2, F2⟩
      case measure => simp [intOf]; omega
    · have i64' : i = 64 := by omega
      have A9 : Hid (Ar wr w.heap.size 3 .i64 (bitl v)) := by
        have h := hA.out
        rwa [i64', btl_all] at h
      clear hA i64'
      go_wp2
      go_ret
      exact ⟨_, rfl, A9.out, Nat.le_refl _, hF.out⟩
/-- The number of eight bits, the highest first. -/
def on8 : Int → List Int → Int
  | n, [] => n
  | n, b :: r => on8 (2 * n + b) r
end Go.Proofs.Ytkkicekhkidhjaa
