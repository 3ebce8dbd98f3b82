/- A poly's block: its parts read and written; copy into it. Lemmas alone. -/
import Derived.Test.YtcoggpedpclkaaaSp
import Derived.Laws.CopyRow
namespace Go.Proofs.Ytcoggpedpclkaaa
set_option linter.unusedSimpArgs false
set_option linter.unusedVariables false
open Go.RowKit

/-- A poly's cells. -/
def pl (r0 r1 r2 h0 h1 h2 s0 s1 : Int) (W : List Int) (c : Nat) : List Value :=
  [.bool true, .int .u64 r0, .int .u64 r1, .int .u64 r2, .int .u64 h0, .int .u64 h1, .int .u64 h2, .int .u64 s0, .int .u64 s1] ++ (bs W ++ [.int .i64 c])
def Pb (w : World) (g : Nat) (r0 r1 r2 h0 h1 h2 s0 s1 : Int) (W : List Int) (c : Nat) : Prop := W.length = 16 ∧ w.heap[g]? = some (.cells (pl r0 r1 r2 h0 h1 h2 s0 s1 W c).toArray 49 (0, 0))
section
variable {w w' : World} {g : Nat} {r0 r1 r2 h0 h1 h2 s0 s1 : Int} {W : List Int} {c : Nat}
theorem pl_length (h : W.length = 16) : (pl r0 r1 r2 h0 h1 h2 s0 s1 W c).length = 26 := by simp [pl, bs_length, h]
theorem Pb.cells (h : Pb w g r0 r1 r2 h0 h1 h2 s0 s1 W c) (j : Nat) : w.cell? ⟨g, j, none⟩ = (pl r0 r1 r2 h0 h1 h2 s0 s1 W c)[j]? := by
  rw [cell_of_row w g j _ _ _ h.2]
  simp
theorem Pb.made (h : Pb w g r0 r1 r2 h0 h1 h2 s0 s1 W c) : w.cell? ⟨g, 0, none⟩ = some (.bool true) := h.cells 0
theorem Pb.count (h : Pb w g r0 r1 r2 h0 h1 h2 s0 s1 W c) : w.cell? ⟨g, 25, none⟩ = some (.int .i64 c) := by
  rw [h.cells 25]
  unfold pl
  rw [List.getElem?_append_right (by simp), List.getElem?_append_right (by simp [bs_length, h.1])]
  simp [bs_length, h.1]
theorem Pb.frozen (h : Pb w g r0 r1 r2 h0 h1 h2 s0 s1 W c) (j : Nat) : w.frozen? ⟨g, j, none⟩ = false := frozen_of_row _ _ _ _ _ h.2
theorem Pb.lt (h : Pb w g r0 r1 r2 h0 h1 h2 s0 s1 W c) : g < w.heap.size := heap_lt h.2
theorem Pb.fr {S : Nat → Prop} (h : Pb w g r0 r1 r2 h0 h1 h2 s0 s1 W c) (hf : Fr S w w') (hs : ¬ S g) : Pb w' g r0 r1 r2 h0 h1 h2 s0 s1 W c := ⟨h.1, (hf.block _ h.lt hs).trans h.2⟩
theorem Pb.alloc (h : Pb w g r0 r1 r2 h0 h1 h2 s0 s1 W c) (o : Obj) : Pb (w.alloc o) g r0 r1 r2 h0 h1 h2 s0 s1 W c := ⟨h.1, (Below.heap_alloc w o g h.lt).trans h.2⟩
theorem Pb.far (h : Pb w g r0 r1 r2 h0 h1 h2 s0 s1 W c) {a : Addr} (ha : g ≠ a.block) (v : Value) : Pb (w.setCell a v) g r0 r1 r2 h0 h1 h2 s0 s1 W c := ⟨h.1, (heap_setCell_other _ _ _ _ ha).trans h.2⟩
theorem Pb.rowFar (h : Pb w g r0 r1 r2 h0 h1 h2 s0 s1 W c) {q : Nat} (hg : g ≠ q) (cs : Array Value) : Pb (w.setRow q cs) g r0 r1 r2 h0 h1 h2 s0 s1 W c := ⟨h.1, (setRow_other _ _ _ _ hg).trans h.2⟩
theorem Pb.r (h : Pb w g r0 r1 r2 h0 h1 h2 s0 s1 W c) : w.rangeAt g 1 (vs .u64 [r0, r1, r2]).toList := fun j v hv => by
  rw [h.cells]
  match j, hv with
  | 0, hv => exact hv
  | 1, hv => exact hv
  | 2, hv => exact hv
  | j + 3, hv => simp [vs] at hv
theorem Pb.sum (h : Pb w g r0 r1 r2 h0 h1 h2 s0 s1 W c) : w.rangeAt g 4 (vs .u64 [h0, h1, h2]).toList := fun j v hv => by
  rw [h.cells]
  match j, hv with
  | 0, hv => exact hv
  | 1, hv => exact hv
  | 2, hv => exact hv
  | j + 3, hv => simp [vs] at hv
theorem Pb.s (h : Pb w g r0 r1 r2 h0 h1 h2 s0 s1 W c) : w.rangeAt g 7 (vs .u64 [s0, s1]).toList := fun j v hv => by
  rw [h.cells]
  match j, hv with
  | 0, hv => exact hv
  | 1, hv => exact hv
  | j + 2, hv => simp [vs] at hv
theorem Pb.wait (h : Pb w g r0 r1 r2 h0 h1 h2 s0 s1 W c) : w.rangeAt g 9 (vs .u8 W).toList := fun j v hv => by
  have hj : j < W.length := by
    have := (List.getElem?_eq_some_iff.1 hv).1
    simpa [vs] using this
  rw [h.cells]
  unfold pl
  rw [List.getElem?_append_right (by simp), List.getElem?_append_left (by simp [bs_length]; omega)]
  simp only [List.length_cons, List.length_nil, Nat.add_sub_cancel_left]
  simpa [vs, bs] using hv
theorem Pb.waitCell (h : Pb w g r0 r1 r2 h0 h1 h2 s0 s1 W c) {j : Nat} {b : Int} (hj : W[j]? = some b) : w.cell? ⟨g, 9 + j, none⟩ = some (.int .u8 b) := h.wait j _ (by simp [vs, hj])
theorem Pb.there (h : Pb w g r0 r1 r2 h0 h1 h2 s0 s1 W c) (o n : Nat) (ho : o + n ≤ 26) : w.there g o n := fun j hj => by
  refine ⟨?_, h.frozen _⟩
  rw [h.cells, List.getElem?_eq_getElem (by rw [pl_length h.1]; omega)]
  rfl
theorem Pb.setCount (h : Pb w g r0 r1 r2 h0 h1 h2 s0 s1 W c) (d : Nat) : Pb (w.setCell ⟨g, 25, none⟩ (.int .i64 d)) g r0 r1 r2 h0 h1 h2 s0 s1 W d := by
  refine ⟨h.1, ?_⟩
  rw [heap_setCell_same w g 25 _ _ _ h.2]
  congr 2
  apply Array.toList_inj.1
  have e : 25 - (bs W).length - 9 = 0 := by rw [bs_length, h.1]
  unfold pl
  rw [Array.toList_setIfInBounds, List.toList_toArray, List.set_append_right _ _ (by simp), List.set_append_right _ _ (by simp [bs_length, h.1])]
  simp [bs_length, h.1]
theorem Pb.setSum (h : Pb w g r0 r1 r2 h0 h1 h2 s0 s1 W c) (x y z : Int) : Pb (w.setCells g 4 (vs .u64 [x, y, z]).toList) g r0 r1 r2 x y z s0 s1 W c := by
  refine ⟨h.1, ?_⟩
  show ((((w.setCell ⟨g, 4, none⟩ (.int .u64 x)).setCell ⟨g, 5, none⟩ (.int .u64 y)).setCell ⟨g, 6, none⟩ (.int .u64 z))).heap[g]? = _
  have e1 := heap_setCell_same w g 4 _ _ (.int .u64 x) h.2
  have e2 := heap_setCell_same _ g 5 _ _ (.int .u64 y) e1
  have e3 := heap_setCell_same _ g 6 _ _ (.int .u64 z) e2
  rw [e3]
  simp [pl]
theorem Pb.setWait (h : Pb w g r0 r1 r2 h0 h1 h2 s0 s1 W c) (o : Nat) (X : List Int) (ho : o + X.length ≤ 16) :
    Pb (w.setRow g ((pl r0 r1 r2 h0 h1 h2 s0 s1 W c).toArray.toList.take (9 + o) ++ bs X ++ (pl r0 r1 r2 h0 h1 h2 s0 s1 W c).toArray.toList.drop (9 + o + (bs X).length)).toArray) g r0 r1 r2 h0 h1 h2 s0 s1 (W.take o ++ X ++ W.drop (o + X.length)) c := by
  refine ⟨by simp [h.1]; omega, ?_⟩
  rw [setRow_heap w g _ _ _ _ h.2]
  congr 2
  congr 1
  have hw := h.1
  unfold pl
  simp only [List.toList_toArray, bs_length]
  rw [List.take_append, List.drop_append]
  simp only [List.length_cons, List.length_nil, Nat.zero_add]
  rw [List.take_of_length_le (by simp), List.drop_eq_nil_of_le (by simp; omega)]
  rw [show 9 + o - (0 + 1 + 1 + 1 + 1 + 1 + 1 + 1 + 1 + 1) = o by omega, show 9 + o + X.length - (0 + 1 + 1 + 1 + 1 + 1 + 1 + 1 + 1 + 1) = o + X.length by omega]
  rw [List.take_append_of_le_length (by rw [bs_length]; omega), List.drop_append_of_le_length (by rw [bs_length]; omega)]
  simp [bs, List.map_take, List.map_drop]
end

/-- Bytes are copied into a row of cells. -/
theorem run_op_copy {o : Oper} {a : Act} (x y : Operand) (ho : o.op = .call { callee := .builtin .copy, args := #[x, y], argTypes := #[24, 24] }) (w : World) (g off dl dc : Nat) (hx : a.eval x = .slice (some ⟨g, off, none⟩) dl dc) (A : Addr) (sl sc : Nat) (hy : a.eval y = .slice (some A) sl sc)
    (cur : Array Value) (t : TypeId) (X : List Int) (hg : w.heap[g]? = some (.cells cur t (0, 0))) (hn : X.length = Nat.min sl dl) (hs : ∀ j b, X[j]? = some b → w.cell? (A.add j) = some (.int .u8 b)) (hf : off + X.length ≤ cur.size) :
    (execOp a.eval o).run Try.prog w = .ok (.value (.int .i64 X.length)) (w.setRow g (cur.toList.take off ++ bs X ++ cur.toList.drop (off + (bs X).length)).toArray) := by
  have h := run_copy_row Try.prog w 24 24 o.type 5 g off dl dc A sl sc cur t (bs X) Try.underlying24 size5 hg (by rw [bs_length]; exact hn) (fun j v hv => by
    rw [bs_get] at hv
    cases hX : X[j]? with
    | none => rw [hX] at hv; cases hv
    | some b => rw [hX] at hv; injection hv with hv; subst hv; exact hs j b hX) (by rw [bs_length]; exact hf) (bs_one X)
  rw [bs_length] at h ⊢
  obtain ⟨dst, op, ty, pos, after, guard⟩ := o
  obtain rfl : op = _ := ho
  rw [BigFrame.execOp_builtin, BigFrame.builtin_copy]
  simp only [List.map_toArray, List.map_cons, List.map_nil, hx, hy, Sem.run_bind, h, Result.andThen_ok, Sem.run_pure]
  simp only [goInt]
end Go.Proofs.Ytcoggpedpclkaaa
