/- The tag of bytes, as a function; its laws. Lemmas alone. -/
import Derived.Test.YtbafppdmlhogbaaCl
import Derived.Test.YtbafppdmlhogbaaPl
import Derived.Laws.CopyRow
namespace Go.Proofs.Ytbafppdmlhogbaa
set_option linter.unusedSimpArgs false
set_option linter.unusedVariables false
open Go.RowKit

/-- The sum, block by block (n: as many steps as there may be). -/
def hb (r : Int) : Nat → Int → List Int → Int
  | 0, h, _ => h
  | n + 1, h, l => if l.isEmpty then h else hb r n ((h + vl (l.take 16 ++ [1])) * r % pp) (l.drop 16)
/-- The sum of bytes. -/
def hsh (r : Int) (l : List Int) : Int := hb r l.length 0 l
/-- A key's r. -/
def rr (k : List Int) : Int := vl (clr (k.take 16))
/-- The tag. -/
def tag (k l : List Int) : List Int := les 16 (hsh (rr k) l + vl (k.drop 16))

theorem hb_nil (r h : Int) (n : Nat) : hb r n h [] = h := by cases n <;> simp [hb]
theorem hb_fuel (r : Int) : ∀ (n m : Nat) (h : Int) (l : List Int), l.length ≤ n → l.length ≤ m → hb r n h l = hb r m h l := by
  intro n
  induction n with
  | zero =>
    intro m h l h1 _
    have : l = [] := List.eq_nil_of_length_eq_zero (by omega)
    subst this
    rw [hb_nil, hb_nil]
  | succ n ih =>
    intro m h l h1 h2
    cases m with
    | zero =>
      have : l = [] := List.eq_nil_of_length_eq_zero (by omega)
      subst this
      rw [hb_nil, hb_nil]
    | succ m =>
      simp only [hb]
      split
      · rfl
      · rename_i he
        have : l.length ≠ 0 := fun e => he (by rw [List.eq_nil_of_length_eq_zero e]; rfl)
        exact ih m _ _ (by rw [List.length_drop]; omega) (by rw [List.length_drop]; omega)
theorem hb_step (r h : Int) (l : List Int) (hl : l ≠ []) : hb r l.length h l = hb r (l.drop 16).length ((h + vl (l.take 16 ++ [1])) * r % pp) (l.drop 16) := by
  have h0 : l.length ≠ 0 := fun e => hl (List.eq_nil_of_length_eq_zero e)
  have he : ¬ l.isEmpty = true := by simpa using hl
  obtain ⟨n, hn⟩ : ∃ n, l.length = n + 1 := ⟨l.length - 1, by omega⟩
  rw [hn]
  simp only [hb, if_neg he]
  exact hb_fuel _ _ _ _ _ (by rw [List.length_drop]; omega) (Nat.le_refl _)
theorem hb_app (r : Int) : ∀ (n : Nat) (h : Int) (l m : List Int), l.length = 16 * n → hb r (l ++ m).length h (l ++ m) = hb r m.length (hb r l.length h l) m := by
  intro n
  induction n with
  | zero =>
    intro h l m hl
    have : l = [] := List.eq_nil_of_length_eq_zero (by omega)
    subst this
    rw [hb_nil, List.nil_append]
  | succ n ih =>
    intro h l m hl
    have l0 : l ≠ [] := by rintro rfl; simp at hl
    rw [hb_step r h (l ++ m) (by simp [l0]), hb_step r h l l0]
    rw [List.drop_append_of_le_length (by omega), List.take_append_of_le_length (by omega)]
    exact ih _ (l.drop 16) m (by rw [List.length_drop]; omega)
theorem hsh_nil (r : Int) : hsh r [] = 0 := rfl
/-- One block more, full or not. -/
theorem hsh_block (r : Int) (l m : List Int) (hl : l.length % 16 = 0) (hm0 : 0 < m.length) (hm : m.length ≤ 16) : hsh r (l ++ m) = (hsh r l + vl (m ++ [1])) * r % pp := by
  unfold hsh
  rw [hb_app r (l.length / 16) 0 l m (by omega), hb_step r _ m (by rintro rfl; simp at hm0)]
  have e1 : m.drop 16 = [] := List.drop_eq_nil_of_le hm
  have e2 : m.take 16 = m := List.take_of_length_le hm
  rw [e1, e2, hb_nil]
theorem hb_bd (r : Int) : ∀ (n : Nat) (h : Int) (l : List Int), 0 ≤ h → h < pp → 0 ≤ hb r n h l ∧ hb r n h l < pp := by
  intro n
  induction n with
  | zero => intro h l h0 h1; exact ⟨h0, h1⟩
  | succ n ih =>
    intro h l h0 h1
    simp only [hb]
    split
    · exact ⟨h0, h1⟩
    · exact ih _ _ (Int.emod_nonneg _ (by decide)) (Int.emod_lt_of_pos _ (by decide))
theorem hsh_bd (r : Int) (l : List Int) : 0 ≤ hsh r l ∧ hsh r l < pp := hb_bd r _ _ _ (by decide) (by decide)
theorem nv_num (v : Int) : nv (v % 17592186044416) (v / 17592186044416 % 17592186044416) (v / 309485009821345068724781056) = v := by
  unfold nv
  omega
theorem vl_zeros (n : Nat) : vl (List.replicate n 0) = 0 := by
  induction n with
  | zero => rfl
  | succ n ih => rw [List.replicate_succ, vl, ih]; rfl
theorem vl_pad (l : List Int) (n : Nat) : vl (l ++ List.replicate n 0) = vl l := by rw [vl_append, vl_zeros]; omega
theorem vl_full (l : List Int) (h : l.length = 16) : vl (l ++ [1]) = vl l + 340282366920938463463374607431768211456 := by
  rw [vl_append, h]
  simp [vl]
theorem tag_length (k l : List Int) : (tag k l).length = 16 := les_length _ _
theorem tag_bys (k l : List Int) : Bys (tag k l) := les_bys _ _
theorem rr_bd {k : List Int} (hk : k.length = 32) (hb : Bys k) : 0 ≤ rr k ∧ rr k < 21267647932558653966460912964485513216 := by
  obtain ⟨b0, b1, b2, b3, b4, b5, b6, b7, b8, b9, b10, b11, b12, b13, b14, b15, e⟩ := sixteenP (l := k.take 16) (by rw [List.length_take, hk]; rfl)
  have hB := hb.take 16
  unfold rr
  rw [e] at hB ⊢
  simp only [Bys, List.forall_mem_cons] at hB
  simp only [clr, vl]
  omega
theorem add_emod (x y r : Int) : (x % pp + y) * r % pp = (x + y) * r % pp := by
  rw [Int.mul_emod, Int.emod_add_emod, ← Int.mul_emod]
end Go.Proofs.Ytbafppdmlhogbaa

/- A poly's block: its parts read and written; copy into it. Lemmas alone. -/
namespace Go.Proofs.Ytbafppdmlhogbaa
set_option linter.unusedSimpArgs false
set_option linter.unusedVariables false
open Go.RowKit

/-- A poly's cells. -/
def pl (r0 r1 r2 h0 h1 h2 s0 s1 : Int) (W : List Int) (c : Nat) : List Value :=
  [.bool true, .int .u64 r0, .int .u64 r1, .int .u64 r2, .int .u64 h0, .int .u64 h1, .int .u64 h2, .int .u64 s0, .int .u64 s1] ++ (bs W ++ [.int .i64 c])
def Pb (w : World) (g : Nat) (r0 r1 r2 h0 h1 h2 s0 s1 : Int) (W : List Int) (c : Nat) : Prop := W.length = 16 ∧ w.heap[g]? = some (.cells (pl r0 r1 r2 h0 h1 h2 s0 s1 W c).toArray 68 (0, 0))
section
variable {w w' : World} {g : Nat} {r0 r1 r2 h0 h1 h2 s0 s1 : Int} {W : List Int} {c : Nat}
theorem pl_length (h : W.length = 16) : (pl r0 r1 r2 h0 h1 h2 s0 s1 W c).length = 26 := by simp [pl, bs_length, h]
theorem Pb.cells (h : Pb w g r0 r1 r2 h0 h1 h2 s0 s1 W c) (j : Nat) : w.cell? ⟨g, j, none⟩ = (pl r0 r1 r2 h0 h1 h2 s0 s1 W c)[j]? := by
  rw [cell_of_row w g j _ _ _ h.2]
  simp
theorem Pb.made (h : Pb w g r0 r1 r2 h0 h1 h2 s0 s1 W c) : w.cell? ⟨g, 0, none⟩ = some (.bool true) := h.cells 0
theorem Pb.count (h : Pb w g r0 r1 r2 h0 h1 h2 s0 s1 W c) : w.cell? ⟨g, 25, none⟩ = some (.int .i64 c) := by
  rw [h.cells 25]
  unfold pl
  rw [List.getElem?_append_right (by simp), List.getElem?_append_right (by simp [bs_length, h.1])]
  simp [bs_length, h.1]
theorem Pb.frozen (h : Pb w g r0 r1 r2 h0 h1 h2 s0 s1 W c) (j : Nat) : w.frozen? ⟨g, j, none⟩ = false := frozen_of_row _ _ _ _ _ h.2
theorem Pb.lt (h : Pb w g r0 r1 r2 h0 h1 h2 s0 s1 W c) : g < w.heap.size := heap_lt h.2
theorem Pb.fr {S : Nat → Prop} (h : Pb w g r0 r1 r2 h0 h1 h2 s0 s1 W c) (hf : Fr S w w') (hs : ¬ S g) : Pb w' g r0 r1 r2 h0 h1 h2 s0 s1 W c := ⟨h.1, (hf.block _ h.lt hs).trans h.2⟩
theorem Pb.alloc (h : Pb w g r0 r1 r2 h0 h1 h2 s0 s1 W c) (o : Obj) : Pb (w.alloc o) g r0 r1 r2 h0 h1 h2 s0 s1 W c := ⟨h.1, (Below.heap_alloc w o g h.lt).trans h.2⟩
theorem Pb.far (h : Pb w g r0 r1 r2 h0 h1 h2 s0 s1 W c) {a : Addr} (ha : g ≠ a.block) (v : Value) : Pb (w.setCell a v) g r0 r1 r2 h0 h1 h2 s0 s1 W c := ⟨h.1, (heap_setCell_other _ _ _ _ ha).trans h.2⟩
theorem Pb.rowFar (h : Pb w g r0 r1 r2 h0 h1 h2 s0 s1 W c) {q : Nat} (hg : g ≠ q) (cs : Array Value) : Pb (w.setRow q cs) g r0 r1 r2 h0 h1 h2 s0 s1 W c := ⟨h.1, (setRow_other _ _ _ _ hg).trans h.2⟩
theorem Pb.r (h : Pb w g r0 r1 r2 h0 h1 h2 s0 s1 W c) : w.rangeAt g 1 (vs .u64 [r0, r1, r2]).toList := fun j v hv => by
  rw [h.cells]
  match j, hv with
  | 0, hv => exact hv
  | 1, hv => exact hv
  | 2, hv => exact hv
  | j + 3, hv => simp [vs] at hv
theorem Pb.sum (h : Pb w g r0 r1 r2 h0 h1 h2 s0 s1 W c) : w.rangeAt g 4 (vs .u64 [h0, h1, h2]).toList := fun j v hv => by
  rw [h.cells]
  match j, hv with
  | 0, hv => exact hv
  | 1, hv => exact hv
  | 2, hv => exact hv
  | j + 3, hv => simp [vs] at hv
theorem Pb.s (h : Pb w g r0 r1 r2 h0 h1 h2 s0 s1 W c) : w.rangeAt g 7 (vs .u64 [s0, s1]).toList := fun j v hv => by
  rw [h.cells]
  match j, hv with
  | 0, hv => exact hv
  | 1, hv => exact hv
  | j + 2, hv => simp [vs] at hv
theorem Pb.wait (h : Pb w g r0 r1 r2 h0 h1 h2 s0 s1 W c) : w.rangeAt g 9 (vs .u8 W).toList := fun j v hv => by
  have hj : j < W.length := by
    have := (List.getElem?_eq_some_iff.1 hv).1
    simpa [vs] using this
  rw [h.cells]
  unfold pl
  rw [List.getElem?_append_right (by simp), List.getElem?_append_left (by simp [bs_length]; omega)]
  simp only [List.length_cons, List.length_nil, Nat.add_sub_cancel_left]
  simpa [vs, bs] using hv
theorem Pb.waitCell (h : Pb w g r0 r1 r2 h0 h1 h2 s0 s1 W c) {j : Nat} {b : Int} (hj : W[j]? = some b) : w.cell? ⟨g, 9 + j, none⟩ = some (.int .u8 b) := h.wait j _ (by simp [vs, hj])
theorem Pb.there (h : Pb w g r0 r1 r2 h0 h1 h2 s0 s1 W c) (o n : Nat) (ho : o + n ≤ 26) : w.there g o n := fun j hj => by
  refine ⟨?_, h.frozen _⟩
  rw [h.cells, List.getElem?_eq_getElem (by rw [pl_length h.1]; omega)]
  rfl
theorem Pb.setCount (h : Pb w g r0 r1 r2 h0 h1 h2 s0 s1 W c) (d : Nat) : Pb (w.setCell ⟨g, 25, none⟩ (.int .i64 d)) g r0 r1 r2 h0 h1 h2 s0 s1 W d := by
  refine ⟨h.1, ?_⟩
  rw [heap_setCell_same w g 25 _ _ _ h.2]
  congr 2
  apply Array.toList_inj.1
  have e : 25 - (bs W).length - 9 = 0 := by rw [bs_length, h.1]
  unfold pl
  rw [Array.toList_setIfInBounds, List.toList_toArray, List.set_append_right _ _ (by simp), List.set_append_right _ _ (by simp [bs_length, h.1])]
  simp [bs_length, h.1]
theorem Pb.setSum (h : Pb w g r0 r1 r2 h0 h1 h2 s0 s1 W c) (x y z : Int) : Pb (w.setCells g 4 (vs .u64 [x, y, z]).toList) g r0 r1 r2 x y z s0 s1 W c := by
  refine ⟨h.1, ?_⟩
  show ((((w.setCell ⟨g, 4, none⟩ (.int .u64 x)).setCell ⟨g, 5, none⟩ (.int .u64 y)).setCell ⟨g, 6, none⟩ (.int .u64 z))).heap[g]? = _
  have e1 := heap_setCell_same w g 4 _ _ (.int .u64 x) h.2
  have e2 := heap_setCell_same _ g 5 _ _ (.int .u64 y) e1
  have e3 := heap_setCell_same _ g 6 _ _ (.int .u64 z) e2
  rw [e3]
  simp [pl]
theorem Pb.setWait (h : Pb w g r0 r1 r2 h0 h1 h2 s0 s1 W c) (o : Nat) (X : List Int) (ho : o + X.length ≤ 16) :
    Pb (w.setRow g ((pl r0 r1 r2 h0 h1 h2 s0 s1 W c).toArray.toList.take (9 + o) ++ bs X ++ (pl r0 r1 r2 h0 h1 h2 s0 s1 W c).toArray.toList.drop (9 + o + (bs X).length)).toArray) g r0 r1 r2 h0 h1 h2 s0 s1 (W.take o ++ X ++ W.drop (o + X.length)) c := by
  refine ⟨by simp [h.1]; omega, ?_⟩
  rw [setRow_heap w g _ _ _ _ h.2]
  congr 2
  congr 1
  have hw := h.1
  unfold pl
  simp only [List.toList_toArray, bs_length]
  rw [List.take_append, List.drop_append]
  simp only [List.length_cons, List.length_nil, Nat.zero_add]
  rw [List.take_of_length_le (by simp), List.drop_eq_nil_of_le (by simp; omega)]
  rw [show 9 + o - (0 + 1 + 1 + 1 + 1 + 1 + 1 + 1 + 1 + 1) = o by omega, show 9 + o + X.length - (0 + 1 + 1 + 1 + 1 + 1 + 1 + 1 + 1 + 1) = o + X.length by omega]
  rw [List.take_append_of_le_length (by rw [bs_length]; omega), List.drop_append_of_le_length (by rw [bs_length]; omega)]
  simp [bs, List.map_take, List.map_drop]
end

/-- Bytes are copied into a row of cells. -/
theorem run_op_copy {o : Oper} {a : Act} (x y : Operand) (ho : o.op = .call { callee := .builtin .copy, args := #[x, y], argTypes := #[29, 29] }) (w : World) (g off dl dc : Nat) (hx : a.eval x = .slice (some ⟨g, off, none⟩) dl dc) (A : Addr) (sl sc : Nat) (hy : a.eval y = .slice (some A) sl sc)
    (cur : Array Value) (t : TypeId) (X : List Int) (hg : w.heap[g]? = some (.cells cur t (0, 0))) (hn : X.length = Nat.min sl dl) (hs : ∀ j b, X[j]? = some b → w.cell? (A.add j) = some (.int .u8 b)) (hf : off + X.length ≤ cur.size) :
    (execOp a.eval o).run Try.prog w = .ok (.value (.int .i64 X.length)) (w.setRow g (cur.toList.take off ++ bs X ++ cur.toList.drop (off + (bs X).length)).toArray) := by
  have h := run_copy_row Try.prog w 29 29 o.type 5 g off dl dc A sl sc cur t (bs X) Try.underlying29 size5 hg (by rw [bs_length]; exact hn) (fun j v hv => by
    rw [bs_get] at hv
    cases hX : X[j]? with
    | none => rw [hX] at hv; cases hv
    | some b => rw [hX] at hv; injection hv with hv; subst hv; exact hs j b hX) (by rw [bs_length]; exact hf) (bs_one X)
  rw [bs_length] at h ⊢
  obtain ⟨dst, op, ty, pos, after, guard⟩ := o
  obtain rfl : op = _ := ho
  rw [BigFrame.execOp_builtin, BigFrame.builtin_copy]
  simp only [List.map_toArray, List.map_cons, List.map_nil, hx, hy, Sem.run_bind, h, Result.andThen_ok, Sem.run_pure]
  simp only [goInt]
end Go.Proofs.Ytbafppdmlhogbaa
