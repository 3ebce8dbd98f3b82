/- A piece of a slice; bytes copied into a row's head: lemmas. Conditions: places within the slice. -/
import Derived.Test.YtebknlhooijkcaaNx
import Derived.Test.YtebknlhooijkcaaPo
import Derived.Test.YtebknlhooijkcaaRn
import Derived.Laws.IdiomCopy
import Derived.Lib.SlBytesConst
namespace Go.Proofs.Ytebknlhooijkcaa
set_option linter.unusedSimpArgs false
set_option linter.unusedVariables false
open Go.ChangeShapes Go.WideShapes Go.ChangeAt Go.RowKit

theorem wpList_bytesConst {ops : Array Oper} {rest : List Oper} {o : Oper} {a : Act} {w : World} {Q : Exit → Act → World → Prop} (hg : o.guard = none) (x : Operand) (ho : o.op = .convert 22 22 x) (n c : Nat) (hx : a.eval x = .slice (some ⟨w.heap.size, 0, none⟩) n c) (C : Array Value)
    (h : wpList Try.prog ops Q rest (a.put o.dst (.slice (some ⟨w.heap.size, 0, none⟩) n c)) (w.alloc (.cells C 5 (C.size, C.size + 1)))) : wpList Try.prog ops Q (o :: rest) a (w.alloc (.cells C 5)) := by
  refine wpList_plain hg fun K hK => wp_value (.slice (some ⟨w.heap.size, 0, none⟩) n c) _ ?_ (hK _ _ h)
  unfold execOp
  simp only [ho, hx, Sem.run_bind, Lib.run_convert_bytes_const w 22 5 C n c Try.underlying22 Try.underlying5, Result.andThen_ok, Sem.run_pure]

/-- Where a piece begins. -/
def cutA (A : Option Addr) (c lo : Nat) : Option Addr := if c = lo then A else A.map (·.add lo)
theorem run_slice_mid {o : Oper} {a : Act} (x y z : Operand) (ho : o.op = .slice 22 x (some y) (some z) none) (A : Option Addr) (n c lo hi : Nat) (hx : a.eval x = .slice A n c) (hy : a.eval y = .int .i64 (lo : Int)) (hz : a.eval z = .int .i64 (hi : Int)) (h1 : lo ≤ hi) (h2 : hi ≤ c) (W : World) :
    (execOp a.eval o).run Try.prog W = .ok (.value (.slice (cutA A c lo) (hi - lo) (c - lo))) W := by
  have e2 : Try.prog.elem 22 = 5 := by kernel_rfl
  have e3 : Try.prog.underlying 22 = some (.slice (Try.prog.elem 22)) := by kernel_rfl
  have h := run_slice_lh (P := Try.prog) (w := W) 22 A n c e3 .i64 .i64 (lo : Int) (hi : Int) (by omega) (by omega) (by omega)
  unfold execOp
  simp only [ho, hx, hy, hz, Option.map_some, Option.map_none, Sem.run_bind, run_sliceAt_slice (P := Try.prog) (w := W) 22 _ _ _ _ e3, h]
  cases hq : Try.prog.info? 5 with
  | none => have := size5; simp [hq] at this
  | some i =>
    have hi' : i.size = 1 := by have := size5; simpa [hq] using this
    simp [sizeOf, typeInfo, e2, sliced, hq, hi', cutA]
theorem run_slice_from {o : Oper} {a : Act} (x y : Operand) (ho : o.op = .slice 22 x (some y) none none) (A : Option Addr) (n c lo : Nat) (hx : a.eval x = .slice A n c) (hy : a.eval y = .int .i64 (lo : Int)) (h1 : lo ≤ n) (h2 : n ≤ c) (W : World) :
    (execOp a.eval o).run Try.prog W = .ok (.value (.slice (cutA A c lo) (n - lo) (c - lo))) W := by
  have e2 : Try.prog.elem 22 = 5 := by kernel_rfl
  have e3 : Try.prog.underlying 22 = some (.slice (Try.prog.elem 22)) := by kernel_rfl
  have h := run_slice_l (P := Try.prog) (w := W) 22 A n c e3 .i64 (lo : Int) (by omega) (by omega)
  unfold execOp
  simp only [ho, hx, hy, Option.map_some, Option.map_none, Sem.run_bind, run_sliceAt_slice (P := Try.prog) (w := W) 22 _ _ _ _ e3, h]
  cases hq : Try.prog.info? 5 with
  | none => have := size5; simp [hq] at this
  | some i =>
    have hi' : i.size = 1 := by have := size5; simpa [hq] using this
    simp [sizeOf, typeInfo, e2, sliced, hq, hi', cutA]
theorem run_slice_midV {o : Oper} {a : Act} (x y z : Operand) (A : Option Addr) (n c lo hi : Nat) (l h : Int) (V : Value) (hl : l = (lo : Int)) (hh : h = (hi : Int)) (hV : V = .slice (cutA A c lo) (hi - lo) (c - lo)) (h1 : lo ≤ hi) (h2 : hi ≤ c) (ho : o.op = .slice 22 x (some y) (some z) none) (hx : a.eval x = .slice A n c) (hy : a.eval y = .int .i64 l) (hz : a.eval z = .int .i64 h) (W : World) :
    (execOp a.eval o).run Try.prog W = .ok (.value V) W := by
  subst hl hh hV
  exact run_slice_mid x y z ho A n c lo hi hx hy hz h1 h2 W
theorem run_slice_fromV {o : Oper} {a : Act} (x y : Operand) (A : Option Addr) (n c lo : Nat) (l : Int) (V : Value) (hl : l = (lo : Int)) (hV : V = .slice (cutA A c lo) (n - lo) (c - lo)) (h1 : lo ≤ n) (h2 : n ≤ c) (ho : o.op = .slice 22 x (some y) none none) (hx : a.eval x = .slice A n c) (hy : a.eval y = .int .i64 l) (W : World) :
    (execOp a.eval o).run Try.prog W = .ok (.value V) W := by
  subst hl hV
  exact run_slice_from x y ho A n c lo hx hy h1 h2 W
theorem Sl.cap {w : World} {g : Nat} {A : Option Addr} {n c : Nat} {l : List Int} (h : Sl w g (.slice A n c) l) : n ≤ c := by
  have hl := h.len
  obtain ⟨_, A', c', e, hc, _, _⟩ := h
  injection e with e1 e2 e3
  omega
theorem Sl.from_ {w : World} {g : Nat} {A : Option Addr} {n c : Nat} {l : List Int} (h : Sl w g (.slice A n c) l) (lo : Nat) (hk : lo ≤ n) : Sl w g (.slice (cutA A c lo) (n - lo) (c - lo)) (l.drop lo) := by
  have hl := h.len
  have := h.drop lo (by omega)
  rwa [hl] at this
theorem Sl.mid {w : World} {g : Nat} {A : Option Addr} {n c : Nat} {l : List Int} (h : Sl w g (.slice A n c) l) (lo hi : Nat) (h1 : lo ≤ hi) (h2 : hi ≤ n) : Sl w g (.slice (cutA A c lo) (hi - lo) (c - lo)) ((l.drop lo).take (hi - lo)) := by
  have hl := h.len
  exact (h.from_ lo (by omega)).take (hi - lo) (by rw [List.length_drop]; omega)
/-- Bytes are copied into the head of a row. -/
theorem op_copy_head {o : Oper} {a : Act} (x y : Operand) (ho : o.op = .call { callee := .builtin .copy, args := #[x, y], argTypes := #[22, 22] }) (w : World) (g n dc : Nat) (hx : a.eval x = .slice (some ⟨g, 0, none⟩) n dc) (A : Option Addr) (m c gs : Nat) (X : List Int) (hy : a.eval y = .slice A m c) (hs : Sl w gs (.slice A m c) X) (hm : m ≤ n) (t : TypeId) (L : List Int) (ha : Ar w g t .u8 L) (hl : n ≤ L.length) :
    ∃ w', (execOp a.eval o).run Try.prog w = .ok (.value (.int .i64 (m : Int))) w' ∧ Ar w' g t .u8 (X ++ L.drop m) ∧ Fr (fun j => j = g) w w' := by
  have hX := hs.len
  by_cases h0 : m = 0
  · subst h0
    obtain rfl : X = [] := List.eq_nil_of_length_eq_zero hX
    refine ⟨w, ?_, ha, Fr.refl _ _⟩
    have h := run_copy_none (P := Try.prog) w 22 22 o.type 5 (some ⟨g, 0, none⟩) A n dc 0 c Try.underlying22 size5 (Nat.zero_min _)
    obtain ⟨dst, op, ty, pos, after, guard⟩ := o
    obtain rfl : op = _ := ho
    rw [BigFrame.execOp_builtin, BigFrame.builtin_copy]
    simp only [List.map_toArray, List.map_cons, List.map_nil, hx, hy, Sem.run_bind, h, Result.andThen_ok, Sem.run_pure]
    simp only [goInt]
    rfl
  · obtain ⟨q, rfl, hc⟩ := hs.at_ (by omega)
    have h := run_op_copy x y ho w g 0 n dc hx ⟨gs, q, none⟩ m c hy (vs .u8 L) t X ha (by rw [hX]; exact (Nat.min_eq_left hm).symm) (fun j b hj => by
      have hj2 : j < m := by
        have := (List.getElem?_eq_some_iff.1 hj).1
        omega
      rw [Addr_add_none, hc j hj2, List.getD_eq_getElem?_getD, hj]
      rfl) (by rw [Nat.zero_add, vs_size]; omega)
    rw [hX] at h
    refine ⟨_, h, ?_, (Fr.refl _ _).setRow _ (.inl rfl)⟩
    have e : ((vs .u8 L).toList.take 0 ++ bs X ++ (vs .u8 L).toList.drop (0 + (bs X).length)).toArray = vs .u8 (X ++ L.drop m) := by
      rw [List.take_zero, List.nil_append, Nat.zero_add, bs_length, hX]
      simp [vs, bs, List.map_drop]
    rw [e]
    exact ha.row _
theorem wpList_copy_head {ops : Array Oper} {rest : List Oper} {o : Oper} {a : Act} {w : World} {Q : Exit → Act → World → Prop} (hgd : o.guard = none) (x y : Operand) (ho : o.op = .call { callee := .builtin .copy, args := #[x, y], argTypes := #[22, 22] }) (g n dc : Nat) (hx : a.eval x = .slice (some ⟨g, 0, none⟩) n dc) (A : Option Addr) (m c gs : Nat) (X : List Int) (hy : a.eval y = .slice A m c) (hs : Sl w gs (.slice A m c) X) (hm : m ≤ n) (t : TypeId) (L : List Int) (ha : Ar w g t .u8 L) (hl : n ≤ L.length)
    (hK : ∀ w', Ar w' g t .u8 (X ++ L.drop m) → Fr (fun j => j = g) w w' → wpList Try.prog ops Q rest (a.put o.dst (.int .i64 (m : Int))) w') : wpList Try.prog ops Q (o :: rest) a w := by
  refine wpList_plain hgd fun K hk => ?_
  obtain ⟨w', h1, h2, h3⟩ := op_copy_head x y ho w g n dc hx A m c gs X hy hs hm t L ha hl
  exact wp_value _ _ h1 (hk _ _ (hK w' h2 h3))
theorem wpList_make {ops : Array Oper} {rest : List Oper} {o : Oper} {a : Act} {w : World} {Q : Exit → Act → World → Prop} (hgd : o.guard = none) (x y : Operand) (ho : o.op = .makeSlice 22 x y) (n : Nat) (hn : n ≤ 140737488355328) (hx : a.eval x = .int .i64 (n : Int)) (hy : a.eval y = .int .i64 (n : Int)) (Z : List Int) (hZ : Z = List.replicate n 0)
    (hK : wpList Try.prog ops Q rest (a.put o.dst (.slice (some ⟨w.heap.size, 0, none⟩) n n)) (w.alloc (.cells (vs .u8 Z) 5))) : wpList Try.prog ops Q (o :: rest) a w := by
  subst hZ
  exact wpList_plain hgd fun K hk => wp_value _ _ (ms_run hn ho hx hy) (hk _ _ hK)
/-- Noughts are appended. -/
theorem wpList_zeros {ops : Array Oper} {rest : List Oper} {o : Oper} {a : Act} {w : World} {Q : Exit → Act → World → Prop} (hgd : o.guard = none) (s x : Operand)
    (ho : o.op = .call { callee := .builtin .append, args := #[s, x], argTypes := #[22, 3] })
    {v : Value} {l : List Int} (h : Ow w v l) (hsv : a.eval s = v) (k : Nat) (hx : a.eval x = .int .i64 (k : Int)) (h0 : 0 < k) (hlen : l.length + k ≤ 140737488355328) (hl0 : 0 < l.length)
    (hK : ∀ A' N c' w', Ap2 w v l (List.replicate k 0) (.slice A' N c') w' → N = l.length + k → wpList Try.prog ops Q rest (a.put o.dst (.slice A' N c')) w') : wpList Try.prog ops Q (o :: rest) a w := by
  refine wpList_plain hgd fun K hk => ?_
  obtain ⟨A', N, c', w', hrun, hap, hN⟩ := run_own_zeros o.type h k h0 hlen hl0
  unfold Oper.wp execOp
  simp only [ho, resolve, invoke, builtin, Sem.run_bind, Sem.run_pure, Result.andThen_ok, List.map_toArray, List.map_cons, List.map_nil, hsv, hx, hrun]
  exact hk _ _ (hK A' N c' w' hap hN)
end Go.Proofs.Ytebknlhooijkcaa
