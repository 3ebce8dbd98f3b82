/- The reference's sides: two numbers of 16 digits in a block; building and reading them. Each lemma says its condition. -/
import Derived.Test.YtbkbodcncjhcmaaCShare
namespace Go.Proofs.Ytbkbodcncjhcmaa
set_option linter.unusedSimpArgs false
set_option linter.unusedVariables false
open Go.RowKit

section
variable {P : Program} {C : World → Prop} {a : Act} {o : Oper} {K : Act → Prop}
theorem quiet_build (t : TypeId) (parts : Array (Nat × Operand)) (ho : o.op = .build t parts) (ps : Array (Nat × Value)) (hp : (parts.map fun (i, x) => (i, a.eval x)) = ps) (v : Value) (h : ∀ w, (Instr.build t ps).run P w = .ok v w)
    (hk : K (a.put o.dst v)) : o.quiet P a C K :=
  quiet_run v (fun w _ => by
    unfold execOp
    simp only [ho, Sem.run_bind, hp, h, Result.andThen_ok, Sem.run_pure]) hk
end
theorem size53 : (Try.prog.info? 53).map (·.size) = some 32 := by kernel_rfl
theorem size49 : (Try.prog.info? 49).map (·.size) = some 16 := by kernel_rfl
theorem num_info {y : List Int} (h : y.length = 16) : (Try.prog.info? 49).map (·.size) = some (vs .i64 y).size := by rw [size49, vs_size, h]
theorem side_info {y : List Int} (h : y.length = 32) : (Try.prog.info? 53).map (·.size) = some (vs .i64 y).size := by rw [size53, vs_size, h]
theorem num_zero : ∀ w : World, (zeroValue 49).run Try.prog w = .ok (.agg (vs .i64 (List.replicate 16 0))) w := fun _ => by kernel_rfl
theorem side_zero : ∀ w : World, (zeroValue 53).run Try.prog w = .ok (.agg (vs .i64 (List.replicate 32 0))) w := fun _ => by kernel_rfl
theorem len16 {y : List Int} (h : y.length = 16) : ∃ a0 a1 a2 a3 a4 a5 a6 a7 a8 a9 a10 a11 a12 a13 a14 a15, y = [a0, a1, a2, a3, a4, a5, a6, a7, a8, a9, a10, a11, a12, a13, a14, a15] := by
  match y, h with
  | [a0, a1, a2, a3, a4, a5, a6, a7, a8, a9, a10, a11, a12, a13, a14, a15], _ => exact ⟨a0, a1, a2, a3, a4, a5, a6, a7, a8, a9, a10, a11, a12, a13, a14, a15, rfl⟩
theorem build_side {y z : List Int} (hy : y.length = 16) (hz : z.length = 16) (w : World) : (Instr.build 53 #[(0, .agg (vs .i64 y)), (1, .agg (vs .i64 z))]).run Try.prog w = .ok (.agg (vs .i64 (y ++ z))) w := by
  obtain ⟨a0, a1, a2, a3, a4, a5, a6, a7, a8, a9, a10, a11, a12, a13, a14, a15, rfl⟩ := len16 hy
  obtain ⟨b0, b1, b2, b3, b4, b5, b6, b7, b8, b9, b10, b11, b12, b13, b14, b15, rfl⟩ := len16 hz
  kernel_rfl
theorem build_side1 {y Z : List Int} (hy : y.length = 16) (hZ : Z = List.replicate 16 0) (w : World) : (Instr.build 53 #[(0, .agg (vs .i64 y))]).run Try.prog w = .ok (.agg (vs .i64 (y ++ Z))) w := by
  obtain ⟨a0, a1, a2, a3, a4, a5, a6, a7, a8, a9, a10, a11, a12, a13, a14, a15, rfl⟩ := len16 hy
  subst hZ
  kernel_rfl
theorem side_r0 {w : World} {q : Nat} {y z : List Int} (hy : y.length = 16) (h : w.heap[q]? = some (.cells (vs .i64 (y ++ z)) 53 (0, 0))) : w.rangeAt q 0 (vs .i64 y).toList := fun j v hj => by
  have hl : j < 16 := by
    have := (List.getElem?_eq_some_iff.1 hj).1
    simpa [vs, hy] using this
  rw [Nat.zero_add, cell_of_row w q j _ _ _ h, vs_get, List.getElem?_append_left (by omega)]
  simpa [vs] using hj
theorem side_r1 {w : World} {q : Nat} {y z : List Int} (hy : y.length = 16) (h : w.heap[q]? = some (.cells (vs .i64 (y ++ z)) 53 (0, 0))) : w.rangeAt q 16 (vs .i64 z).toList := fun j v hj => by
  rw [cell_of_row w q (16 + j) _ _ _ h, vs_get, List.getElem?_append_right (by omega), hy, Nat.add_sub_cancel_left]
  simpa [vs] using hj
section
variable {C : World → Prop} {a : Act} {o : Oper} {K : Act → Prop}
theorem quiet_num (x : Operand) (ho : o.op = .load 49 x) (q i : Nat) (hx : a.eval x = .pointer (some ⟨q, i, none⟩)) (y : List Int) (hy : y.length = 16) (hg : ∀ w, C w → w.rangeAt q i (vs .i64 y).toList)
    (hk : K (a.put o.dst (.agg (vs .i64 y)))) : o.quiet Try.prog a C K := by
  refine quiet_run _ (fun w hw => ?_) hk
  unfold execOp
  simp only [ho, hx, Instr.loadAt, Instr.sureAddr, Sem.run_bind, Sem.run_pure, Result.andThen_ok, run_loadVar_mid (P := Try.prog) w q i 49 (vs .i64 y).toList _ (hg w hw) Try.underlying49 rfl (by rw [size49]; simp [vs, hy])]
end

/-! ### The reference's sums, differences, products, of numbers that are given -/
theorem radd_ex {y z : List Int} {u v : Int} (hy : NumOf y u) (hz : NumOf z v) : ∃ r, NumOf r (Fa u v) ∧ ∀ W, Calls Try.prog 42 #[.agg (vs .i64 y), .agg (vs .i64 z)] W fun e w' => e = .returned (.agg (vs .i64 r)) ∧ Fr (fun _ => False) W w' :=
  ⟨radd y z, radd_ok hy hz, fun W => radd_is y z W ⟨hy.len, hy.digs⟩ ⟨hz.len, hz.digs⟩⟩
theorem rsub_ex {y z : List Int} {u v : Int} (hy : NumOf y u) (hz : NumOf z v) : ∃ r, NumOf r (Fs u v) ∧ ∀ W, Calls Try.prog 43 #[.agg (vs .i64 y), .agg (vs .i64 z)] W fun e w' => e = .returned (.agg (vs .i64 r)) ∧ Fr (fun _ => False) W w' :=
  ⟨rsub y z, rsub_ok hy hz, fun W => rsub_is y z W ⟨hy.len, hy.digs⟩ ⟨hz.len, hz.digs⟩⟩
theorem rmul_ex {y z : List Int} {u v : Int} (hy : NumOf y u) (hz : NumOf z v) : ∃ r, NumOf r (Fm u v) ∧ ∀ W, Calls Try.prog 34 #[.agg (vs .i64 y), .agg (vs .i64 z)] W fun e w' => e = .returned (.agg (vs .i64 r)) ∧ Fr (fun _ => False) W w' :=
  ⟨rmul y z, rmul_ok hy hz, fun W => rmul_is y z W ⟨hy.len, hy.digs⟩ ⟨hz.len, hz.digs⟩⟩
theorem rsmall_ex (n : Int) (h0 : 0 ≤ n) (h1 : n ≤ 4294967295) : ∃ r, NumOf r n ∧ ∀ W, Calls Try.prog 31 #[.int .u32 n] W fun e w' => e = .returned (.agg (vs .i64 r)) ∧ Fr (fun _ => False) W w' :=
  ⟨sml n, sml_ok n h0 h1, fun W => rsmall_is n W h0 h1⟩
theorem rinv_ex {y : List Int} {u : Int} (hy : NumOf y u) : ∃ r, NumOf r (vi u) ∧ ∀ W, Calls Try.prog 35 #[.agg (vs .i64 y)] W fun e w' => e = .returned (.agg (vs .i64 r)) ∧ Fr (fun _ => False) W w' :=
  ⟨rv y 255, by have := rv_ok hy 255 (by omega); exact this, fun W => rinv_is y u W hy⟩
end Go.Proofs.Ytbkbodcncjhcmaa
