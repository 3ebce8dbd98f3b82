/- What the laws of layer 8 have in common: copies, comparisons, guarded operations; their works. Lemmas alone. -/
import Derived.Test.YtebknlhooijkcaaYi
import Derived.Test.YtebknlhooijkcaaPo
import Derived.Great.BuildSlice
import Derived.Lib.SlBytesConst
namespace Go.Proofs.Ytebknlhooijkcaa
set_option linter.unusedSimpArgs false
set_option linter.unusedVariables false
open Go.ChangeShapes Go.WideShapes Go.ChangeAt Go.RowKit

section
variable {a : Act} {o : Oper} {C : World → Prop} {K : Act → Prop}
/-- A slice is loaded from its cell. -/
theorem quiet_sl (x : Operand) (ho : o.op = .load 22 x) (q i : Nat) (hx : a.eval x = .pointer (some ⟨q, i, none⟩)) (A : Option Addr) (m c : Nat) (hg : ∀ w, C w → w.cell? ⟨q, i, none⟩ = some (.slice A m c))
    (hk : K (a.put o.dst (.slice A m c))) : o.quiet Try.prog a C K := by
  refine quiet_run _ (fun w hw => ?_) hk
  have hc := hg w hw
  unfold execOp
  simp [ho, hx, Instr.loadAt, Instr.sureAddr, loadVar, isAgg, run_underlying Try.underlying22, hc, Sem.run_bind, Sem.run_pure, Result.andThen_ok]
end
/-- A guarded operation whose guard says yes. -/
theorem wpList_wanted {P : Program} {ops : Array Oper} {rest : List Oper} {o : Oper} {a : Act} {w : World} {Q : Exit → Act → World → Prop} (hw : Region.wanted o (yielded ops a.tmps) = true)
    (h : ∀ K : Act → World → Prop, (∀ a w, wpList P ops Q rest a w → K a w) → o.wp P a w K Q) : wpList P ops Q (o :: rest) a w := by
  unfold wpList
  rw [if_pos hw]
  exact .inl (h _ (fun _ _ x => x))
theorem wpList_load_row_w {P : Program} {ops : Array Oper} {rest : List Oper} {o : Oper} {a : Act} {w : World} {Q : Exit → Act → World → Prop} (hw : Region.wanted o (yielded ops a.tmps) = true) (ty : TypeId) (x : Operand) (ho : o.op = .load ty x)
    (g : Nat) (hx : a.eval x = .pointer (some ⟨g, 0, none⟩)) (t : TypeId) (cs : Array Value) (fr : Nat × Nat) (d : TypeDesc) (hg : w.heap[g]? = some (.cells cs t fr))
    (hu : P.underlying ty = some d) (hd : (match d with | .struct _ | .array _ _ => true | _ => false) = true) (hi : (P.info? ty).map (·.size) = some cs.size)
    (h : wpList P ops Q rest (a.put o.dst (.agg cs)) w) : wpList P ops Q (o :: rest) a w :=
  wpList_wanted hw fun _ hK => wp_load_row ty x ho g hx t cs fr d hg hu hd hi (hK _ _ h)
theorem copy_new (W0 : World) {g : Nat} {A : Option Addr} {n c : Nat} {l : List Int} (V : World) (hs : Sl V g (.slice A n c) l) (hn : n ≤ 140737488355328) (hf : Fr (fun _ => False) W0 V) :
    Calls Try.prog 11 #[.slice A n c] V fun e w' => ∃ v, e = .returned v ∧ Nw W0 w' v l ∧ Fr (fun _ => False) V w' :=
  (copyBytes_any g A n c l V hs hn).mono fun e w' ⟨A', c', he, ho, hb, hf2⟩ => ⟨_, he, Nw.of ⟨ho, hb⟩ hf, hf2⟩
theorem eq_yes {g1 g2 : Nat} {A B : Option Addr} {n m c d : Nat} {l k : List Int} (w : World) (h1 : Sl w g1 (.slice A n c) l) (h2 : Sl w g2 (.slice B m d) k) (h : l = k) :
    Calls Try.prog 14 #[.slice A n c, .slice B m d] w fun e w' => e = .returned (.bool true) ∧ Fr (fun _ => False) w w' :=
  (eqBytes_any g1 g2 A B n m c d l k w h1 h2).mono fun e w' ⟨he, q, hq⟩ => ⟨by rw [he, decide_eq_true h], by rw [hq]; exact Fr.drewN (Fr.refl _ _) q⟩
theorem eq_no {g1 g2 : Nat} {A B : Option Addr} {n m c d : Nat} {l k : List Int} (w : World) (h1 : Sl w g1 (.slice A n c) l) (h2 : Sl w g2 (.slice B m d) k) (h : l ≠ k) :
    Calls Try.prog 14 #[.slice A n c, .slice B m d] w fun e w' => e = .returned (.bool false) ∧ Fr (fun _ => False) w w' :=
  (eqBytes_any g1 g2 A B n m c d l k w h1 h2).mono fun e w' ⟨he, q, hq⟩ => ⟨by rw [he, decide_eq_false h], by rw [hq]; exact Fr.drewN (Fr.refl _ _) q⟩
theorem eq32 (l m : List Int) (hl : l.length = 32) (hm : m.length = 32) (W : World) : (Op.equalIn 10000 24 (.agg (vs .u8 l)) (.agg (vs .u8 m))).run Try.prog W = .ok (decide (l = m)) W :=
  run_equalIn_ints (P := Try.prog) 9998 Try.underlying24 (i := (Try.prog.info? 5).get (by kernel_rfl)) (by kernel_rfl) Try.underlying5 (by kernel_rfl) (by kernel_rfl) l m hl hm W
theorem eqKY (l m : List Int) (hl : l.length = 32) (hm : m.length = 32) (W : World) : (Op.equalIn 10000 32 (.agg (vs .u8 l)) (.agg (vs .u8 m))).run Try.prog W = .ok (decide (l = m)) W :=
  run_equalIn_ints (P := Try.prog) 9998 Try.underlying32 (i := (Try.prog.info? 5).get (by kernel_rfl)) (by kernel_rfl) Try.underlying5 (by kernel_rfl) (by kernel_rfl) l m hl hm W
/-- The inner and the outer block of works. -/
def winn : List Int := 49 :: (List.replicate 63 54 ++ [9])
def wout : List Int := 91 :: List.replicate 63 92
theorem winn_is : winn = xb 54 (kb [7]) ++ [9] := by decide +kernel
theorem wout_is : wout = xb 92 (kb [7]) := by decide +kernel
set_option maxRecDepth 100000 in
theorem wtag_ne : hm [7] [9] ≠ List.replicate 32 0 := by decide +kernel
end Go.Proofs.Ytebknlhooijkcaa
