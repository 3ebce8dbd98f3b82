/- Regions that draw their order and whose callees make memory, but whose every operation has one value: walked once, in the order of the text, over the class of worlds in which all that was there stays. Laws of the model's operations; no condition. -/
import Derived.Test.YtbkbodcncjhcmaaRefC
namespace Go.Proofs.Ytbkbodcncjhcmaa
open Go.RowKit

section
variable {P : Program} {C : World → Prop} {a : Act} {o : Oper} {K : Act → Prop}
/-- A whole array or struct is loaded. -/
theorem quiet_load (ty : TypeId) (x : Operand) (ho : o.op = .load ty x) (g : Nat) (hx : a.eval x = .pointer (some ⟨g, 0, none⟩)) (t : TypeId) (cs : Array Value) (fr : Nat × Nat) (d : TypeDesc)
    (hg : ∀ w, C w → w.heap[g]? = some (.cells cs t fr)) (hu : P.underlying ty = some d) (hd : (match d with | .struct _ | .array _ _ => true | _ => false) = true) (hi : (P.info? ty).map (·.size) = some cs.size)
    (hk : K (a.put o.dst (.agg cs))) : o.quiet P a C K :=
  ⟨.agg cs, fun w hw => by
    unfold Oper.quietAt execOp
    simp only [ho, hx, Instr.loadAt, Instr.sureAddr, Sem.run_bind, Sem.run_pure, Result.andThen_ok, run_loadVar_row w g t ty cs fr d (hg w hw) hu hd hi]
    exact ⟨rfl, rfl⟩, hk⟩
/-- An operation that yields the same whatever the world. -/
theorem quiet_run (v : Value) (h : ∀ w, C w → (execOp a.eval o).run P w = .ok (.value v) w) (hk : K (a.put o.dst v)) : o.quiet P a C K :=
  ⟨v, fun w hw => by
    unfold Oper.quietAt
    rw [h w hw]
    exact ⟨rfl, rfl⟩, hk⟩
/-- A call of a function with a body. -/
theorem quiet_call (f : FuncId) (vals : Array Value) (v : Value) (h : ∀ w, (execOp a.eval o).run P w = .ok (.enter f vals) w) (hc : ∀ w, C w → Calls P f vals w fun e w' => e = .returned v ∧ C w') (hk : K (a.put o.dst v)) : o.quiet P a C K :=
  ⟨v, fun w hw => by
    unfold Oper.quietAt
    rw [h w]
    exact ⟨rfl, hc w hw⟩, hk⟩
end
/-- The class: all that was there stays. -/
def Calm (w0 : World) (w : World) : Prop := Fr (fun _ => False) w0 w
theorem Calm.start (w0 w : World) (h : Fr (fun _ => False) w0 w) : Calm w0 { w with drawn := w.drawn + 1 } := ⟨h.os, h.tape, h.output, h.size, h.block⟩
theorem Calm.calls {P : Program} {f : FuncId} {vals : Array Value} {v : Value} {w0 : World} (hc : ∀ w, Calls P f vals w fun e w' => e = .returned v ∧ Fr (fun _ => False) w w') (w : World) (h : Calm w0 w) : Calls P f vals w fun e w' => e = .returned v ∧ Calm w0 w' :=
  (hc w).mono fun _ _ ⟨he, hf⟩ => ⟨he, Fr.trans h hf⟩
theorem Calm.ar {w0 w : World} {g : Nat} {t : TypeId} {k : IntKind} {l : List Int} (h : Ar w0 g t k l) (hw : Calm w0 w) : w.heap[g]? = some (.cells (vs k l) t (0, 0)) := h.fr hw (fun x => x)
theorem Calm.at {w0 w : World} {g : Nat} {o : Obj} (h : w0.heap[g]? = some o) (hw : Calm w0 w) : w.heap[g]? = some o := (hw.block _ (heap_lt h) (fun x => x)).trans h

theorem info5 : ∃ i, Try.prog.info? 5 = some i := by
  obtain ⟨i, h, _⟩ := info_parts (show (Try.prog.info? 5).map (fun i => (i.zero, i.size, i.bytes)) = some (some (.int .u8 0), 1, 1) by kernel_rfl)
  exact ⟨i, h⟩
theorem eq22 (l m : List Int) (hl : l.length = 32) (hm : m.length = 32) (w : World) : (Op.equalIn 10000 22 (.agg (vs .u8 l)) (.agg (vs .u8 m))).run Try.prog w = .ok (decide (l = m)) w := by
  obtain ⟨i, hi⟩ := info5
  exact run_equalIn_ints (P := Try.prog) (k := .u8) (k' := .u8) (n := 32) (e := 5) 9998 Try.underlying22 hi Try.underlying5 (by kernel_rfl) (by kernel_rfl) l m hl hm w

theorem calm2 {w : World} {A B : Obj} {W0 : World} (h : (w.alloc A).alloc B = W0) : W0.heap[w.heap.size]? = some A ∧ W0.heap[w.heap.size + 1]? = some B ∧ Fr (fun _ => False) w W0 := by
  subst h
  have s1 : (w.alloc A).heap.size = w.heap.size + 1 := by simp
  have e1 := heap_alloc_new (w.alloc A) B
  rw [s1] at e1
  exact ⟨(Below.heap_alloc _ B _ (by rw [s1]; omega)).trans (heap_alloc_new w A), e1, ((Fr.refl _ _).alloc _).alloc _⟩

end Go.Proofs.Ytbkbodcncjhcmaa
