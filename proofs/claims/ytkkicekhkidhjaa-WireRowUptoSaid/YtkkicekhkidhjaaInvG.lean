/- Regions that draw their order, guards among them, by an invariant over what has been done. Laws of the model's regions; condition: each operation waits for earlier ones alone, and each is wanted. -/
import Derived.Test.YtkkicekhkidhjaaBase
import Derived.BigQuiet
import Derived.Deep.QuietTactic
import Derived.Deep.RegionWith
import Derived.Shelf.Abstract
namespace Go.Proofs.Ytkkicekhkidhjaa
set_option linter.unusedSimpArgs false
set_option linter.unusedVariables false
open Go.RowKit

section
variable {P : Program} {C : World → Prop} {a : Act} {o : Oper} {K : Act → Prop}
/-- A whole array or struct is loaded. -/
theorem quiet_load (ty : TypeId) (x : Operand) (ho : o.op = .load ty x) (g : Nat) (hx : a.eval x = .pointer (some ⟨g, 0, none⟩)) (t : TypeId) (cs : Array Value) (fr : Nat × Nat) (d : TypeDesc)
    (hg : ∀ w, C w → w.heap[g]? = some (.cells cs t fr)) (hu : P.underlying ty = some d) (hd : (match d with | .struct _ | .array _ _ => true | _ => false) = true) (hi : (P.info? ty).map (·.size) = some cs.size)
    (hk : K (a.put o.dst (.agg cs))) : o.quiet P a C K :=
  ⟨.agg cs, fun w hw => by
    unfold Oper.quietAt execOp
    simp only [ho, hx, Instr.loadAt, Instr.sureAddr, Sem.run_bind, Sem.run_pure, Result.andThen_ok, run_loadVar_row w g t ty cs fr d (hg w hw) hu hd hi]
    exact ⟨rfl, rfl⟩, hk⟩
/-- An operation that yields the same whatever the world. -/
theorem quiet_run (v : Value) (h : ∀ w, C w → (execOp a.eval o).run P w = .ok (.value v) w) (hk : K (a.put o.dst v)) : o.quiet P a C K :=
  ⟨v, fun w hw => by
    unfold Oper.quietAt
    rw [h w hw]
    exact ⟨rfl, rfl⟩, hk⟩
/-- A call of a function with a body. -/
theorem quiet_call (f : FuncId) (vals : Array Value) (v : Value) (h : ∀ w, (execOp a.eval o).run P w = .ok (.enter f vals) w) (hc : ∀ w, C w → Calls P f vals w fun e w' => e = .returned v ∧ C w') (hk : K (a.put o.dst v)) : o.quiet P a C K :=
  ⟨v, fun w hw => by
    unfold Oper.quietAt
    rw [h w]
    exact ⟨rfl, hc w hw⟩, hk⟩
end
/-- The class: all that was there stays. -/
def Calm (w0 : World) (w : World) : Prop := Fr (fun _ => False) w0 w
theorem Calm.start (w0 w : World) (h : Fr (fun _ => False) w0 w) : Calm w0 { w with drawn := w.drawn + 1 } := ⟨h.os, h.tape, h.output, h.size, h.block⟩
theorem Calm.calls {P : Program} {f : FuncId} {vals : Array Value} {v : Value} {w0 : World} (hc : ∀ w, Calls P f vals w fun e w' => e = .returned v ∧ Fr (fun _ => False) w w') (w : World) (h : Calm w0 w) : Calls P f vals w fun e w' => e = .returned v ∧ Calm w0 w' :=
  (hc w).mono fun _ _ ⟨he, hf⟩ => ⟨he, Fr.trans h hf⟩
theorem Calm.at {w0 w : World} {g : Nat} {o : Obj} (h : w0.heap[g]? = some o) (hw : Calm w0 w) : w.heap[g]? = some o := (hw.block _ (heap_lt h) (fun x => x)).trans h


/-- What an operation waits for stands ahead of it. -/
def aheadG (ops : Array Oper) : Bool := (List.range ops.size).all fun i => match ops[i]? with
  | none => true
  | some o => o.after.all fun e => !Region.binds .any e || decide (e.on < i)
def upd (b : Nat → Bool) (i : Nat) : Nat → Bool := fun j => decide (j = i) || b j
def unl (n : Nat) (listed : Array Bool) : Nat := ((List.range n).filter fun j => !listed.getD j false).length

theorem unl_set {n i : Nat} {listed : Array Bool} (hs : listed.size = n) (hi : i < n) (hl : listed.getD i false = false) : unl n (listed.setIfInBounds i true) < unl n listed := by
  unfold unl
  have hsub : ∀ l : List Nat, (l.filter fun j => !(listed.setIfInBounds i true).getD j false).length ≤ (l.filter fun j => !listed.getD j false).length ∧ (i ∈ l → (l.filter fun j => !(listed.setIfInBounds i true).getD j false).length < (l.filter fun j => !listed.getD j false).length) := by
    intro l
    induction l with
    | nil => simp
    | cons x r ih =>
      have hx : (listed.setIfInBounds i true).getD x false = if x = i then true else listed.getD x false := by
        by_cases hxi : x = i
        · subst hxi
          rw [if_pos rfl]
          simp [Array.getD_eq_getD_getElem?, Array.getElem?_setIfInBounds, hs, hi]
        · rw [if_neg hxi]
          have : i ≠ x := fun e => hxi e.symm
          simp [Array.getD_eq_getD_getElem?, Array.getElem?_setIfInBounds, this]
      rw [List.filter_cons, List.filter_cons, hx]
      by_cases hxi : x = i
      · subst hxi
        simp only [if_true, hl, Bool.not_true, Bool.not_false, Bool.false_eq_true, if_false, List.length_cons]
        exact ⟨by have := ih.1; omega, fun _ => by have := ih.1; omega⟩
      · rw [if_neg hxi]
        by_cases hb : listed.getD x false = true
        · simp only [hb, Bool.not_true, Bool.false_eq_true, if_false]
          refine ⟨ih.1, fun hm => ih.2 ?_⟩
          rcases List.mem_cons.1 hm with h | h
          · exact absurd h.symm hxi
          · exact h
        · simp only [Bool.not_eq_true] at hb
          simp only [hb, Bool.not_false, if_true, List.length_cons]
          refine ⟨by have := ih.1; omega, fun hm => ?_⟩
          have := ih.2 (by
            rcases List.mem_cons.1 hm with h | h
            · exact absurd h.symm hxi
            · exact h)
          omega
  exact (hsub _).2 (by simpa using hi)

theorem wpAny_inv {P : Program} {ops : Array Oper} {Q : Exit → Act → World → Prop} (I : (Nat → Bool) → Act → World → Prop) (hA : aheadG ops = true)
    (step : ∀ i o b a w, ops[i]? = some o → I b a w → b i = false → (∀ e ∈ o.after, Region.binds .any e = true → b e.on = true) → Region.wanted o (yielded ops a.tmps) = true ∧ o.wp P a w (I (upd b i)) Q)
    (done : ∀ b a w, (∀ j, j < ops.size → b j = true) → I b a w → Q .normal a w) :
    ∀ (fuel : Nat) (listed : Array Bool) (a : Act) (w : World), listed.size = ops.size → unl ops.size listed ≤ fuel → I (fun j => listed.getD j false) a w → wpAny P .any ops Q fuel listed a w := by
  have hA' : ∀ i o, ops[i]? = some o → ∀ e ∈ o.after, Region.binds .any e = true → e.on < i := by
    intro i o ho
    unfold aheadG at hA
    rw [List.all_eq_true] at hA
    have hi : i < ops.size := (Array.getElem?_eq_some_iff.1 ho).1
    have h := hA i (by simpa using hi)
    rw [ho] at h
    intro e he hb
    have h2 := (Array.all_eq_true_iff_forall_mem.1 h) e he
    simpa [hb] using h2
  have fin : ∀ (listed : Array Bool) (a : Act) (w : World), listed.size = ops.size → I (fun j => listed.getD j false) a w → Region.ready .any ops listed = [] → Q .normal a w := by
    intro listed a w hs hI hr
    refine done _ a w ?_ hI
    intro j
    induction j using Nat.strongRecOn with
    | _ j ih =>
      intro hj
      rcases hb : listed.getD j false with _ | _
      · exfalso
        have hmem : j ∈ Region.ready .any ops listed := by
          unfold Region.ready
          rw [List.mem_filter]
          refine ⟨by simpa using hj, ?_⟩
          obtain ⟨o, ho⟩ : ∃ o, ops[j]? = some o := ⟨_, Array.getElem?_eq_getElem hj⟩
          have hd : listed.getD j true = false := by
            rw [Array.getD_eq_getD_getElem?] at hb ⊢
            rw [Array.getElem?_eq_getElem (by omega)] at hb ⊢
            exact hb
          rw [ho]
          simp only [hd, Bool.not_false, Option.map_some, Option.getD_some, Bool.true_and]
          apply Array.all_eq_true_iff_forall_mem.2
          intro e he
          by_cases hbd : Region.binds .any e = true
          · have hlt := hA' j o ho e he hbd
            simp [hbd, ih e.on hlt (by omega)]
          · simp [hbd]
        rw [hr] at hmem
        cases hmem
      · rfl
  intro fuel
  induction fuel with
  | zero =>
    intro listed a w hs hu hI
    have hnil : Region.ready .any ops listed = [] := by
      rw [List.eq_nil_iff_forall_not_mem]
      intro j hj
      unfold Region.ready at hj
      rw [List.mem_filter] at hj
      obtain ⟨hj1, hj2⟩ := hj
      have hj3 : j < ops.size := by simpa using hj1
      simp only [Bool.and_eq_true] at hj2
      have hu0 : unl ops.size listed = 0 := by omega
      unfold unl at hu0
      rw [List.length_eq_zero_iff, List.filter_eq_nil_iff] at hu0
      have h1 := hu0 j (by simpa using hj3)
      have h2 := hj2.1
      rw [Array.getD_eq_getD_getElem?, Array.getElem?_eq_getElem (by omega)] at h1 h2
      simp at h1 h2
      rw [h1] at h2
      cases h2
    exact ⟨hnil, fin listed a w hs hI hnil⟩
  | succ fuel ih =>
    intro listed a w hs hu hI
    refine ⟨fin listed a w hs hI, fun i hi => ?_⟩
    unfold Region.ready at hi
    rw [List.mem_filter] at hi
    obtain ⟨hi1, hi2⟩ := hi
    have hi3 : i < ops.size := by simpa using hi1
    simp only [Bool.and_eq_true] at hi2
    obtain ⟨o, ho⟩ : ∃ o, ops[i]? = some o := ⟨_, Array.getElem?_eq_getElem hi3⟩
    have hl : listed.getD i false = false := by
      have h2 := hi2.1
      rw [Array.getD_eq_getD_getElem?, Array.getElem?_eq_getElem (by omega)] at h2 ⊢
      simpa using h2
    have hw := hi2.2
    rw [ho] at hw
    simp only [Option.map_some, Option.getD_some] at hw
    have hstep := step i o _ a w ho hI hl (fun e he hb => by
      have := (Array.all_eq_true_iff_forall_mem.1 hw) e he
      simpa [hb] using this)
    unfold wpOp
    simp only [ho]
    rw [if_pos hstep.1]
    refine .inl (Oper.wp_mono (fun a' w' hI' => ih _ a' w' (by simpa using hs) (by have := unl_set hs hi3 hl; omega) ?_) hstep.2)
    have e : (fun j => (listed.setIfInBounds i true).getD j false) = upd (fun j => listed.getD j false) i := by
      funext x
      unfold upd
      by_cases hxi : x = i
      · subst hxi
        simp [Array.getD_eq_getD_getElem?, Array.getElem?_setIfInBounds, hs, hi3]
      · have : i ≠ x := fun e => hxi e.symm
        simp [Array.getD_eq_getD_getElem?, Array.getElem?_setIfInBounds, this, hxi]
    rw [e]
    exact hI'

/-- A region that draws its order, by an invariant over what has been done. -/
theorem wp_region_invG {P : Program} {id : Nat} {ops : List Oper} {Q : Exit → Act → World → Prop} {a : Act} {w : World} (I : (Nat → Bool) → Act → World → Prop) (hm : P.follows .mixedOrders = true) (hA : aheadG ops.toArray = true)
    (start : I (fun _ => false) a { w with drawn := w.drawn + 1 })
    (step : ∀ i o b a w, ops[i]? = some o → I b a w → b i = false → (∀ e ∈ o.after, Region.binds .any e = true → b e.on = true) → Region.wanted o (yielded ops.toArray a.tmps) = true ∧ o.wp P a w (I (upd b i)) Q)
    (done : ∀ b a w, (∀ j, j < ops.length → b j = true) → I b a w → Q .normal a w) : (Code.region id ops.toArray true).wp P Q a w := by
  refine wp_region_any hm (wpAny_inv I hA (fun i o b a w ho => step i o b a w (by simpa using ho)) (fun b a w hj => done b a w (by simpa using hj)) _ _ a _ (by simp) ?_ ?_)
  · unfold unl
    refine Nat.le_trans (List.length_filter_le _ _) (by simp)
  · have : (fun j => (Array.replicate ops.toArray.size false).getD j false) = fun _ => false := by
      funext j
      simp [Array.getD_eq_getD_getElem?, Array.getElem?_replicate]
      split <;> rfl
    rw [this]
    exact start
theorem wp_enter {P : Program} {o : Oper} {a : Act} {w : World} {K : Act → World → Prop} {Q : Exit → Act → World → Prop} (f : FuncId) (vals : Array Value) (h : (execOp a.eval o).run P w = .ok (.enter f vals) w)
    (hc : Calls P f vals w fun e w' => match e with | .returned v => K (a.put o.dst v) w' | .panicked chain => Q (.panic chain) a w' | .outgrown => LetsOut Q) : o.wp P a w K Q := by
  unfold Oper.wp
  rw [h, Oper.upon_enter]
  refine hc.mono ?_
  rintro e w' hh
  cases e <;> exact hh
theorem wp_value {P : Program} {o : Oper} {a : Act} {w : World} {K : Act → World → Prop} {Q : Exit → Act → World → Prop} (v : Value) (w2 : World) (h : (execOp a.eval o).run P w = .ok (.value v) w2) (hk : K (a.put o.dst v) w2) : o.wp P a w K Q := by
  unfold Oper.wp
  rw [h]
  exact hk
/-- An operation that has one value in all worlds that keep what is here. -/
theorem wp_quiet_here {P : Program} {o : Oper} {a : Act} {w : World} {K : Act → World → Prop} {Q : Exit → Act → World → Prop} (v : Value) (h : o.quiet P a (Calm w) (fun a' => a' = a.put o.dst v)) (hk : ∀ w', Fr (fun _ => False) w w' → K (a.put o.dst v) w') : o.wp P a w K Q :=
  Oper.wp_of_quiet (C := Calm w) (Fr.refl _ _) (fun a' w' hw' e => by rw [e]; exact hk w' hw') h
theorem wp_alloc_any {P : Program} {o : Oper} {a : Act} {w : World} {K : Act → World → Prop} {Q : Exit → Act → World → Prop} (ty : TypeId) (ho : o.op = .alloc ty) (zero : Array Value) (hz : ∀ w, (zeroValue ty).run P w = .ok (.agg zero) w)
    (h : K (a.put o.dst (.pointer (some ⟨w.heap.size, 0, none⟩))) (w.alloc (.cells zero ty))) : o.wp P a w K Q := by
  unfold Oper.wp execOp
  simp [ho, hz, go_sem]
  exact h
theorem calm1a {w : World} {A : Obj} {W0 : World} (h : w.alloc A = W0) : W0.heap[w.heap.size]? = some A ∧ Fr (fun _ => False) w W0 := by
  subst h
  exact ⟨heap_alloc_new w A, (Fr.refl _ _).alloc _⟩
end Go.Proofs.Ytkkicekhkidhjaa
