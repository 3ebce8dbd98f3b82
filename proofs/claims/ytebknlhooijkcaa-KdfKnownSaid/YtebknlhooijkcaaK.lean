/- Frames, slices and arrays of integers in memory, regions by an invariant over what has been done: definitions and lemmas alone. No condition. -/
import Derived.Test.YtebknlhooijkcaaProg
import Derived.Below
import Derived.Laws.OwnMore
import Derived.Laws.Rows
import Derived.Laws.Tables
import Derived.Laws.MakeOwn
import Derived.Maps.AppendAt
import Derived.Deep.Draws
import Derived.WalkKit
import Derived.Laws.BitsLemmas
import Derived.Laws.BitsAllLaws
import Derived.Deep.DeepFit
import Derived.Outline
import Derived.RegionTactic
import Derived.BigQuiet
import Derived.Deep.QuietTactic
import Derived.Deep.RegionWith
import Derived.Deep.RegionHeld3
import Derived.Handy
import Derived.Lib.Hide
import Derived.Deep.MidRow
import Derived.Deep.WholeRow
import Derived.Deep.Cut
import Derived.Shelf.Abstract
import Derived.ChangeKeysEq
import Derived.Laws.StructEq
import Derived.Laws.CopyOwn
import Derived.Deep.AppendLies
import Derived.Deep.RegionLaw
import Derived.Test.YtebknlhooijkcaaRows
import Derived.ProofKit
import Derived.OpenShut
import Derived.Carry
import Derived.ChangeSame
import Derived.SizedLaws
namespace Go.Proofs.Ytebknlhooijkcaa
set_option linter.unusedSimpArgs false
set_option linter.unusedVariables false
open Go.RowKit

/-! ### Bytes -/
def bs (l : List Int) : List Value := l.map (Value.int .u8)
def Bys (l : List Int) : Prop := ∀ b ∈ l, 0 ≤ b ∧ b ≤ 255

theorem bs_length (l : List Int) : (bs l).length = l.length := by simp [bs]
theorem bs_append (l k : List Int) : bs l ++ bs k = bs (l ++ k) := by simp [bs]
theorem bs_one (l : List Int) : ∀ u ∈ bs l, u.oneCell' = true := by
  intro u hu
  simp only [bs, List.mem_map] at hu
  obtain ⟨x, _, rfl⟩ := hu
  rfl
theorem bs_get (l : List Int) (j : Nat) : (bs l)[j]? = (l[j]?).map (Value.int .u8) := by simp [bs]
theorem Bys.append {l k : List Int} (h : Bys l) (h' : Bys k) : Bys (l ++ k) := by
  intro b hb
  rcases List.mem_append.1 hb with h1 | h1
  · exact h b h1
  · exact h' b h1
theorem Bys.nil : Bys [] := by intro b hb; cases hb
theorem Bys.drop {l : List Int} (h : Bys l) (k : Nat) : Bys (l.drop k) := fun b hb => h b (List.mem_of_mem_drop hb)
theorem Bys.take {l : List Int} (h : Bys l) (k : Nat) : Bys (l.take k) := fun b hb => h b (List.mem_of_mem_take hb)

/-! ### Frames: all blocks that were there stay, but for those in S -/
structure Fr (S : Nat → Prop) (w w' : World) : Prop where
  os : w'.os = w.os
  tape : w'.tape = w.tape
  output : w'.output = w.output
  size : w.heap.size ≤ w'.heap.size
  block : ∀ k, k < w.heap.size → ¬ S k → w'.heap[k]? = w.heap[k]?

theorem Fr.refl (S : Nat → Prop) (w : World) : Fr S w w := ⟨rfl, rfl, rfl, Nat.le_refl _, fun _ _ _ => rfl⟩
theorem Fr.trans {S : Nat → Prop} {a b c : World} (h : Fr S a b) (k : Fr S b c) : Fr S a c :=
  ⟨k.os.trans h.os, k.tape.trans h.tape, k.output.trans h.output, Nat.le_trans h.size k.size, fun i hi hs => (k.block i (Nat.lt_of_lt_of_le hi h.size) hs).trans (h.block i hi hs)⟩
/-- The second step may touch what is new since the first world, too. -/
theorem Fr.trans' {S T : Nat → Prop} {a b c : World} (h : Fr S a b) (k : Fr T b c) (hT : ∀ i, i < a.heap.size → T i → S i) : Fr S a c :=
  ⟨k.os.trans h.os, k.tape.trans h.tape, k.output.trans h.output, Nat.le_trans h.size k.size, fun i hi hs => (k.block i (Nat.lt_of_lt_of_le hi h.size) (fun ht => hs (hT i hi ht))).trans (h.block i hi hs)⟩
theorem Fr.weaken {S T : Nat → Prop} {a b : World} (h : Fr S a b) (hT : ∀ i, i < a.heap.size → S i → T i) : Fr T a b :=
  ⟨h.os, h.tape, h.output, h.size, fun i hi hs => h.block i hi (fun x => hs (hT i hi x))⟩
theorem Fr.drew {S : Nat → Prop} {a b : World} (h : Fr S a b) : Fr S a b.drew := ⟨h.os, h.tape, h.output, h.size, h.block⟩
theorem Fr.drewN {S : Nat → Prop} {a b : World} (h : Fr S a b) (n : Nat) : Fr S a (b.drewN n) := ⟨h.os, h.tape, h.output, h.size, h.block⟩
theorem Fr.alloc {S : Nat → Prop} {a b : World} (h : Fr S a b) (o : Obj) : Fr S a (b.alloc o) :=
  ⟨h.os, h.tape, h.output, Nat.le_trans h.size (by simp), fun i hi hs => (Below.heap_alloc b o i (Nat.lt_of_lt_of_le hi h.size)).trans (h.block i hi hs)⟩
theorem Fr.setCell {S : Nat → Prop} {a b : World} (h : Fr S a b) {p : Addr} (u : Value) (hp : S p.block ∨ a.heap.size ≤ p.block) : Fr S a (b.setCell p u) :=
  ⟨h.os, h.tape, h.output, by simpa [World.setCell] using h.size, fun i hi hs => (Below.heap_setCell b p u i (by
    rintro rfl
    rcases hp with hp | hp
    · exact hs hp
    · omega)).trans (h.block i hi hs)⟩
theorem Fr.setRow {S : Nat → Prop} {a b : World} (h : Fr S a b) {g : Nat} (cs : Array Value) (hp : S g ∨ a.heap.size ≤ g) : Fr S a (b.setRow g cs) :=
  ⟨h.os, h.tape, h.output, by simpa using h.size, fun i hi hs => (setRow_other b g i cs (by
    rintro rfl
    rcases hp with hp | hp
    · exact hs hp
    · omega)).trans (h.block i hi hs)⟩
theorem Fr.grown {S : Nat → Prop} {a b c : World} (h : Fr S a b) {row : Option Nat} (hg : b.grownBy c row) (hr : ∀ k, row = some k → S k ∨ a.heap.size ≤ k) : Fr S a c :=
  ⟨hg.os.trans h.os, hg.tape.trans h.tape, hg.output.trans h.output, Nat.le_trans h.size hg.size, fun i hi hs => (hg.block i (Nat.lt_of_lt_of_le hi h.size) (fun e => by
    rcases hr i e.symm with h1 | h1
    · exact hs h1
    · omega)).trans (h.block i hi hs)⟩
theorem Fr.below {a b : World} (h : Fr (fun _ => False) a b) : Below a.heap.size a b := ⟨h.os, h.tape, h.output, h.size, fun k hk => h.block k hk (fun x => x)⟩
theorem Fr.of_below {S : Nat → Prop} {a b : World} (h : Below a.heap.size a b) : Fr S a b := ⟨h.os, h.tape, h.output, h.size, fun k hk _ => h.block k hk⟩
theorem Fr.any {S : Nat → Prop} {a b : World} (h : Fr (fun _ => False) a b) : Fr S a b := h.weaken fun _ _ x => x.elim

theorem heap_lt {w : World} {g : Nat} {o : Obj} (h : w.heap[g]? = some o) : g < w.heap.size := (Array.getElem?_eq_some_iff.1 h).1

theorem Addr_add_block (a : Addr) (n : Nat) : (a.add n).block = a.block := by unfold Addr.add; split <;> rfl
theorem Addr_add_none (g o j : Nat) : (⟨g, o, none⟩ : Addr).add j = ⟨g, o + j, none⟩ := by
  unfold Addr.add
  by_cases h0 : j = 0 <;> simp [h0]

/-! ### A slice of bytes: the value, the block in which it lies (any, where it is empty) -/
def Sl (w : World) (g : Nat) (v : Value) (l : List Int) : Prop :=
  Bys l ∧ ∃ A c, v = .slice A l.length c ∧ l.length ≤ c ∧ c ≤ maxLen ∧ (l ≠ [] → ∃ o, A = some ⟨g, o, none⟩ ∧ g < w.heap.size ∧ ∀ j b, l[j]? = some b → w.cell? ⟨g, o + j, none⟩ = some (.int .u8 b))

theorem Sl.keep {w w' : World} {g : Nat} {v : Value} {l : List Int} (h : Sl w g v l) (hs : w.heap.size ≤ w'.heap.size) (hk : g < w.heap.size → w'.heap[g]? = w.heap[g]?) : Sl w' g v l := by
  obtain ⟨hb, A, c, rfl, hc, hm, hx⟩ := h
  refine ⟨hb, A, c, rfl, hc, hm, fun hl => ?_⟩
  obtain ⟨o, rfl, hg, hcell⟩ := hx hl
  exact ⟨o, rfl, by omega, fun j b hj => (World.cell?_of_block (w := w) (hk hg)).trans (hcell j b hj)⟩
theorem Sl.fr {S : Nat → Prop} {w w' : World} {g : Nat} {v : Value} {l : List Int} (h : Sl w g v l) (hf : Fr S w w') (hn : g < w.heap.size → ¬ S g) : Sl w' g v l := h.keep hf.size fun hg => hf.block g hg (hn hg)
theorem Sl.nil (w : World) (g : Nat) : Sl w g (.slice none 0 0) [] := ⟨Bys.nil, none, 0, rfl, by simp, by simp [maxLen], fun h => absurd rfl h⟩
/-- A block made for these bytes alone. -/
theorem Sl.block {w : World} {g : Nat} {cs : Array Value} {l : List Int} {c : Nat} {t : TypeId} {fr : Nat × Nat} (hb : Bys l) (h : w.heap[g]? = some (.cells cs t fr)) (hcs : ∀ j, j < l.length → cs[j]? = (bs l)[j]?) (hc : l.length ≤ c) (hm : c ≤ maxLen) : Sl w g (.slice (some ⟨g, 0, none⟩) l.length c) l :=
  ⟨hb, _, c, rfl, hc, hm, fun _ => ⟨0, rfl, heap_lt h, fun j b hj => by
    rw [Nat.zero_add, cell_of_row w g j cs t fr h, hcs j (by
      rcases Nat.lt_or_ge j l.length with h1 | h1
      · exact h1
      · rw [List.getElem?_eq_none h1] at hj; cases hj), bs_get, hj]; rfl⟩⟩
theorem Sl.drop {w : World} {g : Nat} {A : Option Addr} {n c : Nat} {l : List Int} (h : Sl w g (.slice A n c) l) (k : Nat) (hk : k ≤ l.length) :
    Sl w g (.slice (if c = k then A else A.map (·.add k)) (l.length - k) (c - k)) (l.drop k) := by
  obtain ⟨hb, A', c', e, hc, hm, hx⟩ := h
  injection e with e1 e2 e3
  subst e1 e2 e3
  refine ⟨hb.drop k, _, _, by rw [List.length_drop], by rw [List.length_drop]; omega, by omega, fun hl => ?_⟩
  have hlen : k < l.length := by
    rcases Nat.lt_or_ge k l.length with h1 | h1
    · exact h1
    · exact absurd (List.drop_eq_nil_of_le h1) hl
  obtain ⟨o, rfl, hg, hcell⟩ := hx (by intro e; rw [e] at hlen; simp at hlen)
  rw [if_neg (by omega)]
  refine ⟨o + k, ?_, hg, fun j b hj => ?_⟩
  · unfold Addr.add
    by_cases h0 : k = 0 <;> simp [h0]
  · rw [Nat.add_assoc]
    exact hcell (k + j) b (by rw [← hj, List.getElem?_drop])
theorem Sl.take {w : World} {g : Nat} {A : Option Addr} {n c : Nat} {l : List Int} (h : Sl w g (.slice A n c) l) (k : Nat) (hk : k ≤ l.length) : Sl w g (.slice A k c) (l.take k) := by
  obtain ⟨hb, A', c', e, hc, hm, hx⟩ := h
  injection e with e1 e2 e3
  subst e1 e2 e3
  refine ⟨hb.take k, _, _, by rw [List.length_take, Nat.min_eq_left hk], by rw [List.length_take]; omega, hm, fun hl => ?_⟩
  obtain ⟨o, rfl, hg, hcell⟩ := hx (by intro e; rw [e] at hl; simp at hl)
  refine ⟨o, rfl, hg, fun j b hj => hcell j b ?_⟩
  rw [List.getElem?_take] at hj
  split at hj
  · exact hj
  · cases hj

/-! ### Regions -/
section
variable {P : Program} {C : World → Prop} {a : Act} {o : Oper} {K : Act → Prop}
/-- A whole array or struct is loaded. -/
theorem quiet_load (ty : TypeId) (x : Operand) (ho : o.op = .load ty x) (g : Nat) (hx : a.eval x = .pointer (some ⟨g, 0, none⟩)) (t : TypeId) (cs : Array Value) (fr : Nat × Nat) (d : TypeDesc)
    (hg : ∀ w, C w → w.heap[g]? = some (.cells cs t fr)) (hu : P.underlying ty = some d) (hd : (match d with | .struct _ | .array _ _ => true | _ => false) = true) (hi : (P.info? ty).map (·.size) = some cs.size)
    (hk : K (a.put o.dst (.agg cs))) : o.quiet P a C K :=
  ⟨.agg cs, fun w hw => by
    unfold Oper.quietAt execOp
    simp only [ho, hx, Instr.loadAt, Instr.sureAddr, Sem.run_bind, Sem.run_pure, Result.andThen_ok, run_loadVar_row w g t ty cs fr d (hg w hw) hu hd hi]
    exact ⟨rfl, rfl⟩, hk⟩
/-- An operation that yields the same whatever the world. -/
theorem quiet_run (v : Value) (h : ∀ w, C w → (execOp a.eval o).run P w = .ok (.value v) w) (hk : K (a.put o.dst v)) : o.quiet P a C K :=
  ⟨v, fun w hw => by
    unfold Oper.quietAt
    rw [h w hw]
    exact ⟨rfl, rfl⟩, hk⟩
/-- A call of a function with a body. -/
theorem quiet_call (f : FuncId) (vals : Array Value) (v : Value) (h : ∀ w, (execOp a.eval o).run P w = .ok (.enter f vals) w) (hc : ∀ w, C w → Calls P f vals w fun e w' => e = .returned v ∧ C w') (hk : K (a.put o.dst v)) : o.quiet P a C K :=
  ⟨v, fun w hw => by
    unfold Oper.quietAt
    rw [h w]
    exact ⟨rfl, hc w hw⟩, hk⟩
end
/-- The class: all that was there stays. -/
def Calm (w0 : World) (w : World) : Prop := Fr (fun _ => False) w0 w
theorem Calm.start (w0 w : World) (h : Fr (fun _ => False) w0 w) : Calm w0 { w with drawn := w.drawn + 1 } := ⟨h.os, h.tape, h.output, h.size, h.block⟩
theorem Calm.calls {P : Program} {f : FuncId} {vals : Array Value} {v : Value} {w0 : World} (hc : ∀ w, Calls P f vals w fun e w' => e = .returned v ∧ Fr (fun _ => False) w w') (w : World) (h : Calm w0 w) : Calls P f vals w fun e w' => e = .returned v ∧ Calm w0 w' :=
  (hc w).mono fun _ _ ⟨he, hf⟩ => ⟨he, Fr.trans h hf⟩
theorem Calm.at {w0 w : World} {g : Nat} {o : Obj} (h : w0.heap[g]? = some o) (hw : Calm w0 w) : w.heap[g]? = some o := (hw.block _ (heap_lt h) (fun x => x)).trans h


/-- What an operation waits for stands ahead of it. -/
def aheadG (ops : Array Oper) : Bool := (List.range ops.size).all fun i => match ops[i]? with
  | none => true
  | some o => o.after.all fun e => !Region.binds .any e || decide (e.on < i)
def upd (b : Nat → Bool) (i : Nat) : Nat → Bool := fun j => decide (j = i) || b j
def unl (n : Nat) (listed : Array Bool) : Nat := ((List.range n).filter fun j => !listed.getD j false).length

theorem unl_set {n i : Nat} {listed : Array Bool} (hs : listed.size = n) (hi : i < n) (hl : listed.getD i false = false) : unl n (listed.setIfInBounds i true) < unl n listed := by
  unfold unl
  have hsub : ∀ l : List Nat, (l.filter fun j => !(listed.setIfInBounds i true).getD j false).length ≤ (l.filter fun j => !listed.getD j false).length ∧ (i ∈ l → (l.filter fun j => !(listed.setIfInBounds i true).getD j false).length < (l.filter fun j => !listed.getD j false).length) := by
    intro l
    induction l with
    | nil => simp
    | cons x r ih =>
      have hx : (listed.setIfInBounds i true).getD x false = if x = i then true else listed.getD x false := by
        by_cases hxi : x = i
        · subst hxi
          rw [if_pos rfl]
          simp [Array.getD_eq_getD_getElem?, Array.getElem?_setIfInBounds, hs, hi]
        · rw [if_neg hxi]
          have : i ≠ x := fun e => hxi e.symm
          simp [Array.getD_eq_getD_getElem?, Array.getElem?_setIfInBounds, this]
      rw [List.filter_cons, List.filter_cons, hx]
      by_cases hxi : x = i
      · subst hxi
        simp only [if_true, hl, Bool.not_true, Bool.not_false, Bool.false_eq_true, if_false, List.length_cons]
        exact ⟨by have := ih.1; omega, fun _ => by have := ih.1; omega⟩
      · rw [if_neg hxi]
        by_cases hb : listed.getD x false = true
        · simp only [hb, Bool.not_true, Bool.false_eq_true, if_false]
          refine ⟨ih.1, fun hm => ih.2 ?_⟩
          rcases List.mem_cons.1 hm with h | h
          · exact absurd h.symm hxi
          · exact h
        · simp only [Bool.not_eq_true] at hb
          simp only [hb, Bool.not_false, if_true, List.length_cons]
          refine ⟨by have := ih.1; omega, fun hm => ?_⟩
          have := ih.2 (by
            rcases List.mem_cons.1 hm with h | h
            · exact absurd h.symm hxi
            · exact h)
          omega
  exact (hsub _).2 (by simpa using hi)

theorem wpAny_inv {P : Program} {ops : Array Oper} {Q : Exit → Act → World → Prop} (I : (Nat → Bool) → Act → World → Prop) (hA : aheadG ops = true)
    (step : ∀ i o b a w, ops[i]? = some o → I b a w → b i = false → (∀ e ∈ o.after, Region.binds .any e = true → b e.on = true) → Region.wanted o (yielded ops a.tmps) = true ∧ o.wp P a w (I (upd b i)) Q)
    (done : ∀ b a w, (∀ j, j < ops.size → b j = true) → I b a w → Q .normal a w) :
    ∀ (fuel : Nat) (listed : Array Bool) (a : Act) (w : World), listed.size = ops.size → unl ops.size listed ≤ fuel → I (fun j => listed.getD j false) a w → wpAny P .any ops Q fuel listed a w := by
  have hA' : ∀ i o, ops[i]? = some o → ∀ e ∈ o.after, Region.binds .any e = true → e.on < i := by
    intro i o ho
    unfold aheadG at hA
    rw [List.all_eq_true] at hA
    have hi : i < ops.size := (Array.getElem?_eq_some_iff.1 ho).1
    have h := hA i (by simpa using hi)
    rw [ho] at h
    intro e he hb
    have h2 := (Array.all_eq_true_iff_forall_mem.1 h) e he
    simpa [hb] using h2
  have fin : ∀ (listed : Array Bool) (a : Act) (w : World), listed.size = ops.size → I (fun j => listed.getD j false) a w → Region.ready .any ops listed = [] → Q .normal a w := by
    intro listed a w hs hI hr
    refine done _ a w ?_ hI
    intro j
    induction j using Nat.strongRecOn with
    | _ j ih =>
      intro hj
      rcases hb : listed.getD j false with _ | _
      · exfalso
        have hmem : j ∈ Region.ready .any ops listed := by
          unfold Region.ready
          rw [List.mem_filter]
          refine ⟨by simpa using hj, ?_⟩
          obtain ⟨o, ho⟩ : ∃ o, ops[j]? = some o := ⟨_, Array.getElem?_eq_getElem hj⟩
          have hd : listed.getD j true = false := by
            rw [Array.getD_eq_getD_getElem?] at hb ⊢
            rw [Array.getElem?_eq_getElem (by omega)] at hb ⊢
            exact hb
          rw [ho]
          simp only [hd, Bool.not_false, Option.map_some, Option.getD_some, Bool.true_and]
          apply Array.all_eq_true_iff_forall_mem.2
          intro e he
          by_cases hbd : Region.binds .any e = true
          · have hlt := hA' j o ho e he hbd
            simp [hbd, ih e.on hlt (by omega)]
          · simp [hbd]
        rw [hr] at hmem
        cases hmem
      · rfl
  intro fuel
  induction fuel with
  | zero =>
    intro listed a w hs hu hI
    have hnil : Region.ready .any ops listed = [] := by
      rw [List.eq_nil_iff_forall_not_mem]
      intro j hj
      unfold Region.ready at hj
      rw [List.mem_filter] at hj
      obtain ⟨hj1, hj2⟩ := hj
      have hj3 : j < ops.size := by simpa using hj1
      simp only [Bool.and_eq_true] at hj2
      have hu0 : unl ops.size listed = 0 := by omega
      unfold unl at hu0
      rw [List.length_eq_zero_iff, List.filter_eq_nil_iff] at hu0
      have h1 := hu0 j (by simpa using hj3)
      have h2 := hj2.1
      rw [Array.getD_eq_getD_getElem?, Array.getElem?_eq_getElem (by omega)] at h1 h2
      simp at h1 h2
      rw [h1] at h2
      cases h2
    exact ⟨hnil, fin listed a w hs hI hnil⟩
  | succ fuel ih =>
    intro listed a w hs hu hI
    refine ⟨fin listed a w hs hI, fun i hi => ?_⟩
    unfold Region.ready at hi
    rw [List.mem_filter] at hi
    obtain ⟨hi1, hi2⟩ := hi
    have hi3 : i < ops.size := by simpa using hi1
    simp only [Bool.and_eq_true] at hi2
    obtain ⟨o, ho⟩ : ∃ o, ops[i]? = some o := ⟨_, Array.getElem?_eq_getElem hi3⟩
    have hl : listed.getD i false = false := by
      have h2 := hi2.1
      rw [Array.getD_eq_getD_getElem?, Array.getElem?_eq_getElem (by omega)] at h2 ⊢
      simpa using h2
    have hw := hi2.2
    rw [ho] at hw
    simp only [Option.map_some, Option.getD_some] at hw
    have hstep := step i o _ a w ho hI hl (fun e he hb => by
      have := (Array.all_eq_true_iff_forall_mem.1 hw) e he
      simpa [hb] using this)
    unfold wpOp
    simp only [ho]
    rw [if_pos hstep.1]
    refine .inl (Oper.wp_mono (fun a' w' hI' => ih _ a' w' (by simpa using hs) (by have := unl_set hs hi3 hl; omega) ?_) hstep.2)
    have e : (fun j => (listed.setIfInBounds i true).getD j false) = upd (fun j => listed.getD j false) i := by
      funext x
      unfold upd
      by_cases hxi : x = i
      · subst hxi
        simp [Array.getD_eq_getD_getElem?, Array.getElem?_setIfInBounds, hs, hi3]
      · have : i ≠ x := fun e => hxi e.symm
        simp [Array.getD_eq_getD_getElem?, Array.getElem?_setIfInBounds, this, hxi]
    rw [e]
    exact hI'

/-- A region that draws its order, by an invariant over what has been done. -/
theorem wp_region_invG {P : Program} {id : Nat} {ops : List Oper} {Q : Exit → Act → World → Prop} {a : Act} {w : World} (I : (Nat → Bool) → Act → World → Prop) (hm : P.follows .mixedOrders = true) (hA : aheadG ops.toArray = true)
    (start : I (fun _ => false) a { w with drawn := w.drawn + 1 })
    (step : ∀ i o b a w, ops[i]? = some o → I b a w → b i = false → (∀ e ∈ o.after, Region.binds .any e = true → b e.on = true) → Region.wanted o (yielded ops.toArray a.tmps) = true ∧ o.wp P a w (I (upd b i)) Q)
    (done : ∀ b a w, (∀ j, j < ops.length → b j = true) → I b a w → Q .normal a w) : (Code.region id ops.toArray true).wp P Q a w := by
  refine wp_region_any hm (wpAny_inv I hA (fun i o b a w ho => step i o b a w (by simpa using ho)) (fun b a w hj => done b a w (by simpa using hj)) _ _ a _ (by simp) ?_ ?_)
  · unfold unl
    refine Nat.le_trans (List.length_filter_le _ _) (by simp)
  · have : (fun j => (Array.replicate ops.toArray.size false).getD j false) = fun _ => false := by
      funext j
      simp [Array.getD_eq_getD_getElem?, Array.getElem?_replicate]
      split <;> rfl
    rw [this]
    exact start
theorem wp_enter {P : Program} {o : Oper} {a : Act} {w : World} {K : Act → World → Prop} {Q : Exit → Act → World → Prop} (f : FuncId) (vals : Array Value) (h : (execOp a.eval o).run P w = .ok (.enter f vals) w)
    (hc : Calls P f vals w fun e w' => match e with | .returned v => K (a.put o.dst v) w' | .panicked chain => Q (.panic chain) a w' | .outgrown => LetsOut Q) : o.wp P a w K Q := by
  unfold Oper.wp
  rw [h, Oper.upon_enter]
  refine hc.mono ?_
  rintro e w' hh
  cases e <;> exact hh
theorem wp_value {P : Program} {o : Oper} {a : Act} {w : World} {K : Act → World → Prop} {Q : Exit → Act → World → Prop} (v : Value) (w2 : World) (h : (execOp a.eval o).run P w = .ok (.value v) w2) (hk : K (a.put o.dst v) w2) : o.wp P a w K Q := by
  unfold Oper.wp
  rw [h]
  exact hk
/-- An operation that has one value in all worlds that keep what is here. -/
theorem wp_quiet_here {P : Program} {o : Oper} {a : Act} {w : World} {K : Act → World → Prop} {Q : Exit → Act → World → Prop} (v : Value) (h : o.quiet P a (Calm w) (fun a' => a' = a.put o.dst v)) (hk : ∀ w', Fr (fun _ => False) w w' → K (a.put o.dst v) w') : o.wp P a w K Q :=
  Oper.wp_of_quiet (C := Calm w) (Fr.refl _ _) (fun a' w' hw' e => by rw [e]; exact hk w' hw') h
theorem wp_alloc_any {P : Program} {o : Oper} {a : Act} {w : World} {K : Act → World → Prop} {Q : Exit → Act → World → Prop} (ty : TypeId) (ho : o.op = .alloc ty) (zero : Array Value) (hz : ∀ w, (zeroValue ty).run P w = .ok (.agg zero) w)
    (h : K (a.put o.dst (.pointer (some ⟨w.heap.size, 0, none⟩))) (w.alloc (.cells zero ty))) : o.wp P a w K Q := by
  unfold Oper.wp execOp
  simp [ho, hz, go_sem]
  exact h
theorem calm1a {w : World} {A : Obj} {W0 : World} (h : w.alloc A = W0) : W0.heap[w.heap.size]? = some A ∧ Fr (fun _ => False) w W0 := by
  subst h
  exact ⟨heap_alloc_new w A, (Fr.refl _ _).alloc _⟩
/-- No guard; what an operation waits for stands ahead of it. -/
def aheadB (ops : Array Oper) : Bool := (List.range ops.size).all fun i => match ops[i]? with
  | none => true
  | some o => o.guard.isNone && o.after.all fun e => !Region.binds .any e || decide (e.on < i)
theorem aheadB_G {ops : Array Oper} (hA : aheadB ops = true) : aheadG ops = true ∧ ∀ (i : Nat) (o : Oper), ops[i]? = some o → o.guard = none := by
  unfold aheadB at hA
  unfold aheadG
  rw [List.all_eq_true] at hA
  refine ⟨?_, fun i o ho => ?_⟩
  · rw [List.all_eq_true]
    intro i hi
    have h := hA i hi
    rcases e : ops[i]? with _ | o
    · rfl
    · rw [e] at h
      simp only [Bool.and_eq_true] at h
      exact h.2
  · have hi : i < ops.size := (Array.getElem?_eq_some_iff.1 ho).1
    have h := hA i (by simpa using hi)
    rw [ho] at h
    simp only [Bool.and_eq_true, Option.isNone_iff_eq_none] at h
    exact h.1
theorem wp_region_inv {P : Program} {id : Nat} {ops : List Oper} {Q : Exit → Act → World → Prop} {a : Act} {w : World} (I : (Nat → Bool) → Act → World → Prop) (hm : P.follows .mixedOrders = true) (hA : aheadB ops.toArray = true)
    (start : I (fun _ => false) a { w with drawn := w.drawn + 1 })
    (step : ∀ i o b a w, ops[i]? = some o → I b a w → b i = false → (∀ e ∈ o.after, Region.binds .any e = true → b e.on = true) → o.wp P a w (I (upd b i)) Q)
    (done : ∀ b a w, (∀ j, j < ops.length → b j = true) → I b a w → Q .normal a w) : (Code.region id ops.toArray true).wp P Q a w :=
  wp_region_invG I hm (aheadB_G hA).1 start (fun i o b a w ho hI hb he => ⟨by simp [Region.wanted, (aheadB_G hA).2 i o (by simpa using ho)], step i o b a w ho hI hb he⟩) done
/-! ### A plain region by an invariant -/
theorem wpList_inv {P : Program} {ops : Array Oper} {Q : Exit → Act → World → Prop} (I : (Nat → Bool) → Act → World → Prop) (all : List Oper)
    (hg : (all.all fun o => o.guard.isNone) = true)
    (step : ∀ i o b a w, all[i]? = some o → I b a w → b i = false → (∀ j, j < i → b j = true) → o.wp P a w (I (upd b i)) Q)
    (done : ∀ b a w, (∀ j, j < all.length → b j = true) → I b a w → Q .normal a w) :
    ∀ (l : List Oper) (k : Nat) (b : Nat → Bool) (a : Act) (w : World), all.drop k = l → (∀ j, j < k → b j = true) → (∀ j, k ≤ j → b j = false) → I b a w → wpList P ops Q l a w
  | [], k, b, a, w, hl, hb, _, hI => by
    refine done b a w (fun j hj => hb j ?_) hI
    have := List.drop_eq_nil_iff.1 hl
    omega
  | o :: rest, k, b, a, w, hl, hb, hn, hI => by
    have hk : all[k]? = some o := by
      have : (all.drop k)[0]? = some o := by rw [hl]; rfl
      simpa using this
    have hd : all.drop (k + 1) = rest := by
      have : (all.drop k).drop 1 = rest := by rw [hl]; rfl
      simpa [List.drop_drop, Nat.add_comm] using this
    have ho : o.guard = none := by
      have := List.all_eq_true.1 hg o (List.mem_of_getElem? hk)
      simpa using this
    refine wpList_plain ho fun K hK => ?_
    refine Oper.wp_mono (fun a' w' hI' => hK _ _ (wpList_inv I all hg step done rest (k + 1) (upd b k) a' w' hd ?_ ?_ hI')) (step k o b a w hk hI (hn k (Nat.le_refl _)) hb)
    · intro j hj
      unfold upd
      by_cases e : j = k
      · simp [e]
      · simp [hb j (by omega)]
    · intro j hj
      unfold upd
      have : j ≠ k := by omega
      simp [this, hn j (by omega)]
theorem wp_region_seq {P : Program} {id : Nat} {ops : List Oper} {Q : Exit → Act → World → Prop} {a : Act} {w : World} (I : (Nat → Bool) → Act → World → Prop) (hg : (ops.all fun o => o.guard.isNone) = true)
    (start : I (fun _ => false) a w)
    (step : ∀ i o b a w, ops[i]? = some o → I b a w → b i = false → (∀ j, j < i → b j = true) → o.wp P a w (I (upd b i)) Q)
    (done : ∀ b a w, (∀ j, j < ops.length → b j = true) → I b a w → Q .normal a w) : (Code.region id ops.toArray false).wp P Q a w :=
  wp_region_list (by
    simpa using wpList_inv (ops := ops.toArray) I ops hg step done ops 0 (fun _ => false) a w rfl (fun j hj => absurd hj (by omega)) (fun _ _ => rfl) start)

/-- As wp_region_inv; beside it each step is told that what has been done is closed: with an operation all is done that it waits for. -/
theorem wp_region_inv2 {P : Program} {id : Nat} {ops : List Oper} {Q : Exit → Act → World → Prop} {a : Act} {w : World} (I : (Nat → Bool) → Act → World → Prop) (hm : P.follows .mixedOrders = true) (hA : aheadB ops.toArray = true)
    (start : I (fun _ => false) a { w with drawn := w.drawn + 1 })
    (step : ∀ i o b a w, ops[i]? = some o → I b a w → b i = false → (∀ e ∈ o.after, Region.binds .any e = true → b e.on = true) → (∀ j o', ops[j]? = some o' → b j = true → ∀ e ∈ o'.after, Region.binds .any e = true → b e.on = true) → o.wp P a w (I (upd b i)) Q)
    (done : ∀ b a w, (∀ j, j < ops.length → b j = true) → I b a w → Q .normal a w) : (Code.region id ops.toArray true).wp P Q a w := by
  refine wp_region_inv (fun b a w => I b a w ∧ ∀ j o', ops[j]? = some o' → b j = true → ∀ e ∈ o'.after, Region.binds .any e = true → b e.on = true) hm hA ⟨start, fun _ _ _ h => absurd h (by simp)⟩ ?_ (fun b a w hj hI => done b a w hj hI.1)
  intro i o b a w ho hI hb hr
  refine Oper.wp_mono (fun a' w' hI' => ⟨hI', ?_⟩) (step i o b a w ho hI.1 hb hr hI.2)
  intro j o' ho' hj e he hbd
  unfold upd at hj ⊢
  by_cases hji : j = i
  · subst hji
    rw [ho] at ho'
    injection ho' with ho'
    subst ho'
    simp [hr e he hbd]
  · simp only [hji, decide_false, Bool.false_or] at hj
    simp [hI.2 j o' ho' hj e he hbd]

theorem chain {ops : List Oper} {b : Nat → Bool} (hc : ∀ j o', ops[j]? = some o' → b j = true → ∀ e ∈ o'.after, Region.binds .any e = true → b e.on = true) (j k : Nat) {o' : Oper} (ho : ops[j]? = some o') (hj : b j = true)
    (hk : (o'.after.any fun e => Region.binds .any e && decide (e.on = k)) = true) : b k = true := by
  obtain ⟨e, he, h⟩ := Array.any_eq_true'.1 hk
  simp only [Bool.and_eq_true, decide_eq_true_eq] at h
  rw [← h.2]
  exact hc j o' ho hj e he h.1

theorem wpList_of_quiet {P : Program} {ops : Array Oper} {C : World → Prop} {Q : Exit → Act → World → Prop} (l2 : List Oper) : ∀ (l1 : List Oper) (a : Act) (w : World), C w →
    wpQuiet P ops C (fun a' => ∀ w', C w' → wpList P ops Q l2 a' w') l1 a → wpList P ops Q (l1 ++ l2) a w
  | [], a, w, hw, h => h w hw
  | o :: rest, a, w, hw, h => by
    show wpList P ops Q (o :: (rest ++ l2)) a w
    unfold wpList
    unfold wpQuiet at h
    split
    · rename_i hg
      rw [if_pos hg] at h
      exact .inl (Oper.wp_of_quiet (C := C) hw (fun a' w' hw' ha' => wpList_of_quiet l2 rest a' w' hw' ha') h)
    · rename_i hg
      rw [if_neg hg] at h
      exact wpList_of_quiet l2 rest _ w hw h
/-- The first n operations of a plain region, over a class. -/
theorem wp_region_head {P : Program} {id : Nat} {ops : List Oper} {C : World → Prop} {Q : Exit → Act → World → Prop} {a : Act} {w : World} (n : Nat) (hw : C w)
    (h : wpQuiet P ops.toArray C (fun a' => ∀ w', C w' → wpList P ops.toArray Q (ops.drop n) a' w') (ops.take n) a) : (Code.region id ops.toArray false).wp P Q a w := by
  refine wp_region_list ?_
  have := wpList_of_quiet (C := C) (ops.drop n) (ops.take n) a w hw h
  rwa [List.take_append_drop] at this
/-! ### A block that is an array of integers -/
def vs (k : IntKind) (l : List Int) : Array Value := (l.map (Value.int k)).toArray
def Ar (w : World) (g : Nat) (t : TypeId) (k : IntKind) (l : List Int) : Prop := w.heap[g]? = some (.cells (vs k l) t (0, 0))

theorem vs_size (k : IntKind) (l : List Int) : (vs k l).size = l.length := by simp [vs]
theorem vs_get (k : IntKind) (l : List Int) (i : Nat) : (vs k l)[i]? = (l[i]?).map (Value.int k) := by simp [vs]
theorem vs_all (k : IntKind) (l : List Int) : ((vs k l).all (·.oneCell')) = true := by
  apply Array.all_eq_true_iff_forall_mem.2
  intro v hv
  simp only [vs, List.mem_toArray, List.mem_map] at hv
  obtain ⟨x, _, rfl⟩ := hv
  rfl
theorem vs_set (k : IntKind) (l : List Int) (i : Nat) (x : Int) : (vs k l).setIfInBounds i (.int k x) = vs k (l.set i x) := by
  apply Array.toList_inj.1
  simp [vs, List.map_set]
section
variable {w w' : World} {g : Nat} {t : TypeId} {k : IntKind} {l : List Int}
theorem Ar.lt (h : Ar w g t k l) : g < w.heap.size := heap_lt h
theorem Ar.cell (h : Ar w g t k l) {i : Nat} {x : Int} (hx : l[i]? = some x) : w.cell? ⟨g, i, none⟩ = some (.int k x) := by
  rw [cell_of_row w g i _ _ _ h, vs_get, hx]
  rfl
theorem Ar.frozen (h : Ar w g t k l) (i : Nat) : w.frozen? ⟨g, i, none⟩ = false := frozen_of_row _ _ _ _ _ h
theorem Ar.set (h : Ar w g t k l) (i : Nat) (x : Int) : Ar (w.setCell ⟨g, i, none⟩ (.int k x)) g t k (l.set i x) := by
  show _ = _
  rw [heap_setCell_same w g i _ _ _ h, vs_set]
theorem Ar.far (h : Ar w g t k l) {a : Addr} (ha : g ≠ a.block) (v : Value) : Ar (w.setCell a v) g t k l := (heap_setCell_other _ _ _ _ ha).trans h
theorem Ar.fr {S : Nat → Prop} (h : Ar w g t k l) (hf : Fr S w w') (hs : ¬ S g) : Ar w' g t k l := (hf.block _ h.lt hs).trans h
theorem Ar.drew (h : Ar w g t k l) : Ar w.drew g t k l := h
theorem Ar.drewN (h : Ar w g t k l) (n : Nat) : Ar (w.drewN n) g t k l := h
theorem Ar.alloc (h : Ar w g t k l) (o : Obj) : Ar (w.alloc o) g t k l := (Below.heap_alloc w o g h.lt).trans h
theorem Ar.row (h : Ar w g t k l) (m : List Int) : Ar (w.setRow g (vs k m)) g t k m := setRow_heap _ _ _ _ _ _ h
theorem Ar.rowFar (h : Ar w g t k l) {g' : Nat} (hg : g ≠ g') (cs : Array Value) : Ar (w.setRow g' cs) g t k l := (setRow_other _ _ _ _ hg).trans h
end
theorem Ar.new (w : World) (t : TypeId) (k : IntKind) (l : List Int) : Ar (w.alloc (.cells (vs k l) t)) w.heap.size t k l := heap_alloc_new w _
theorem Ar.alloc1 (w : World) (t t' : TypeId) (k k' : IntKind) (l l' : List Int) : Ar ((w.alloc (.cells (vs k l) t)).alloc (.cells (vs k' l') t')) (w.heap.size + 1) t' k' l' := by
  have h := Ar.new (w.alloc (.cells (vs k l) t)) t' k' l'
  rwa [show (w.alloc (.cells (vs k l) t)).heap.size = w.heap.size + 1 by simp] at h
theorem getD_some {l : List Int} {i : Nat} (h : i < l.length) : l[i]? = some (l.getD i 0) := by
  rw [List.getD_eq_getElem?_getD, List.getElem?_eq_getElem h]
  rfl

theorem Calm.ar {w0 w : World} {g : Nat} {t : TypeId} {k : IntKind} {l : List Int} (h : Ar w0 g t k l) (hw : Calm w0 w) : w.heap[g]? = some (.cells (vs k l) t (0, 0)) := h.fr hw (fun x => x)
theorem calm2 {w : World} {A B : Obj} {W0 : World} (h : (w.alloc A).alloc B = W0) : W0.heap[w.heap.size]? = some A ∧ W0.heap[w.heap.size + 1]? = some B ∧ Fr (fun _ => False) w W0 := by
  subst h
  have s1 : (w.alloc A).heap.size = w.heap.size + 1 := by simp
  have e1 := heap_alloc_new (w.alloc A) B
  rw [s1] at e1
  exact ⟨(Below.heap_alloc _ B _ (by rw [s1]; omega)).trans (heap_alloc_new w A), e1, ((Fr.refl _ _).alloc _).alloc _⟩
theorem run_load_row {P : Program} (w : World) (g : Nat) (t ty : TypeId) (cs : Array Value) (fr : Nat × Nat) (d : TypeDesc) (hg : w.heap[g]? = some (.cells cs t fr))
    (hu : P.underlying ty = some d) (hd : (match d with | .struct _ | .array _ _ => true | _ => false) = true) (hi : (P.info? ty).map (·.size) = some cs.size) :
    (Instr.loadAt ty (.pointer (some ⟨g, 0, none⟩))).run P w = .ok (.agg cs) w := by
  simp only [Instr.loadAt, Instr.sureAddr, Sem.run_bind, Sem.run_pure, Result.andThen_ok, run_loadVar_row w g t ty cs fr d hg hu hd hi]
theorem run_store_row {P : Program} (w : World) (g : Nat) (t ty : TypeId) (old cells : Array Value) (hg : w.heap[g]? = some (.cells old t (0, 0))) (hi : (P.info? ty).map (·.size) = some cells.size)
    (ho : old.size = cells.size) (h1 : cells.all (·.oneCell') = true) :
    (Instr.storeAt ty (.pointer (some ⟨g, 0, none⟩)) (.agg cells)).run P w = .ok () (w.setRow g cells) := by
  simp only [Instr.storeAt, Instr.sureAddr, Sem.run_bind, Sem.run_pure, Result.andThen_ok, run_storeVar_row w g t ty old cells hg hi ho h1]
/-- A list that is filled from its head on. -/
def fil {α : Type} (L : List α) (k : Nat) (x : α) : List α := L.take k ++ List.replicate (L.length - k) x
theorem fil_length {α : Type} (L : List α) (k : Nat) (x : α) (h : k ≤ L.length) : (fil L k x).length = L.length := by simp [fil]; omega
theorem fil_zero {α : Type} (L : List α) (x : α) : fil L 0 x = List.replicate L.length x := by simp [fil]
theorem fil_all {α : Type} (L : List α) (x : α) : fil L L.length x = L := by simp [fil]
theorem fil_set {α : Type} (L : List α) (k : Nat) (x y : α) (h : L[k]? = some y) : (fil L k x).set k y = fil L (k + 1) x := by
  have hk : k < L.length := (List.getElem?_eq_some_iff.1 h).1
  have hy : L[k] = y := by rw [List.getElem?_eq_getElem hk] at h; injection h
  unfold fil
  rw [List.take_succ_eq_append_getElem hk, hy, List.set_append_right _ _ (by rw [List.length_take]; omega), List.length_take, Nat.min_eq_left (by omega), Nat.sub_self]
  rw [show L.length - k = (L.length - (k + 1)) + 1 by omega, List.replicate_succ, List.set_cons_zero, List.append_assoc]
  rfl
theorem fil_bs (L : List Int) (k : Nat) (y : Int) (h : L[k]? = some y) : (bs (fil L k 0)).toArray.setIfInBounds k (.int .u8 y) = (bs (fil L (k + 1) 0)).toArray := by
  apply Array.toList_inj.1
  rw [← fil_set L k 0 y h]
  simp [bs, List.map_set]
theorem bs_all (l : List Int) : ((bs l).toArray.all (·.oneCell')) = true := Array.all_eq_true_iff_forall_mem.2 (fun v hv => bs_one l v (by simpa using hv))
theorem run_eqItems_ints {P : Program} (d : Nat) {e : TypeId} {k' k : IntKind} (he : P.underlying e = some (.int k')) (hp : P.plainKey e = true) (hc : P.cellsOf e = 1) (l m : List Int) (w : World) :
    ∀ is : List Nat, (∀ i ∈ is, i < l.length ∧ i < m.length) →
      (Op.eqItems (d + 1) e (P.cellsOf e) (l.map (Value.int k)).toArray (m.map (Value.int k)).toArray is).run P w = .ok (decide (∀ i ∈ is, l[i]? = m[i]?)) w
  | [], _ => by simp [Op.eqItems]
  | i :: is, h => by
    have h0 := h i (by simp)
    have ih := run_eqItems_ints (k := k) d he hp hc l m w is (fun j hj => h j (by simp [hj]))
    have p1 := run_part_plain w hp (xs := (l.map (Value.int k)).toArray) (off := i * P.cellsOf e) (v := .int k l[i]) (by simp [hc, h0.1])
    have p2 := run_part_plain w hp (xs := (m.map (Value.int k)).toArray) (off := i * P.cellsOf e) (v := .int k m[i]) (by simp [hc, h0.2])
    have p3 := run_equalIn_int (P := P) w d e k k' l[i] m[i] he
    simp only [Op.eqItems, Sem.run_bind, p1, p2, p3, Result.andThen_ok]
    by_cases hx : l[i] = m[i]
    · have hb : (l[i] == m[i]) = true := by simpa using hx
      have hs : l[i]? = m[i]? := by rw [List.getElem?_eq_getElem h0.1, List.getElem?_eq_getElem h0.2, hx]
      rw [hb]
      simp only [Bool.not_true, Bool.false_eq_true, if_false, ih]
      congr 1
      simp [hs]
    · have hb : (l[i] == m[i]) = false := by simpa using hx
      have hs : ¬ l[i]? = m[i]? := by rw [List.getElem?_eq_getElem h0.1, List.getElem?_eq_getElem h0.2]; simpa using hx
      rw [hb]
      simp only [Bool.not_false, if_true, Sem.run_pure]
      congr 1
      simp [hs]

theorem run_equalIn_ints {P : Program} (d : Nat) {t e : TypeId} {k' k : IntKind} {n : Nat} {i : TypeInfo} (hu : P.underlying t = some (.array n e)) (hi : P.info? e = some i) (he : P.underlying e = some (.int k')) (hp : P.plainKey e = true) (hc : P.cellsOf e = 1) (l m : List Int) (hl : l.length = n) (hm : m.length = n) (w : World) :
    (Op.equalIn (d + 2) t (.agg (l.map (Value.int k)).toArray) (.agg (m.map (Value.int k)).toArray)).run P w = .ok (decide (l = m)) w := by
  rw [run_equalIn_array w (d + 1) _ _ hu hi, run_eqItems_ints d he hp hc l m w _ (fun j hj => by simp at hj; omega)]
  congr 1
  apply decide_eq_decide.2
  constructor
  · intro h
    apply List.ext_getElem?
    intro j
    by_cases hj : j < n
    · exact h j (by simpa using hj)
    · rw [List.getElem?_eq_none (by omega), List.getElem?_eq_none (by omega)]
  · rintro rfl j _
    rfl
theorem vs_bs (l : List Int) : vs .u8 l = (bs l).toArray := rfl
section
variable {P : Program} {C : World → Prop} {a : Act} {o : Oper} {K : Act → Prop}
/-- A cell of an array of integers is loaded. -/
theorem quiet_cell (x : Operand) (e : TypeId) (k : IntKind) (ho : o.op = .load e x) (q i : Nat) (hx : a.eval x = .pointer (some ⟨q, i, none⟩)) (l : List Int) (y : Int) (hl : l[i]? = some y) (t : TypeId) (hg : ∀ w, C w → Ar w q t k l) (he : P.underlying e = some (.int k))
    (hk : K (a.put o.dst (.int k y))) : o.quiet P a C K := by
  refine quiet_run _ (fun w hw => ?_) hk
  have hc := (hg w hw).cell hl
  unfold execOp
  simp [ho, hx, Instr.loadAt, Instr.sureAddr, loadVar, isAgg, run_underlying he, hc, Sem.run_bind, Sem.run_pure, Result.andThen_ok]
end
end Go.Proofs.Ytebknlhooijkcaa

/- The reference's CopyBytes, EqBytes: contracts. Conditions: slices that lie in memory, not more bytes than a machine has. -/
namespace Go.Proofs.Ytebknlhooijkcaa
set_option linter.unusedSimpArgs false
set_option linter.unusedVariables false
open Go.RowKit

theorem Try.info5 : (Try.prog.info? 5).map (fun i => (i.zero, i.size, i.bytes)) = some (some (.int .u8 0), 1, 1) := by kernel_rfl
theorem size5 : (Try.prog.info? 5).map (·.size) = some 1 := by kernel_rfl
theorem Sl.len {w : World} {g : Nat} {A : Option Addr} {n c : Nat} {l : List Int} (h : Sl w g (.slice A n c) l) : l.length = n := by
  obtain ⟨_, A', c', e, _⟩ := h; injection e with _ e2; exact e2.symm
theorem Sl.at_ {w : World} {g : Nat} {A : Option Addr} {n c : Nat} {l : List Int} (h : Sl w g (.slice A n c) l) (hn : 0 < n) : ∃ o, A = some ⟨g, o, none⟩ ∧ ∀ k, k < n → w.cell? ⟨g, o + k, none⟩ = some (.int .u8 (l.getD k 0)) := by
  have hl := h.len
  obtain ⟨_, A', c', e, _, _, hx⟩ := h
  injection e with e1 e2 e3
  subst e1
  obtain ⟨o, rfl, _, hcell⟩ := hx (by rintro rfl; simp at hl; omega)
  refine ⟨o, rfl, fun k hk => hcell k _ ?_⟩
  rw [List.getD_eq_getElem?_getD, List.getElem?_eq_getElem (by omega)]
  rfl

set_option maxHeartbeats 800000 in
theorem eqBytes_ne (A B : Option Addr) (n m c d : Nat) (w : World) (h : n ≠ m) (hn : n ≤ maxLen) (hm : m ≤ maxLen) :
    Calls Try.prog 14 #[.slice A n c, .slice B m d] w fun e w' => e = .returned (.bool false) ∧ w = w' := by
  unfold maxLen at hn hm
  have hb : ((n : Int) != (m : Int)) = true := by simp; omega
  go_enter Try.func14, Try.ntmps14
  go_wp2
  go_ret
  exact ⟨rfl, rfl⟩

theorem take_eq_of (l k : List Int) (n : Nat) (hl : l.length = n) (hk : k.length = n) (h : ∀ j, j < n → l.getD j 0 = k.getD j 0) : l = k := by
  apply List.ext_getElem (by omega)
  intro j h1 h2
  have := h j (by omega)
  simpa [List.getD_eq_getElem?_getD, List.getElem?_eq_getElem h1, List.getElem?_eq_getElem h2] using this

set_option maxHeartbeats 800000 in
theorem eqBytes_same (g1 g2 : Nat) (A B : Option Addr) (n c d : Nat) (l k : List Int) (w : World) (h1 : Sl w g1 (.slice A n c) l) (h2 : Sl w g2 (.slice B n d) k) (hn : n ≤ maxLen) :
    Calls Try.prog 14 #[.slice A n c, .slice B n d] w fun e w' => e = .returned (.bool (decide (l = k))) ∧ ∃ q, w' = w.drewN q := by
  unfold maxLen at hn
  have hl := h1.len
  have hk := h2.len
  have hb : ((n : Int) != (n : Int)) = false := by simp
  rcases Nat.eq_zero_or_pos n with h0 | h0
  · subst h0
    have el : l = [] := List.eq_nil_of_length_eq_zero hl
    have ek : k = [] := List.eq_nil_of_length_eq_zero hk
    subst el ek
    clear h1 h2 hl hk
    go_enter Try.func14, Try.ntmps14
    go_wp2
    go_rounds 1
    go_ret
    exact ⟨by simp, 0, rfl⟩
  · obtain ⟨o1, rfl, hc1⟩ := h1.at_ h0
    obtain ⟨o2, rfl, hc2⟩ := h2.at_ h0
    have HL := Lib.hid hl
    have HK := Lib.hid hk
    have H1 := Lib.hid hc1
    have H2 := Lib.hid hc2
    clear hl hk hc1 hc2 h1 h2
    go_enter Try.func14, Try.ntmps14
    go_wp2
    go_loopw [5] (fun i wr => ∃ j q : Nat, j ≤ n ∧ i = .int .i64 j ∧ (∀ t, t < j → l.getD t 0 = k.getD t 0) ∧ wr = w.drewN q) (fun i _ => n - (intOf i).toNat)
    case atStart => exact ⟨0, 0, Nat.zero_le _, rfl, fun t ht => absurd ht (by omega), rfl⟩
    case round =>
      obtain ⟨j, q, hj, rfl, he, rfl⟩ := hrel
      have HE := Lib.hid he
      clear he
      by_cases hlt : j < n
      · have c1 := H1.out j hlt
        have c2 := H2.out j hlt
        go_wp2
        go_quiet (fail)
        go_wp2
        · have hne : (l[j]?.getD 0 != k[j]?.getD 0) = true := by assumption
          go_ret
          refine ⟨?_, q + nq, World.drewN_drewN _ _ _⟩
          have hd : decide (l = k) = false := by
            rw [decide_eq_false_iff_not]
            rintro rfl
            simp at hne
          rw [hd]; rfl
        · have heq : (l[j]?.getD 0 != k[j]?.getD 0) = false := by assumption
          have heq' : l.getD j 0 = k.getD j 0 := by simpa using heq
          refine ⟨⟨j + 1, _, by omega, by go_num, fun t ht => ?_, rfl⟩, by simp [intOf]; omega⟩
          rcases Nat.lt_or_ge t j with h | h
          · exact HE.out t h
          · have e : t = j := by omega
            rw [e]; exact heq'
      · go_wp2
        go_ret
        refine ⟨?_, _, rfl⟩
        have e : l = k := take_eq_of l k n HL.out HK.out (fun t ht => HE.out t (by omega))
        rw [e]; simp

theorem eqBytes_any (g1 g2 : Nat) (A B : Option Addr) (n m c d : Nat) (l k : List Int) (w : World) (h1 : Sl w g1 (.slice A n c) l) (h2 : Sl w g2 (.slice B m d) k) :
    Calls Try.prog 14 #[.slice A n c, .slice B m d] w fun e w' => e = .returned (.bool (decide (l = k))) ∧ ∃ q, w' = w.drewN q := by
  have b1 : n ≤ maxLen := by
    have hl := h1.len
    obtain ⟨_, A', c', e, h3, h4, _⟩ := h1
    omega
  have b2 : m ≤ maxLen := by
    have hl := h2.len
    obtain ⟨_, A', c', e, h3, h4, _⟩ := h2
    omega
  by_cases h : n = m
  · subst h
    exact eqBytes_same g1 g2 A B n c d l k w h1 h2 b1
  · refine (eqBytes_ne A B n m c d w h b1 b2).mono ?_
    rintro e w' ⟨rfl, rfl⟩
    refine ⟨?_, 0, rfl⟩
    have hd : decide (l = k) = false := by
      rw [decide_eq_false_iff_not]
      rintro rfl
      exact h (h1.len.symm.trans h2.len)
    rw [hd]
theorem run_app_nil (w : World) (ty : TypeId) (v : Value) (n : Nat) (xs : List Value) (hown : w.ownsRow 0 5 1 v n xs) (c : Nat) : (Builtin.append_ #[22, 22] ty #[v, .slice none 0 c]).run Try.prog w = .ok v w := by
  obtain ⟨i0, hi, hz0, hz1, hz2⟩ := info_parts Try.info5
  rcases hown.2 with ⟨rfl, _⟩ | ⟨g, cap, cur, rfl, _, _, hnc, _⟩
  · simp [Builtin.append_, run_underlying Try.underlying22, sizeOf, typeInfo, hi, Builtin.lenOf, Builtin.firstCells]
  · simp [Builtin.append_, run_underlying Try.underlying22, sizeOf, typeInfo, hi, Builtin.lenOf, Builtin.firstCells, hnc, storeCells]
/-- A row of bytes of the call's own. -/
def Ow (w : World) (v : Value) (l : List Int) : Prop := w.ownsRow 0 5 1 v l.length (bs l) ∧ Bys l
structure Ap2 (w : World) (v : Value) (l k : List Int) (v' : Value) (w' : World) : Prop where
  own : Ow w' v' (l ++ k)
  grown : w.grownBy w' v.ownBlock
  at_ : v'.ownBlock = v.ownBlock ∨ v'.ownBlock = some w.heap.size

theorem Ow.nil (w : World) : Ow w (.slice none 0 0) [] := ⟨World.ownsRow_nil _ _ _ _, Bys.nil⟩
theorem Ow.sl {w : World} {v : Value} {l : List Int} (h : Ow w v l) : Sl w (v.ownBlock.getD 0) v l := by
  obtain ⟨h2, hb⟩ := h
  rcases h2.2 with ⟨hv, h0⟩ | ⟨g, cap, cur, hv, _, hh, hn, hm, hs, ht⟩
  · subst hv
    have : l = [] := List.eq_nil_of_length_eq_zero h0
    subst this
    exact Sl.nil _ _
  · subst hv
    refine Sl.block hb hh (fun j hj => ?_) hn hm
    rw [← ht, List.getElem?_take, if_pos (by omega)]
    simp
theorem Ow.shape {w : World} {v : Value} {l : List Int} (h : Ow w v l) : ∃ A n c, v = .slice A n c ∧ n = l.length := by
  rcases h.1.2 with ⟨hv, h0⟩ | ⟨g, cap, cur, hv, _⟩
  · exact ⟨none, 0, 0, hv, h0.symm⟩
  · exact ⟨_, _, cap, hv, rfl⟩
theorem Ow.keep {w w' : World} {v : Value} {l : List Int} (h : Ow w v l) {S : Nat → Prop} (hf : Fr S w w') (hv : ∀ k, v.ownBlock = some k → ¬ S k) : Ow w' v l := by
  obtain ⟨⟨hl, hx⟩, hb⟩ := h
  refine ⟨⟨hl, ?_⟩, hb⟩
  rcases hx with hx | ⟨g, cap, cur, hv', hb, hh, r⟩
  · exact .inl hx
  · exact .inr ⟨g, cap, cur, hv', hb, (hf.block g (heap_lt hh) (hv g (by rw [hv']; rfl))).trans hh, r⟩

set_option maxRecDepth 100000 in
theorem run_own {w : World} {v : Value} {l : List Int} (ty : TypeId) (h : Ow w v l) {g : Nat} {A : Option Addr} {m c : Nat} {k : List Int} (hs : Sl w g (.slice A m c) k) (hlen : l.length + m ≤ 140737488355328) :
    ∃ A' N c' w', (Builtin.append_ #[22, 22] ty #[v, .slice A m c]).run Try.prog w = .ok (.slice A' N c') w' ∧ Ap2 w v l k (.slice A' N c') w' ∧ N = (l ++ k).length := by
  obtain ⟨i0, hi, hz0, hz1, hz2⟩ := info_parts Try.info5
  have hkl := hs.len
  have main : ∃ v' w', (Builtin.append_ #[22, 22] ty #[v, .slice A m c]).run Try.prog w = .ok v' w' ∧ w'.ownsRow 0 5 1 v' (l ++ k).length (bs (l ++ k)) ∧ w.grownBy w' v.ownBlock ∧ (v'.ownBlock = v.ownBlock ∨ v'.ownBlock = some w.heap.size) := by
    rcases A with _ | ad
    · have hk : k = [] := by
        rcases k with _ | ⟨b, k'⟩
        · rfl
        · obtain ⟨_, A', c', e, _, _, hx⟩ := hs
          injection e with e1
          obtain ⟨o, e2, _⟩ := hx (by simp)
          rw [← e1] at e2; cases e2
      subst hk
      have hm : m = 0 := by simpa using hkl.symm
      subst hm
      refine ⟨v, w, run_app_nil w ty v _ _ h.1 c, by simpa using h.1, World.grownBy.refl w _, .inl rfl⟩
    · have hcells : ∀ j u, (bs k)[j]? = some u → w.cell? (ad.add j) = some u := by
        intro j u hu
        rw [bs_get] at hu
        obtain ⟨b, hb, rfl⟩ := Option.map_eq_some_iff.1 hu
        obtain ⟨_, A', c', e, _, _, hx⟩ := hs
        injection e with e1
        obtain ⟨o, e2, _, hcell⟩ := hx (by rintro rfl; simp at hb)
        rw [← e1] at e2
        injection e2 with e2
        subst e2
        rw [Addr_add_none]
        exact hcell j b hb
      obtain ⟨v', w', hrun, h2, h3, _, h5⟩ := run_append_own_at (P := Try.prog) w 0 22 ty 5 i0 _ 1 1 Try.underlying22 hi hz0 hz1 hz2 rfl (by decide) v l.length (bs l) h.1 ad m c (bs k) (by rw [bs_length]; omega) hcells (bs_one k) (by simp only [maxLen]; omega) (by omega) (Nat.zero_le _)
      refine ⟨v', w', hrun, ?_, h3, h5⟩
      rw [bs_append] at h2
      rw [List.length_append, hkl]
      exact h2
  obtain ⟨v', w', hrun, h2, h3, h5⟩ := main
  obtain ⟨A', N, c', rfl, hN⟩ := Ow.shape (l := l ++ k) ⟨h2, h.2.append hs.1⟩
  exact ⟨A', N, c', w', hrun, ⟨⟨h2, h.2.append hs.1⟩, h3, h5⟩, hN⟩

theorem wpList_own {ops : Array Oper} {rest : List Oper} {o : Oper} {a : Act} {w : World} {Q : Exit → Act → World → Prop} (hgd : o.guard = none) (s x : Operand)
    (ho : o.op = .call { callee := .builtin .append, args := #[s, x], argTypes := #[22, 22] })
    {v : Value} {l : List Int} (h : Ow w v l) (hsv : a.eval s = v) {g : Nat} {A : Option Addr} {m c : Nat} {k : List Int} (hx : a.eval x = .slice A m c) (hs : Sl w g (.slice A m c) k) (hlen : l.length + m ≤ 140737488355328)
    (hK : ∀ A' N c' w', Ap2 w v l k (.slice A' N c') w' → N = (l ++ k).length → wpList Try.prog ops Q rest (a.put o.dst (.slice A' N c')) w') : wpList Try.prog ops Q (o :: rest) a w := by
  refine wpList_plain hgd fun K hk => ?_
  obtain ⟨A', N, c', w', hrun, hap, hN⟩ := run_own o.type h hs hlen
  unfold Oper.wp execOp
  simp only [ho, resolve, invoke, builtin, Sem.run_bind, Sem.run_pure, Result.andThen_ok, List.map_toArray, List.map_cons, List.map_nil, hsv, hx, hrun]
  exact hk _ _ (hK A' N c' w' hap hN)
theorem step_own {ops : Array Oper} {o : Oper} {a : Act} {w : World} {K : Act → World → Prop} {Q : Exit → Act → World → Prop} {E : Prop} (hgd : o.guard = none) (s x : Operand)
    (ho : o.op = .call { callee := .builtin .append, args := #[s, x], argTypes := #[22, 22] })
    {v : Value} {l : List Int} (h : Ow w v l) (hsv : a.eval s = v) {g : Nat} {A : Option Addr} {m c : Nat} {k : List Int} (hx : a.eval x = .slice A m c) (hs : Sl w g (.slice A m c) k) (hlen : l.length + m ≤ 140737488355328)
    (hK : ∀ A' N c' w', Ap2 w v l k (.slice A' N c') w' → N = (l ++ k).length → K (a.put o.dst (.slice A' N c')) w') :
    if Region.wanted o (yielded ops a.tmps) = true then Oper.wp Try.prog o a w K Q else E := by
  have hw : Region.wanted o (yielded ops a.tmps) = true := by simp [Region.wanted, hgd]
  rw [if_pos hw]
  obtain ⟨A', N, c', w', hrun, hap, hN⟩ := run_own o.type h hs hlen
  unfold Oper.wp execOp
  simp only [ho, resolve, invoke, builtin, Sem.run_bind, Sem.run_pure, Result.andThen_ok, List.map_toArray, List.map_cons, List.map_nil, hsv, hx, hrun]
  exact hK A' N c' w' hap hN

set_option maxHeartbeats 400000 in
theorem copyBytes_any (g : Nat) (A : Option Addr) (n c : Nat) (l : List Int) (w : World) (hs : Sl w g (.slice A n c) l) (hn : n ≤ 140737488355328) :
    Calls Try.prog 11 #[.slice A n c] w fun e w' => ∃ A' c', e = .returned (.slice A' n c') ∧ Ow w' (.slice A' n c') l ∧ (∀ k, (Value.slice A' n c').ownBlock = some k → w.heap.size ≤ k) ∧ Fr (fun _ => False) w w' := by
  have HS := Lib.hid hs
  have HN := Lib.hid hs.len
  clear hs
  go_enter Try.func11, Try.ntmps11
  go_wp2_with (at_builtin; refine wpList_own rfl (.tmp 4) (.tmp 5) rfl (Ow.nil w) rfl rfl HS.out (by simpa using hn) ?_; intro A2 N2 c2 w2 hap hN2; have HN2 := Lib.hid hN2; clear hN2)
  go_ret
  have e : N2 = n := by rw [HN2.out]; simpa using HN.out
  subst e
  refine ⟨A2, c2, rfl, hap.own, fun k hk => ?_, (Fr.refl _ w).grown hap.grown (fun k hk => by cases hk)⟩
  rcases hap.at_ with e | e
  · rw [e] at hk; cases hk
  · rw [e] at hk; injection hk with hk; omega
theorem run_mk (n : Nat) (hn : n ≤ 140737488355328) : ∀ W : World, (Instr.makeSlice 22 (.int .i64 (n : Int)) (.int .i64 (n : Int))).run Try.prog W = .ok (.slice (some ⟨W.heap.size, 0, none⟩) n n) (W.alloc (.cells (List.replicate n (Value.int .u8 0)).toArray 5)) := by
  intro W
  obtain ⟨i0, hi, hz0, hz1, hz2⟩ := info_parts Try.info5
  have h := run_make (P := Try.prog) W 22 5 i0 _ Try.underlying22 hi hz0 .i64 .i64 (n : Int) (n : Int) (by omega) (by omega) (by rw [hz2]; omega) (by omega)
  simp only [Int.toNat_natCast] at h
  rw [h]
  congr 3
  apply Array.toList_inj.1
  rw [hz1, Nat.mul_one]
  exact toList_madeCells_one _ _
end Go.Proofs.Ytebknlhooijkcaa

/- From a walk of a law to its row: the law answers true and nothing that was there has turned; arguments that are arrays or slices of bytes. Lemmas alone. -/
namespace Go.Proofs.Ytebknlhooijkcaa
open Go.ChangeShapes Go.WideShapes Go.ChangeAt Go.RowKit

theorem own : ownKnob Try.prog.godebug = none := by kernel_rfl
theorem laidOut : laidOutB Try.prog = true := by kernel_rfl

def rowed (P : Program) (ts : List TypeId) : Bool := ts.all fun t => P.readableRec t && decide (t < P.types.size)

/-- Arguments read behind the call as they did, where nothing that was there has turned. -/
theorem trodAll_below {H : Type} {enc : TypeId × Value → H} {P : Program} (hl : laidOutB P = true) {W W' : World} (hb : Below W.heap.size W W') :
    ∀ {ts : List TypeId} {vs : List Value} {ds : List (DataW H)} {ps : List MemPlace}, rowed P ts = true → DataW.TrodAll enc P W 0 (fun _ => true) true ts vs ds ps → (∀ x ∈ ps, x.block < W.heap.size) →
      DataW.TrodAll enc P W' 0 (fun b => decide (b < W.heap.size)) true ts vs ds ps
  | [], _, _, _, _, h, _ => by
    obtain ⟨rfl, rfl, rfl⟩ := trodAll_nil h
    exact trodAll_mk0
  | t :: ts, _, _, _, hr, h, hlt => by
    obtain ⟨v, vs', d, ds', p, q, rfl, rfl, rfl, h1, h2⟩ := trodAll_cons h
    simp only [rowed, List.all_cons, Bool.and_eq_true, decide_eq_true_eq] at hr
    exact trodAll_cons_mk (Below.trod hl hr.1.1 hr.1.2 h1 hb (fun x hx => hlt x (List.mem_append_left _ hx)))
      (trodAll_below hl hb (by simpa [rowed] using hr.2) h2 (fun x hx => hlt x (List.mem_append_right _ hx)))

theorem post_true {H : Type} {enc : TypeId × Value → H} {f : Func} {s : ChangeSpec} {W W' : World} {args : Array Value} {ds : List (DataW H)} {before : List MemPlace}
    (hv : s.vars = []) (hW : DataW.Whole enc Try.prog f.params.toList s.vars false W args.toList ds [] before) (hr : rowed Try.prog f.params.toList = true) (hres : f.resultTypes = #[4])
    (hs : s.fn H (ds ++ []) = { results := [.lit (.bool true)], args := ds }) (hb : Fr (fun _ => False) W W') : s.post enc Try.prog f false true false false W args (.bool true) W' := by
  have hlt : ∀ p ∈ before, p.block < W.heap.size := fun p hp => hW.lt p hp
  have hW' := hW
  obtain ⟨p, q, hA, hV, rfl, _, _⟩ := hW
  rw [hv] at hV
  obtain ⟨_, rfl⟩ := trodVars_none hV
  refine ⟨ds, [], _, [], p, [], hW', ?_, ?_, ?_, World.keptBut_mono (fun x hx => ⟨hx, .inr (.inl (by simpa using hx))⟩) (hb.below.frame (· ∈ p ++ [])), fun h => by cases h⟩
  · rw [hs, hres]
    exact trodAll_mk1 (shut_bool Try.underlying4 _)
  · rw [hs]
    exact trodAll_below laidOut hb.below hr hA (fun x hx => hlt x (by simpa using hx))
  · rw [hs, hv]
    rfl

/-- An array of integers, opened. -/
theorem open_ints_arr {H : Type} {enc : TypeId × Value → H} {P : Program} {W : World} {base b0 : Nat} {sp : Nat → Bool} {held : Bool} {r : Reach} {t e : TypeId} {n : Nat} {k : IntKind} {v : Value} {d : DataW H} {ps : List MemPlace}
    (ht : P.underlying t = some (.array n e)) (he : P.underlying e = some (.int k)) (hce : P.cellsOf e = 1) (hct : P.cellsOf t = n)
    (hv : Value.okWide P W r b0 t v) (h : DataW.Trod enc P W base sp held t v d ps) : ∃ l : List Int, v = .agg (vs k l) ∧ l.length = n ∧ ∀ x ∈ l, (Lit.int k x).wf = true := by
  obtain ⟨cs, rfl, hsz, _⟩ : ∃ cs, v = .agg cs ∧ cs.size = P.cellsOf t ∧ Row.okWide P W r b0 t cs := by simpa [Value.okWide, ht] using hv
  rw [hct] at hsz
  obtain ⟨fuel, hf⟩ := h
  obtain ⟨xs, m, _, _, _, hl, hel⟩ := DataW.trod_array ht hf
  simp only [Value.cells, hce, Nat.mul_one] at hel
  have hcell : ∀ i (hi : i < cs.toList.length), ∃ x, cs.toList[i] = .int k x ∧ (Lit.int k x).wf = true := by
    intro i hi
    have hi' : i < n := by simp at hi; omega
    have h1 := hel i hi'
    rw [List.getElem?_eq_getElem (by omega)] at h1
    obtain ⟨x, ex, _, wx⟩ := DataW.trod_int he h1
    rw [List.drop_eq_getElem_cons hi] at ex
    simp only [List.take_succ_cons, List.take_zero, List.cons.injEq, and_true] at ex
    exact ⟨x, ex, wx⟩
  refine ⟨cs.toList.map intOf, ?_, by simp; omega, ?_⟩
  · congr 1
    apply Array.toList_inj.1
    apply List.ext_getElem
    · simp [vs]
    · intro i h1 h2
      obtain ⟨x, ex, _⟩ := hcell i h1
      simp [vs, ex, intOf]
  · intro x hx
    simp only [List.mem_map] at hx
    obtain ⟨c, hc, rfl⟩ := hx
    obtain ⟨i, hi, rfl⟩ := List.mem_iff_getElem.1 hc
    obtain ⟨x, ex, wx⟩ := hcell i hi
    rw [ex]
    exact wx

theorem Try.cells5 : Try.prog.cellsOf 5 = 1 := by kernel_rfl

theorem wf_u8 {n : Int} (h : (Lit.int .u8 n).wf = true) : 0 ≤ n ∧ n ≤ 255 := by simpa [Lit.wf, IntKind.min, IntKind.max, IntKind.signed, IntKind.bits] using h
theorem wf_i64 {n : Int} (h : (Lit.int .i64 n).wf = true) : -9223372036854775808 ≤ n ∧ n ≤ 9223372036854775807 := by simpa [Lit.wf, IntKind.min, IntKind.max, IntKind.signed, IntKind.bits] using h

theorem open_sl {H : Type} {enc : TypeId × Value → H} {W : World} {base : Nat} {v : Value} {d : DataW H} {ps : List MemPlace} (hv : Value.okWide Try.prog W .any base 22 v) (h : DataW.Trod enc Try.prog W 0 (fun _ => true) true 22 v d ps) (hlt : ∀ x ∈ ps, x.block < W.heap.size) :
    ∃ A n c g l, v = .slice A n c ∧ Sl W g (.slice A n c) l ∧ (l ≠ [] → g < W.heap.size) := by
  obtain ⟨A, n, c, rfl⟩ := okWide_slice Try.underlying22 hv
  obtain ⟨fuel, hf⟩ := h
  rcases open_ints Try.underlying22 Try.underlying5 Try.cells5 hf with ⟨hcs, hx⟩ | ⟨a, len', cap', zs, hcs, _, hl, hm, hz, hx, hcell, hwz⟩
  · simp [Value.cells] at hcs
    obtain ⟨rfl, rfl, rfl⟩ := hcs
    exact ⟨none, 0, 0, 0, [], rfl, Sl.nil _ _, fun h => absurd rfl h⟩
  · simp [Value.cells] at hcs
    obtain ⟨rfl, rfl, rfl⟩ := hcs
    simp only [Prod.mk.injEq] at hx
    obtain ⟨rfl, rfl⟩ := hx
    simp only [if_true] at hz
    have hb : Bys (zs.take n) := fun b hb => wf_u8 (hwz b (List.mem_of_mem_take hb))
    have hlen : (zs.take n).length = n := by rw [List.length_take]; omega
    by_cases h0 : n = 0
    · subst h0
      exact ⟨some a, 0, c, 0, [], rfl, ⟨Bys.nil, _, c, rfl, by simp, hm, fun h => absurd rfl h⟩, fun h => absurd rfl h⟩
    · obtain ⟨b, off, spot⟩ := a
      have hspot : spot = none := by simpa [Addr.add] using World.cell?_spot (hcell 0 (by omega))
      subst hspot
      have hbW : b < W.heap.size := hlt (.cell b off) (MemPlace.mem_row.2 ⟨0, by omega, by simp⟩)
      refine ⟨_, n, c, b, zs.take n, rfl, ⟨hb, _, c, by rw [hlen], by omega, hm, fun _ => ⟨off, rfl, hbW, fun j x hj => ?_⟩⟩, fun _ => hbW⟩
      have hjn : j < n := by
        rcases Nat.lt_or_ge j n with h | h
        · exact h
        · rw [List.getElem?_eq_none (by omega)] at hj; cases hj
      have := hcell j (by omega)
      rw [Addr_add_none] at this
      rw [this]
      rw [List.getElem?_take, if_pos hjn] at hj
      rw [List.getD_eq_getElem?_getD, hj]
      rfl
theorem Try.bytes5 : Try.prog.bytesOf 5 = 1 := by kernel_rfl
theorem open_len {H : Type} {enc : TypeId × Value → H} {W : World} {A : Option Addr} {n c : Nat} {d : DataW H} {ps : List MemPlace} (h : DataW.Trod enc Try.prog W 0 (fun _ => true) true 22 (.slice A n c) d ps) :
    n = 0 ∨ ∃ elems spare, d = .slice elems spare ∧ n ≤ elems.length + spare.length := by
  obtain ⟨fuel, hf⟩ := h
  rcases open_ints Try.underlying22 Try.underlying5 Try.cells5 hf with ⟨hcs, hx⟩ | ⟨a, len', cap', zs, hcs, _, hl, hm, hz, hx, hcell, hwz⟩
  · simp [Value.cells] at hcs
    exact .inl hcs.2.1
  · simp [Value.cells] at hcs
    obtain ⟨rfl, rfl, rfl⟩ := hcs
    simp only [Prod.mk.injEq] at hx
    simp only [if_true] at hz
    refine .inr ⟨_, _, hx.1, ?_⟩
    simp only [lits, List.length_map, List.length_take, List.length_drop]
    omega
end Go.Proofs.Ytebknlhooijkcaa
