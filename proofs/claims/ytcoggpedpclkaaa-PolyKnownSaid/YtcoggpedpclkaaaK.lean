/- Frames, slices and arrays of integers in memory, regions by an invariant over what has been done: definitions and lemmas alone. No condition. -/
import Derived.Test.YtcoggpedpclkaaaProg
import Derived.Below
import Derived.Laws.OwnMore
import Derived.Laws.Rows
import Derived.Laws.Tables
import Derived.Laws.MakeOwn
import Derived.Maps.AppendAt
import Derived.Deep.Draws
import Derived.WalkKit
import Derived.Laws.BitsLemmas
import Derived.Laws.BitsAllLaws
import Derived.Deep.DeepFit
import Derived.Outline
import Derived.RegionTactic
import Derived.BigQuiet
import Derived.Deep.QuietTactic
import Derived.Deep.RegionWith
import Derived.Deep.RegionHeld3
import Derived.Handy
import Derived.Lib.Hide
import Derived.Deep.MidRow
import Derived.Deep.WholeRow
import Derived.Deep.Cut
import Derived.Shelf.Abstract
import Derived.ChangeKeysEq
import Derived.Laws.StructEq
import Derived.Laws.CopyOwn
import Derived.Deep.AppendLies
import Derived.Deep.RegionLaw
namespace Go.Proofs.Ytcoggpedpclkaaa
set_option linter.unusedSimpArgs false
set_option linter.unusedVariables false
open Go.RowKit

/-! ### Bytes -/
def bs (l : List Int) : List Value := l.map (Value.int .u8)
def Bys (l : List Int) : Prop := ∀ b ∈ l, 0 ≤ b ∧ b ≤ 255

theorem bs_length (l : List Int) : (bs l).length = l.length := by simp [bs]
theorem bs_append (l k : List Int) : bs l ++ bs k = bs (l ++ k) := by simp [bs]
theorem bs_one (l : List Int) : ∀ u ∈ bs l, u.oneCell' = true := by
  intro u hu
  simp only [bs, List.mem_map] at hu
  obtain ⟨x, _, rfl⟩ := hu
  rfl
theorem bs_get (l : List Int) (j : Nat) : (bs l)[j]? = (l[j]?).map (Value.int .u8) := by simp [bs]
theorem Bys.append {l k : List Int} (h : Bys l) (h' : Bys k) : Bys (l ++ k) := by
  intro b hb
  rcases List.mem_append.1 hb with h1 | h1
  · exact h b h1
  · exact h' b h1
theorem Bys.nil : Bys [] := by intro b hb; cases hb
theorem Bys.drop {l : List Int} (h : Bys l) (k : Nat) : Bys (l.drop k) := fun b hb => h b (List.mem_of_mem_drop hb)
theorem Bys.take {l : List Int} (h : Bys l) (k : Nat) : Bys (l.take k) := fun b hb => h b (List.mem_of_mem_take hb)

/-! ### Frames: all blocks that were there stay, but for those in S -/
structure Fr (S : Nat → Prop) (w w' : World) : Prop where
  os : w'.os = w.os
  tape : w'.tape = w.tape
  output : w'.output = w.output
  size : w.heap.size ≤ w'.heap.size
  block : ∀ k, k < w.heap.size → ¬ S k → w'.heap[k]? = w.heap[k]?

theorem Fr.refl (S : Nat → Prop) (w : World) : Fr S w w := ⟨rfl, rfl, rfl, Nat.le_refl _, fun _ _ _ => rfl⟩
theorem Fr.trans {S : Nat → Prop} {a b c : World} (h : Fr S a b) (k : Fr S b c) : Fr S a c :=
  ⟨k.os.trans h.os, k.tape.trans h.tape, k.output.trans h.output, Nat.le_trans h.size k.size, fun i hi hs => (k.block i (Nat.lt_of_lt_of_le hi h.size) hs).trans (h.block i hi hs)⟩
/-- The second step may touch what is new since the first world, too. -/
theorem Fr.trans' {S T : Nat → Prop} {a b c : World} (h : Fr S a b) (k : Fr T b c) (hT : ∀ i, i < a.heap.size → T i → S i) : Fr S a c :=
  ⟨k.os.trans h.os, k.tape.trans h.tape, k.output.trans h.output, Nat.le_trans h.size k.size, fun i hi hs => (k.block i (Nat.lt_of_lt_of_le hi h.size) (fun ht => hs (hT i hi ht))).trans (h.block i hi hs)⟩
theorem Fr.weaken {S T : Nat → Prop} {a b : World} (h : Fr S a b) (hT : ∀ i, i < a.heap.size → S i → T i) : Fr T a b :=
  ⟨h.os, h.tape, h.output, h.size, fun i hi hs => h.block i hi (fun x => hs (hT i hi x))⟩
theorem Fr.drew {S : Nat → Prop} {a b : World} (h : Fr S a b) : Fr S a b.drew := ⟨h.os, h.tape, h.output, h.size, h.block⟩
theorem Fr.drewN {S : Nat → Prop} {a b : World} (h : Fr S a b) (n : Nat) : Fr S a (b.drewN n) := ⟨h.os, h.tape, h.output, h.size, h.block⟩
theorem Fr.alloc {S : Nat → Prop} {a b : World} (h : Fr S a b) (o : Obj) : Fr S a (b.alloc o) :=
  ⟨h.os, h.tape, h.output, Nat.le_trans h.size (by simp), fun i hi hs => (Below.heap_alloc b o i (Nat.lt_of_lt_of_le hi h.size)).trans (h.block i hi hs)⟩
theorem Fr.setCell {S : Nat → Prop} {a b : World} (h : Fr S a b) {p : Addr} (u : Value) (hp : S p.block ∨ a.heap.size ≤ p.block) : Fr S a (b.setCell p u) :=
  ⟨h.os, h.tape, h.output, by simpa [World.setCell] using h.size, fun i hi hs => (Below.heap_setCell b p u i (by
    rintro rfl
    rcases hp with hp | hp
    · exact hs hp
    · omega)).trans (h.block i hi hs)⟩
theorem Fr.setRow {S : Nat → Prop} {a b : World} (h : Fr S a b) {g : Nat} (cs : Array Value) (hp : S g ∨ a.heap.size ≤ g) : Fr S a (b.setRow g cs) :=
  ⟨h.os, h.tape, h.output, by simpa using h.size, fun i hi hs => (setRow_other b g i cs (by
    rintro rfl
    rcases hp with hp | hp
    · exact hs hp
    · omega)).trans (h.block i hi hs)⟩
theorem Fr.grown {S : Nat → Prop} {a b c : World} (h : Fr S a b) {row : Option Nat} (hg : b.grownBy c row) (hr : ∀ k, row = some k → S k ∨ a.heap.size ≤ k) : Fr S a c :=
  ⟨hg.os.trans h.os, hg.tape.trans h.tape, hg.output.trans h.output, Nat.le_trans h.size hg.size, fun i hi hs => (hg.block i (Nat.lt_of_lt_of_le hi h.size) (fun e => by
    rcases hr i e.symm with h1 | h1
    · exact hs h1
    · omega)).trans (h.block i hi hs)⟩
theorem Fr.below {a b : World} (h : Fr (fun _ => False) a b) : Below a.heap.size a b := ⟨h.os, h.tape, h.output, h.size, fun k hk => h.block k hk (fun x => x)⟩
theorem Fr.of_below {S : Nat → Prop} {a b : World} (h : Below a.heap.size a b) : Fr S a b := ⟨h.os, h.tape, h.output, h.size, fun k hk _ => h.block k hk⟩
theorem Fr.any {S : Nat → Prop} {a b : World} (h : Fr (fun _ => False) a b) : Fr S a b := h.weaken fun _ _ x => x.elim

theorem heap_lt {w : World} {g : Nat} {o : Obj} (h : w.heap[g]? = some o) : g < w.heap.size := (Array.getElem?_eq_some_iff.1 h).1

theorem Addr_add_block (a : Addr) (n : Nat) : (a.add n).block = a.block := by unfold Addr.add; split <;> rfl
theorem Addr_add_none (g o j : Nat) : (⟨g, o, none⟩ : Addr).add j = ⟨g, o + j, none⟩ := by
  unfold Addr.add
  by_cases h0 : j = 0 <;> simp [h0]

/-! ### A slice of bytes: the value, the block in which it lies (any, where it is empty) -/
def Sl (w : World) (g : Nat) (v : Value) (l : List Int) : Prop :=
  Bys l ∧ ∃ A c, v = .slice A l.length c ∧ l.length ≤ c ∧ c ≤ maxLen ∧ (l ≠ [] → ∃ o, A = some ⟨g, o, none⟩ ∧ g < w.heap.size ∧ ∀ j b, l[j]? = some b → w.cell? ⟨g, o + j, none⟩ = some (.int .u8 b))

theorem Sl.keep {w w' : World} {g : Nat} {v : Value} {l : List Int} (h : Sl w g v l) (hs : w.heap.size ≤ w'.heap.size) (hk : g < w.heap.size → w'.heap[g]? = w.heap[g]?) : Sl w' g v l := by
  obtain ⟨hb, A, c, rfl, hc, hm, hx⟩ := h
  refine ⟨hb, A, c, rfl, hc, hm, fun hl => ?_⟩
  obtain ⟨o, rfl, hg, hcell⟩ := hx hl
  exact ⟨o, rfl, by omega, fun j b hj => (World.cell?_of_block (w := w) (hk hg)).trans (hcell j b hj)⟩
theorem Sl.fr {S : Nat → Prop} {w w' : World} {g : Nat} {v : Value} {l : List Int} (h : Sl w g v l) (hf : Fr S w w') (hn : g < w.heap.size → ¬ S g) : Sl w' g v l := h.keep hf.size fun hg => hf.block g hg (hn hg)
theorem Sl.nil (w : World) (g : Nat) : Sl w g (.slice none 0 0) [] := ⟨Bys.nil, none, 0, rfl, by simp, by simp [maxLen], fun h => absurd rfl h⟩
/-- A block made for these bytes alone. -/
theorem Sl.block {w : World} {g : Nat} {cs : Array Value} {l : List Int} {c : Nat} {t : TypeId} {fr : Nat × Nat} (hb : Bys l) (h : w.heap[g]? = some (.cells cs t fr)) (hcs : ∀ j, j < l.length → cs[j]? = (bs l)[j]?) (hc : l.length ≤ c) (hm : c ≤ maxLen) : Sl w g (.slice (some ⟨g, 0, none⟩) l.length c) l :=
  ⟨hb, _, c, rfl, hc, hm, fun _ => ⟨0, rfl, heap_lt h, fun j b hj => by
    rw [Nat.zero_add, cell_of_row w g j cs t fr h, hcs j (by
      rcases Nat.lt_or_ge j l.length with h1 | h1
      · exact h1
      · rw [List.getElem?_eq_none h1] at hj; cases hj), bs_get, hj]; rfl⟩⟩
theorem Sl.drop {w : World} {g : Nat} {A : Option Addr} {n c : Nat} {l : List Int} (h : Sl w g (.slice A n c) l) (k : Nat) (hk : k ≤ l.length) :
    Sl w g (.slice (if c = k then A else A.map (·.add k)) (l.length - k) (c - k)) (l.drop k) := by
  obtain ⟨hb, A', c', e, hc, hm, hx⟩ := h
  injection e with e1 e2 e3
  subst e1 e2 e3
  refine ⟨hb.drop k, _, _, by rw [List.length_drop], by rw [List.length_drop]; omega, by omega, fun hl => ?_⟩
  have hlen : k < l.length := by
    rcases Nat.lt_or_ge k l.length with h1 | h1
    · exact h1
    · exact absurd (List.drop_eq_nil_of_le h1) hl
  obtain ⟨o, rfl, hg, hcell⟩ := hx (by intro e; rw [e] at hlen; simp at hlen)
  rw [if_neg (by omega)]
  refine ⟨o + k, ?_, hg, fun j b hj => ?_⟩
  · unfold Addr.add
    by_cases h0 : k = 0 <;> simp [h0]
  · rw [Nat.add_assoc]
    exact hcell (k + j) b (by rw [← hj, List.getElem?_drop])
theorem Sl.take {w : World} {g : Nat} {A : Option Addr} {n c : Nat} {l : List Int} (h : Sl w g (.slice A n c) l) (k : Nat) (hk : k ≤ l.length) : Sl w g (.slice A k c) (l.take k) := by
  obtain ⟨hb, A', c', e, hc, hm, hx⟩ := h
  injection e with e1 e2 e3
  subst e1 e2 e3
  refine ⟨hb.take k, _, _, by rw [List.length_take, Nat.min_eq_left hk], by rw [List.length_take]; omega, hm, fun hl => ?_⟩
  obtain ⟨o, rfl, hg, hcell⟩ := hx (by intro e; rw [e] at hl; simp at hl)
  refine ⟨o, rfl, hg, fun j b hj => hcell j b ?_⟩
  rw [List.getElem?_take] at hj
  split at hj
  · exact hj
  · cases hj

/-! ### Regions -/
section
variable {P : Program} {C : World → Prop} {a : Act} {o : Oper} {K : Act → Prop}
/-- A whole array or struct is loaded. -/
theorem quiet_load (ty : TypeId) (x : Operand) (ho : o.op = .load ty x) (g : Nat) (hx : a.eval x = .pointer (some ⟨g, 0, none⟩)) (t : TypeId) (cs : Array Value) (fr : Nat × Nat) (d : TypeDesc)
    (hg : ∀ w, C w → w.heap[g]? = some (.cells cs t fr)) (hu : P.underlying ty = some d) (hd : (match d with | .struct _ | .array _ _ => true | _ => false) = true) (hi : (P.info? ty).map (·.size) = some cs.size)
    (hk : K (a.put o.dst (.agg cs))) : o.quiet P a C K :=
  ⟨.agg cs, fun w hw => by
    unfold Oper.quietAt execOp
    simp only [ho, hx, Instr.loadAt, Instr.sureAddr, Sem.run_bind, Sem.run_pure, Result.andThen_ok, run_loadVar_row w g t ty cs fr d (hg w hw) hu hd hi]
    exact ⟨rfl, rfl⟩, hk⟩
/-- An operation that yields the same whatever the world. -/
theorem quiet_run (v : Value) (h : ∀ w, C w → (execOp a.eval o).run P w = .ok (.value v) w) (hk : K (a.put o.dst v)) : o.quiet P a C K :=
  ⟨v, fun w hw => by
    unfold Oper.quietAt
    rw [h w hw]
    exact ⟨rfl, rfl⟩, hk⟩
/-- A call of a function with a body. -/
theorem quiet_call (f : FuncId) (vals : Array Value) (v : Value) (h : ∀ w, (execOp a.eval o).run P w = .ok (.enter f vals) w) (hc : ∀ w, C w → Calls P f vals w fun e w' => e = .returned v ∧ C w') (hk : K (a.put o.dst v)) : o.quiet P a C K :=
  ⟨v, fun w hw => by
    unfold Oper.quietAt
    rw [h w]
    exact ⟨rfl, hc w hw⟩, hk⟩
end
/-- The class: all that was there stays. -/
def Calm (w0 : World) (w : World) : Prop := Fr (fun _ => False) w0 w
theorem Calm.start (w0 w : World) (h : Fr (fun _ => False) w0 w) : Calm w0 { w with drawn := w.drawn + 1 } := ⟨h.os, h.tape, h.output, h.size, h.block⟩
theorem Calm.calls {P : Program} {f : FuncId} {vals : Array Value} {v : Value} {w0 : World} (hc : ∀ w, Calls P f vals w fun e w' => e = .returned v ∧ Fr (fun _ => False) w w') (w : World) (h : Calm w0 w) : Calls P f vals w fun e w' => e = .returned v ∧ Calm w0 w' :=
  (hc w).mono fun _ _ ⟨he, hf⟩ => ⟨he, Fr.trans h hf⟩
theorem Calm.at {w0 w : World} {g : Nat} {o : Obj} (h : w0.heap[g]? = some o) (hw : Calm w0 w) : w.heap[g]? = some o := (hw.block _ (heap_lt h) (fun x => x)).trans h


/-- What an operation waits for stands ahead of it. -/
def aheadG (ops : Array Oper) : Bool := (List.range ops.size).all fun i => match ops[i]? with
  | none => true
  | some o => o.after.all fun e => !Region.binds .any e || decide (e.on < i)
def upd (b : Nat → Bool) (i : Nat) : Nat → Bool := fun j => decide (j = i) || b j
def unl (n : Nat) (listed : Array Bool) : Nat := ((List.range n).filter fun j => !listed.getD j false).length

theorem unl_set {n i : Nat} {listed : Array Bool} (hs : listed.size = n) (hi : i < n) (hl : listed.getD i false = false) : unl n (listed.setIfInBounds i true) < unl n listed := by
  unfold unl
  have hsub : ∀ l : List Nat, (l.filter fun j => !(listed.setIfInBounds i true).getD j false).length ≤ (l.filter fun j => !listed.getD j false).length ∧ (i ∈ l → (l.filter fun j => !(listed.setIfInBounds i true).getD j false).length < (l.filter fun j => !listed.getD j false).length) := by
    intro l
    induction l with
    | nil => simp
    | cons x r ih =>
      have hx : (listed.setIfInBounds i true).getD x false = if x = i then true else listed.getD x false := by
        by_cases hxi : x = i
        · subst hxi
          rw [if_pos rfl]
          simp [Array.getD_eq_getD_getElem?, Array.getElem?_setIfInBounds, hs, hi]
        · rw [if_neg hxi]
          have : i ≠ x := fun e => hxi e.symm
          simp [Array.getD_eq_getD_getElem?, Array.getElem?_setIfInBounds, this]
      rw [List.filter_cons, List.filter_cons, hx]
      by_cases hxi : x = i
      · subst hxi
        simp only [if_true, hl, Bool.not_true, Bool.not_false, Bool.false_eq_true, if_false, List.length_cons]
        exact ⟨by have := ih.1; omega, fun _ => by have := ih.1; omega⟩
      · rw [if_neg hxi]
        by_cases hb : listed.getD x false = true
        · simp only [hb, Bool.not_true, Bool.false_eq_true, if_false]
          refine ⟨ih.1, fun hm => ih.2 ?_⟩
          rcases List.mem_cons.1 hm with h | h
          · exact absurd h.symm hxi
          · exact h
        · simp only [Bool.not_eq_true] at hb
          simp only [hb, Bool.not_false, if_true, List.length_cons]
          refine ⟨by have := ih.1; omega, fun hm => ?_⟩
          have := ih.2 (by
            rcases List.mem_cons.1 hm with h | h
            · exact absurd h.symm hxi
            · exact h)
          omega
  exact (hsub _).2 (by simpa using hi)

theorem wpAny_inv {P : Program} {ops : Array Oper} {Q : Exit → Act → World → Prop} (I : (Nat → Bool) → Act → World → Prop) (hA : aheadG ops = true)
    (step : ∀ i o b a w, ops[i]? = some o → I b a w → b i = false → (∀ e ∈ o.after, Region.binds .any e = true → b e.on = true) → Region.wanted o (yielded ops a.tmps) = true ∧ o.wp P a w (I (upd b i)) Q)
    (done : ∀ b a w, (∀ j, j < ops.size → b j = true) → I b a w → Q .normal a w) :
    ∀ (fuel : Nat) (listed : Array Bool) (a : Act) (w : World), listed.size = ops.size → unl ops.size listed ≤ fuel → I (fun j => listed.getD j false) a w → wpAny P .any ops Q fuel listed a w := by
  have hA' : ∀ i o, ops[i]? = some o → ∀ e ∈ o.after, Region.binds .any e = true → e.on < i := by
    intro i o ho
    unfold aheadG at hA
    rw [List.all_eq_true] at hA
    have hi : i < ops.size := (Array.getElem?_eq_some_iff.1 ho).1
    have h := hA i (by simpa using hi)
    rw [ho] at h
    intro e he hb
    have h2 := (Array.all_eq_true_iff_forall_mem.1 h) e he
    simpa [hb] using h2
  have fin : ∀ (listed : Array Bool) (a : Act) (w : World), listed.size = ops.size → I (fun j => listed.getD j false) a w → Region.ready .any ops listed = [] → Q .normal a w := by
    intro listed a w hs hI hr
    refine done _ a w ?_ hI
    intro j
    induction j using Nat.strongRecOn with
    | _ j ih =>
      intro hj
      rcases hb : listed.getD j false with _ | _
      · exfalso
        have hmem : j ∈ Region.ready .any ops listed := by
          unfold Region.ready
          rw [List.mem_filter]
          refine ⟨by simpa using hj, ?_⟩
          obtain ⟨o, ho⟩ : ∃ o, ops[j]? = some o := ⟨_, Array.getElem?_eq_getElem hj⟩
          have hd : listed.getD j true = false := by
            rw [Array.getD_eq_getD_getElem?] at hb ⊢
            rw [Array.getElem?_eq_getElem (by omega)] at hb ⊢
            exact hb
          rw [ho]
          simp only [hd, Bool.not_false, Option.map_some, Option.getD_some, Bool.true_and]
          apply Array.all_eq_true_iff_forall_mem.2
          intro e he
          by_cases hbd : Region.binds .any e = true
          · have hlt := hA' j o ho e he hbd
            simp [hbd, ih e.on hlt (by omega)]
          · simp [hbd]
        rw [hr] at hmem
        cases hmem
      · rfl
  intro fuel
  induction fuel with
  | zero =>
    intro listed a w hs hu hI
    have hnil : Region.ready .any ops listed = [] := by
      rw [List.eq_nil_iff_forall_not_mem]
      intro j hj
      unfold Region.ready at hj
      rw [List.mem_filter] at hj
      obtain ⟨hj1, hj2⟩ := hj
      have hj3 : j < ops.size := by simpa using hj1
      simp only [Bool.and_eq_true] at hj2
      have hu0 : unl ops.size listed = 0 := by omega
      unfold unl at hu0
      rw [List.length_eq_zero_iff, List.filter_eq_nil_iff] at hu0
      have h1 := hu0 j (by simpa using hj3)
      have h2 := hj2.1
      rw [Array.getD_eq_getD_getElem?, Array.getElem?_eq_getElem (by omega)] at h1 h2
      simp at h1 h2
      rw [h1] at h2
      cases h2
    exact ⟨hnil, fin listed a w hs hI hnil⟩
  | succ fuel ih =>
    intro listed a w hs hu hI
    refine ⟨fin listed a w hs hI, fun i hi => ?_⟩
    unfold Region.ready at hi
    rw [List.mem_filter] at hi
    obtain ⟨hi1, hi2⟩ := hi
    have hi3 : i < ops.size := by simpa using hi1
    simp only [Bool.and_eq_true] at hi2
    obtain ⟨o, ho⟩ : ∃ o, ops[i]? = some o := ⟨_, Array.getElem?_eq_getElem hi3⟩
    have hl : listed.getD i false = false := by
      have h2 := hi2.1
      rw [Array.getD_eq_getD_getElem?, Array.getElem?_eq_getElem (by omega)] at h2 ⊢
      simpa using h2
    have hw := hi2.2
    rw [ho] at hw
    simp only [Option.map_some, Option.getD_some] at hw
    have hstep := step i o _ a w ho hI hl (fun e he hb => by
      have := (Array.all_eq_true_iff_forall_mem.1 hw) e he
      simpa [hb] using this)
    unfold wpOp
    simp only [ho]
    rw [if_pos hstep.1]
    refine .inl (Oper.wp_mono (fun a' w' hI' => ih _ a' w' (by simpa using hs) (by have := unl_set hs hi3 hl; omega) ?_) hstep.2)
    have e : (fun j => (listed.setIfInBounds i true).getD j false) = upd (fun j => listed.getD j false) i := by
      funext x
      unfold upd
      by_cases hxi : x = i
      · subst hxi
        simp [Array.getD_eq_getD_getElem?, Array.getElem?_setIfInBounds, hs, hi3]
      · have : i ≠ x := fun e => hxi e.symm
        simp [Array.getD_eq_getD_getElem?, Array.getElem?_setIfInBounds, this, hxi]
    rw [e]
    exact hI'

/-- A region that draws its order, by an invariant over what has been done. -/
theorem wp_region_invG {P : Program} {id : Nat} {ops : List Oper} {Q : Exit → Act → World → Prop} {a : Act} {w : World} (I : (Nat → Bool) → Act → World → Prop) (hm : P.follows .mixedOrders = true) (hA : aheadG ops.toArray = true)
    (start : I (fun _ => false) a { w with drawn := w.drawn + 1 })
    (step : ∀ i o b a w, ops[i]? = some o → I b a w → b i = false → (∀ e ∈ o.after, Region.binds .any e = true → b e.on = true) → Region.wanted o (yielded ops.toArray a.tmps) = true ∧ o.wp P a w (I (upd b i)) Q)
    (done : ∀ b a w, (∀ j, j < ops.length → b j = true) → I b a w → Q .normal a w) : (Code.region id ops.toArray true).wp P Q a w := by
  refine wp_region_any hm (wpAny_inv I hA (fun i o b a w ho => step i o b a w (by simpa using ho)) (fun b a w hj => done b a w (by simpa using hj)) _ _ a _ (by simp) ?_ ?_)
  · unfold unl
    refine Nat.le_trans (List.length_filter_le _ _) (by simp)
  · have : (fun j => (Array.replicate ops.toArray.size false).getD j false) = fun _ => false := by
      funext j
      simp [Array.getD_eq_getD_getElem?, Array.getElem?_replicate]
      split <;> rfl
    rw [this]
    exact start
theorem wp_enter {P : Program} {o : Oper} {a : Act} {w : World} {K : Act → World → Prop} {Q : Exit → Act → World → Prop} (f : FuncId) (vals : Array Value) (h : (execOp a.eval o).run P w = .ok (.enter f vals) w)
    (hc : Calls P f vals w fun e w' => match e with | .returned v => K (a.put o.dst v) w' | .panicked chain => Q (.panic chain) a w' | .outgrown => LetsOut Q) : o.wp P a w K Q := by
  unfold Oper.wp
  rw [h, Oper.upon_enter]
  refine hc.mono ?_
  rintro e w' hh
  cases e <;> exact hh
theorem wp_value {P : Program} {o : Oper} {a : Act} {w : World} {K : Act → World → Prop} {Q : Exit → Act → World → Prop} (v : Value) (w2 : World) (h : (execOp a.eval o).run P w = .ok (.value v) w2) (hk : K (a.put o.dst v) w2) : o.wp P a w K Q := by
  unfold Oper.wp
  rw [h]
  exact hk
/-- An operation that has one value in all worlds that keep what is here. -/
theorem wp_quiet_here {P : Program} {o : Oper} {a : Act} {w : World} {K : Act → World → Prop} {Q : Exit → Act → World → Prop} (v : Value) (h : o.quiet P a (Calm w) (fun a' => a' = a.put o.dst v)) (hk : ∀ w', Fr (fun _ => False) w w' → K (a.put o.dst v) w') : o.wp P a w K Q :=
  Oper.wp_of_quiet (C := Calm w) (Fr.refl _ _) (fun a' w' hw' e => by rw [e]; exact hk w' hw') h
theorem wp_alloc_any {P : Program} {o : Oper} {a : Act} {w : World} {K : Act → World → Prop} {Q : Exit → Act → World → Prop} (ty : TypeId) (ho : o.op = .alloc ty) (zero : Array Value) (hz : ∀ w, (zeroValue ty).run P w = .ok (.agg zero) w)
    (h : K (a.put o.dst (.pointer (some ⟨w.heap.size, 0, none⟩))) (w.alloc (.cells zero ty))) : o.wp P a w K Q := by
  unfold Oper.wp execOp
  simp [ho, hz, go_sem]
  exact h
theorem calm1a {w : World} {A : Obj} {W0 : World} (h : w.alloc A = W0) : W0.heap[w.heap.size]? = some A ∧ Fr (fun _ => False) w W0 := by
  subst h
  exact ⟨heap_alloc_new w A, (Fr.refl _ _).alloc _⟩
/-- No guard; what an operation waits for stands ahead of it. -/
def aheadB (ops : Array Oper) : Bool := (List.range ops.size).all fun i => match ops[i]? with
  | none => true
  | some o => o.guard.isNone && o.after.all fun e => !Region.binds .any e || decide (e.on < i)
theorem aheadB_G {ops : Array Oper} (hA : aheadB ops = true) : aheadG ops = true ∧ ∀ (i : Nat) (o : Oper), ops[i]? = some o → o.guard = none := by
  unfold aheadB at hA
  unfold aheadG
  rw [List.all_eq_true] at hA
  refine ⟨?_, fun i o ho => ?_⟩
  · rw [List.all_eq_true]
    intro i hi
    have h := hA i hi
    rcases e : ops[i]? with _ | o
    · rfl
    · rw [e] at h
      simp only [Bool.and_eq_true] at h
      exact h.2
  · have hi : i < ops.size := (Array.getElem?_eq_some_iff.1 ho).1
    have h := hA i (by simpa using hi)
    rw [ho] at h
    simp only [Bool.and_eq_true, Option.isNone_iff_eq_none] at h
    exact h.1
theorem wp_region_inv {P : Program} {id : Nat} {ops : List Oper} {Q : Exit → Act → World → Prop} {a : Act} {w : World} (I : (Nat → Bool) → Act → World → Prop) (hm : P.follows .mixedOrders = true) (hA : aheadB ops.toArray = true)
    (start : I (fun _ => false) a { w with drawn := w.drawn + 1 })
    (step : ∀ i o b a w, ops[i]? = some o → I b a w → b i = false → (∀ e ∈ o.after, Region.binds .any e = true → b e.on = true) → o.wp P a w (I (upd b i)) Q)
    (done : ∀ b a w, (∀ j, j < ops.length → b j = true) → I b a w → Q .normal a w) : (Code.region id ops.toArray true).wp P Q a w :=
  wp_region_invG I hm (aheadB_G hA).1 start (fun i o b a w ho hI hb he => ⟨by simp [Region.wanted, (aheadB_G hA).2 i o (by simpa using ho)], step i o b a w ho hI hb he⟩) done
/-! ### A plain region by an invariant -/
theorem wpList_inv {P : Program} {ops : Array Oper} {Q : Exit → Act → World → Prop} (I : (Nat → Bool) → Act → World → Prop) (all : List Oper)
    (hg : (all.all fun o => o.guard.isNone) = true)
    (step : ∀ i o b a w, all[i]? = some o → I b a w → b i = false → (∀ j, j < i → b j = true) → o.wp P a w (I (upd b i)) Q)
    (done : ∀ b a w, (∀ j, j < all.length → b j = true) → I b a w → Q .normal a w) :
    ∀ (l : List Oper) (k : Nat) (b : Nat → Bool) (a : Act) (w : World), all.drop k = l → (∀ j, j < k → b j = true) → (∀ j, k ≤ j → b j = false) → I b a w → wpList P ops Q l a w
  | [], k, b, a, w, hl, hb, _, hI => by
    refine done b a w (fun j hj => hb j ?_) hI
    have := List.drop_eq_nil_iff.1 hl
    omega
  | o :: rest, k, b, a, w, hl, hb, hn, hI => by
    have hk : all[k]? = some o := by
      have : (all.drop k)[0]? = some o := by rw [hl]; rfl
      simpa using this
    have hd : all.drop (k + 1) = rest := by
      have : (all.drop k).drop 1 = rest := by rw [hl]; rfl
      simpa [List.drop_drop, Nat.add_comm] using this
    have ho : o.guard = none := by
      have := List.all_eq_true.1 hg o (List.mem_of_getElem? hk)
      simpa using this
    refine wpList_plain ho fun K hK => ?_
    refine Oper.wp_mono (fun a' w' hI' => hK _ _ (wpList_inv I all hg step done rest (k + 1) (upd b k) a' w' hd ?_ ?_ hI')) (step k o b a w hk hI (hn k (Nat.le_refl _)) hb)
    · intro j hj
      unfold upd
      by_cases e : j = k
      · simp [e]
      · simp [hb j (by omega)]
    · intro j hj
      unfold upd
      have : j ≠ k := by omega
      simp [this, hn j (by omega)]
theorem wp_region_seq {P : Program} {id : Nat} {ops : List Oper} {Q : Exit → Act → World → Prop} {a : Act} {w : World} (I : (Nat → Bool) → Act → World → Prop) (hg : (ops.all fun o => o.guard.isNone) = true)
    (start : I (fun _ => false) a w)
    (step : ∀ i o b a w, ops[i]? = some o → I b a w → b i = false → (∀ j, j < i → b j = true) → o.wp P a w (I (upd b i)) Q)
    (done : ∀ b a w, (∀ j, j < ops.length → b j = true) → I b a w → Q .normal a w) : (Code.region id ops.toArray false).wp P Q a w :=
  wp_region_list (by
    simpa using wpList_inv (ops := ops.toArray) I ops hg step done ops 0 (fun _ => false) a w rfl (fun j hj => absurd hj (by omega)) (fun _ _ => rfl) start)

/-- As wp_region_inv; beside it each step is told that what has been done is closed: with an operation all is done that it waits for. -/
theorem wp_region_inv2 {P : Program} {id : Nat} {ops : List Oper} {Q : Exit → Act → World → Prop} {a : Act} {w : World} (I : (Nat → Bool) → Act → World → Prop) (hm : P.follows .mixedOrders = true) (hA : aheadB ops.toArray = true)
    (start : I (fun _ => false) a { w with drawn := w.drawn + 1 })
    (step : ∀ i o b a w, ops[i]? = some o → I b a w → b i = false → (∀ e ∈ o.after, Region.binds .any e = true → b e.on = true) → (∀ j o', ops[j]? = some o' → b j = true → ∀ e ∈ o'.after, Region.binds .any e = true → b e.on = true) → o.wp P a w (I (upd b i)) Q)
    (done : ∀ b a w, (∀ j, j < ops.length → b j = true) → I b a w → Q .normal a w) : (Code.region id ops.toArray true).wp P Q a w := by
  refine wp_region_inv (fun b a w => I b a w ∧ ∀ j o', ops[j]? = some o' → b j = true → ∀ e ∈ o'.after, Region.binds .any e = true → b e.on = true) hm hA ⟨start, fun _ _ _ h => absurd h (by simp)⟩ ?_ (fun b a w hj hI => done b a w hj hI.1)
  intro i o b a w ho hI hb hr
  refine Oper.wp_mono (fun a' w' hI' => ⟨hI', ?_⟩) (step i o b a w ho hI.1 hb hr hI.2)
  intro j o' ho' hj e he hbd
  unfold upd at hj ⊢
  by_cases hji : j = i
  · subst hji
    rw [ho] at ho'
    injection ho' with ho'
    subst ho'
    simp [hr e he hbd]
  · simp only [hji, decide_false, Bool.false_or] at hj
    simp [hI.2 j o' ho' hj e he hbd]

theorem chain {ops : List Oper} {b : Nat → Bool} (hc : ∀ j o', ops[j]? = some o' → b j = true → ∀ e ∈ o'.after, Region.binds .any e = true → b e.on = true) (j k : Nat) {o' : Oper} (ho : ops[j]? = some o') (hj : b j = true)
    (hk : (o'.after.any fun e => Region.binds .any e && decide (e.on = k)) = true) : b k = true := by
  obtain ⟨e, he, h⟩ := Array.any_eq_true'.1 hk
  simp only [Bool.and_eq_true, decide_eq_true_eq] at h
  rw [← h.2]
  exact hc j o' ho hj e he h.1

theorem wpList_of_quiet {P : Program} {ops : Array Oper} {C : World → Prop} {Q : Exit → Act → World → Prop} (l2 : List Oper) : ∀ (l1 : List Oper) (a : Act) (w : World), C w →
    wpQuiet P ops C (fun a' => ∀ w', C w' → wpList P ops Q l2 a' w') l1 a → wpList P ops Q (l1 ++ l2) a w
  | [], a, w, hw, h => h w hw
  | o :: rest, a, w, hw, h => by
    show wpList P ops Q (o :: (rest ++ l2)) a w
    unfold wpList
    unfold wpQuiet at h
    split
    · rename_i hg
      rw [if_pos hg] at h
      exact .inl (Oper.wp_of_quiet (C := C) hw (fun a' w' hw' ha' => wpList_of_quiet l2 rest a' w' hw' ha') h)
    · rename_i hg
      rw [if_neg hg] at h
      exact wpList_of_quiet l2 rest _ w hw h
/-- The first n operations of a plain region, over a class. -/
theorem wp_region_head {P : Program} {id : Nat} {ops : List Oper} {C : World → Prop} {Q : Exit → Act → World → Prop} {a : Act} {w : World} (n : Nat) (hw : C w)
    (h : wpQuiet P ops.toArray C (fun a' => ∀ w', C w' → wpList P ops.toArray Q (ops.drop n) a' w') (ops.take n) a) : (Code.region id ops.toArray false).wp P Q a w := by
  refine wp_region_list ?_
  have := wpList_of_quiet (C := C) (ops.drop n) (ops.take n) a w hw h
  rwa [List.take_append_drop] at this
/-! ### A block that is an array of integers -/
def vs (k : IntKind) (l : List Int) : Array Value := (l.map (Value.int k)).toArray
def Ar (w : World) (g : Nat) (t : TypeId) (k : IntKind) (l : List Int) : Prop := w.heap[g]? = some (.cells (vs k l) t (0, 0))

theorem vs_size (k : IntKind) (l : List Int) : (vs k l).size = l.length := by simp [vs]
theorem vs_get (k : IntKind) (l : List Int) (i : Nat) : (vs k l)[i]? = (l[i]?).map (Value.int k) := by simp [vs]
theorem vs_all (k : IntKind) (l : List Int) : ((vs k l).all (·.oneCell')) = true := by
  apply Array.all_eq_true_iff_forall_mem.2
  intro v hv
  simp only [vs, List.mem_toArray, List.mem_map] at hv
  obtain ⟨x, _, rfl⟩ := hv
  rfl
theorem vs_set (k : IntKind) (l : List Int) (i : Nat) (x : Int) : (vs k l).setIfInBounds i (.int k x) = vs k (l.set i x) := by
  apply Array.toList_inj.1
  simp [vs, List.map_set]
section
variable {w w' : World} {g : Nat} {t : TypeId} {k : IntKind} {l : List Int}
theorem Ar.lt (h : Ar w g t k l) : g < w.heap.size := heap_lt h
theorem Ar.cell (h : Ar w g t k l) {i : Nat} {x : Int} (hx : l[i]? = some x) : w.cell? ⟨g, i, none⟩ = some (.int k x) := by
  rw [cell_of_row w g i _ _ _ h, vs_get, hx]
  rfl
theorem Ar.frozen (h : Ar w g t k l) (i : Nat) : w.frozen? ⟨g, i, none⟩ = false := frozen_of_row _ _ _ _ _ h
theorem Ar.set (h : Ar w g t k l) (i : Nat) (x : Int) : Ar (w.setCell ⟨g, i, none⟩ (.int k x)) g t k (l.set i x) := by
  show _ = _
  rw [heap_setCell_same w g i _ _ _ h, vs_set]
theorem Ar.far (h : Ar w g t k l) {a : Addr} (ha : g ≠ a.block) (v : Value) : Ar (w.setCell a v) g t k l := (heap_setCell_other _ _ _ _ ha).trans h
theorem Ar.fr {S : Nat → Prop} (h : Ar w g t k l) (hf : Fr S w w') (hs : ¬ S g) : Ar w' g t k l := (hf.block _ h.lt hs).trans h
theorem Ar.drew (h : Ar w g t k l) : Ar w.drew g t k l := h
theorem Ar.drewN (h : Ar w g t k l) (n : Nat) : Ar (w.drewN n) g t k l := h
theorem Ar.alloc (h : Ar w g t k l) (o : Obj) : Ar (w.alloc o) g t k l := (Below.heap_alloc w o g h.lt).trans h
theorem Ar.row (h : Ar w g t k l) (m : List Int) : Ar (w.setRow g (vs k m)) g t k m := setRow_heap _ _ _ _ _ _ h
theorem Ar.rowFar (h : Ar w g t k l) {g' : Nat} (hg : g ≠ g') (cs : Array Value) : Ar (w.setRow g' cs) g t k l := (setRow_other _ _ _ _ hg).trans h
end
theorem Ar.new (w : World) (t : TypeId) (k : IntKind) (l : List Int) : Ar (w.alloc (.cells (vs k l) t)) w.heap.size t k l := heap_alloc_new w _
theorem Ar.alloc1 (w : World) (t t' : TypeId) (k k' : IntKind) (l l' : List Int) : Ar ((w.alloc (.cells (vs k l) t)).alloc (.cells (vs k' l') t')) (w.heap.size + 1) t' k' l' := by
  have h := Ar.new (w.alloc (.cells (vs k l) t)) t' k' l'
  rwa [show (w.alloc (.cells (vs k l) t)).heap.size = w.heap.size + 1 by simp] at h
theorem getD_some {l : List Int} {i : Nat} (h : i < l.length) : l[i]? = some (l.getD i 0) := by
  rw [List.getD_eq_getElem?_getD, List.getElem?_eq_getElem h]
  rfl

theorem Calm.ar {w0 w : World} {g : Nat} {t : TypeId} {k : IntKind} {l : List Int} (h : Ar w0 g t k l) (hw : Calm w0 w) : w.heap[g]? = some (.cells (vs k l) t (0, 0)) := h.fr hw (fun x => x)
theorem calm2 {w : World} {A B : Obj} {W0 : World} (h : (w.alloc A).alloc B = W0) : W0.heap[w.heap.size]? = some A ∧ W0.heap[w.heap.size + 1]? = some B ∧ Fr (fun _ => False) w W0 := by
  subst h
  have s1 : (w.alloc A).heap.size = w.heap.size + 1 := by simp
  have e1 := heap_alloc_new (w.alloc A) B
  rw [s1] at e1
  exact ⟨(Below.heap_alloc _ B _ (by rw [s1]; omega)).trans (heap_alloc_new w A), e1, ((Fr.refl _ _).alloc _).alloc _⟩
theorem run_load_row {P : Program} (w : World) (g : Nat) (t ty : TypeId) (cs : Array Value) (fr : Nat × Nat) (d : TypeDesc) (hg : w.heap[g]? = some (.cells cs t fr))
    (hu : P.underlying ty = some d) (hd : (match d with | .struct _ | .array _ _ => true | _ => false) = true) (hi : (P.info? ty).map (·.size) = some cs.size) :
    (Instr.loadAt ty (.pointer (some ⟨g, 0, none⟩))).run P w = .ok (.agg cs) w := by
  simp only [Instr.loadAt, Instr.sureAddr, Sem.run_bind, Sem.run_pure, Result.andThen_ok, run_loadVar_row w g t ty cs fr d hg hu hd hi]
theorem run_store_row {P : Program} (w : World) (g : Nat) (t ty : TypeId) (old cells : Array Value) (hg : w.heap[g]? = some (.cells old t (0, 0))) (hi : (P.info? ty).map (·.size) = some cells.size)
    (ho : old.size = cells.size) (h1 : cells.all (·.oneCell') = true) :
    (Instr.storeAt ty (.pointer (some ⟨g, 0, none⟩)) (.agg cells)).run P w = .ok () (w.setRow g cells) := by
  simp only [Instr.storeAt, Instr.sureAddr, Sem.run_bind, Sem.run_pure, Result.andThen_ok, run_storeVar_row w g t ty old cells hg hi ho h1]
/-- A list that is filled from its head on. -/
def fil {α : Type} (L : List α) (k : Nat) (x : α) : List α := L.take k ++ List.replicate (L.length - k) x
theorem fil_length {α : Type} (L : List α) (k : Nat) (x : α) (h : k ≤ L.length) : (fil L k x).length = L.length := by simp [fil]; omega
theorem fil_zero {α : Type} (L : List α) (x : α) : fil L 0 x = List.replicate L.length x := by simp [fil]
theorem fil_all {α : Type} (L : List α) (x : α) : fil L L.length x = L := by simp [fil]
theorem fil_set {α : Type} (L : List α) (k : Nat) (x y : α) (h : L[k]? = some y) : (fil L k x).set k y = fil L (k + 1) x := by
  have hk : k < L.length := (List.getElem?_eq_some_iff.1 h).1
  have hy : L[k] = y := by rw [List.getElem?_eq_getElem hk] at h; injection h
  unfold fil
  rw [List.take_succ_eq_append_getElem hk, hy, List.set_append_right _ _ (by rw [List.length_take]; omega), List.length_take, Nat.min_eq_left (by omega), Nat.sub_self]
  rw [show L.length - k = (L.length - (k + 1)) + 1 by omega, List.replicate_succ, List.set_cons_zero, List.append_assoc]
  rfl
theorem fil_bs (L : List Int) (k : Nat) (y : Int) (h : L[k]? = some y) : (bs (fil L k 0)).toArray.setIfInBounds k (.int .u8 y) = (bs (fil L (k + 1) 0)).toArray := by
  apply Array.toList_inj.1
  rw [← fil_set L k 0 y h]
  simp [bs, List.map_set]
theorem bs_all (l : List Int) : ((bs l).toArray.all (·.oneCell')) = true := Array.all_eq_true_iff_forall_mem.2 (fun v hv => bs_one l v (by simpa using hv))
theorem run_eqItems_ints {P : Program} (d : Nat) {e : TypeId} {k' k : IntKind} (he : P.underlying e = some (.int k')) (hp : P.plainKey e = true) (hc : P.cellsOf e = 1) (l m : List Int) (w : World) :
    ∀ is : List Nat, (∀ i ∈ is, i < l.length ∧ i < m.length) →
      (Op.eqItems (d + 1) e (P.cellsOf e) (l.map (Value.int k)).toArray (m.map (Value.int k)).toArray is).run P w = .ok (decide (∀ i ∈ is, l[i]? = m[i]?)) w
  | [], _ => by simp [Op.eqItems]
  | i :: is, h => by
    have h0 := h i (by simp)
    have ih := run_eqItems_ints (k := k) d he hp hc l m w is (fun j hj => h j (by simp [hj]))
    have p1 := run_part_plain w hp (xs := (l.map (Value.int k)).toArray) (off := i * P.cellsOf e) (v := .int k l[i]) (by simp [hc, h0.1])
    have p2 := run_part_plain w hp (xs := (m.map (Value.int k)).toArray) (off := i * P.cellsOf e) (v := .int k m[i]) (by simp [hc, h0.2])
    have p3 := run_equalIn_int (P := P) w d e k k' l[i] m[i] he
    simp only [Op.eqItems, Sem.run_bind, p1, p2, p3, Result.andThen_ok]
    by_cases hx : l[i] = m[i]
    · have hb : (l[i] == m[i]) = true := by simpa using hx
      have hs : l[i]? = m[i]? := by rw [List.getElem?_eq_getElem h0.1, List.getElem?_eq_getElem h0.2, hx]
      rw [hb]
      simp only [Bool.not_true, Bool.false_eq_true, if_false, ih]
      congr 1
      simp [hs]
    · have hb : (l[i] == m[i]) = false := by simpa using hx
      have hs : ¬ l[i]? = m[i]? := by rw [List.getElem?_eq_getElem h0.1, List.getElem?_eq_getElem h0.2]; simpa using hx
      rw [hb]
      simp only [Bool.not_false, if_true, Sem.run_pure]
      congr 1
      simp [hs]

theorem run_equalIn_ints {P : Program} (d : Nat) {t e : TypeId} {k' k : IntKind} {n : Nat} {i : TypeInfo} (hu : P.underlying t = some (.array n e)) (hi : P.info? e = some i) (he : P.underlying e = some (.int k')) (hp : P.plainKey e = true) (hc : P.cellsOf e = 1) (l m : List Int) (hl : l.length = n) (hm : m.length = n) (w : World) :
    (Op.equalIn (d + 2) t (.agg (l.map (Value.int k)).toArray) (.agg (m.map (Value.int k)).toArray)).run P w = .ok (decide (l = m)) w := by
  rw [run_equalIn_array w (d + 1) _ _ hu hi, run_eqItems_ints d he hp hc l m w _ (fun j hj => by simp at hj; omega)]
  congr 1
  apply decide_eq_decide.2
  constructor
  · intro h
    apply List.ext_getElem?
    intro j
    by_cases hj : j < n
    · exact h j (by simpa using hj)
    · rw [List.getElem?_eq_none (by omega), List.getElem?_eq_none (by omega)]
  · rintro rfl j _
    rfl
theorem vs_bs (l : List Int) : vs .u8 l = (bs l).toArray := rfl
section
variable {P : Program} {C : World → Prop} {a : Act} {o : Oper} {K : Act → Prop}
/-- A cell of an array of integers is loaded. -/
theorem quiet_cell (x : Operand) (e : TypeId) (k : IntKind) (ho : o.op = .load e x) (q i : Nat) (hx : a.eval x = .pointer (some ⟨q, i, none⟩)) (l : List Int) (y : Int) (hl : l[i]? = some y) (t : TypeId) (hg : ∀ w, C w → Ar w q t k l) (he : P.underlying e = some (.int k))
    (hk : K (a.put o.dst (.int k y))) : o.quiet P a C K := by
  refine quiet_run _ (fun w hw => ?_) hk
  have hc := (hg w hw).cell hl
  unfold execOp
  simp [ho, hx, Instr.loadAt, Instr.sureAddr, loadVar, isAgg, run_underlying he, hc, Sem.run_bind, Sem.run_pure, Result.andThen_ok]
end
end Go.Proofs.Ytcoggpedpclkaaa
