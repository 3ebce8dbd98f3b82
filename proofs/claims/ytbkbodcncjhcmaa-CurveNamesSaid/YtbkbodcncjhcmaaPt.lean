/- Elements as four cells; points as eight; regions walked in their order by an invariant. Definitions and lemmas alone; each says its condition. -/
import Derived.Test.YtbkbodcncjhcmaaSwap
import Derived.Test.YtbkbodcncjhcmaaInvR
import Derived.Test.YtbkbodcncjhcmaaRefE
import Derived.Test.YtbkbodcncjhcmaaBytesM
import Derived.Test.YtbkbodcncjhcmaaRefI
import Derived.Deep.Cut
namespace Go.Proofs.Ytbkbodcncjhcmaa
set_option linter.unusedSimpArgs false
set_option linter.unusedVariables false
open Go.RowKit

/-! ### A plain region by an invariant -/
theorem wpList_inv {P : Program} {ops : Array Oper} {Q : Exit → Act → World → Prop} (I : (Nat → Bool) → Act → World → Prop) (all : List Oper)
    (hg : (all.all fun o => o.guard.isNone) = true)
    (step : ∀ i o b a w, all[i]? = some o → I b a w → b i = false → (∀ j, j < i → b j = true) → o.wp P a w (I (upd b i)) Q)
    (done : ∀ b a w, (∀ j, j < all.length → b j = true) → I b a w → Q .normal a w) :
    ∀ (l : List Oper) (k : Nat) (b : Nat → Bool) (a : Act) (w : World), all.drop k = l → (∀ j, j < k → b j = true) → (∀ j, k ≤ j → b j = false) → I b a w → wpList P ops Q l a w
  | [], k, b, a, w, hl, hb, _, hI => by
    refine done b a w (fun j hj => hb j ?_) hI
    have := List.drop_eq_nil_iff.1 hl
    omega
  | o :: rest, k, b, a, w, hl, hb, hn, hI => by
    have hk : all[k]? = some o := by
      have : (all.drop k)[0]? = some o := by rw [hl]; rfl
      simpa using this
    have hd : all.drop (k + 1) = rest := by
      have : (all.drop k).drop 1 = rest := by rw [hl]; rfl
      simpa [List.drop_drop, Nat.add_comm] using this
    have ho : o.guard = none := by
      have := List.all_eq_true.1 hg o (List.mem_of_getElem? hk)
      simpa using this
    refine wpList_plain ho fun K hK => ?_
    refine Oper.wp_mono (fun a' w' hI' => hK _ _ (wpList_inv I all hg step done rest (k + 1) (upd b k) a' w' hd ?_ ?_ hI')) (step k o b a w hk hI (hn k (Nat.le_refl _)) hb)
    · intro j hj
      unfold upd
      by_cases e : j = k
      · simp [e]
      · simp [hb j (by omega)]
    · intro j hj
      unfold upd
      have : j ≠ k := by omega
      simp [this, hn j (by omega)]
theorem wp_region_seq {P : Program} {id : Nat} {ops : List Oper} {Q : Exit → Act → World → Prop} {a : Act} {w : World} (I : (Nat → Bool) → Act → World → Prop) (hg : (ops.all fun o => o.guard.isNone) = true)
    (start : I (fun _ => false) a w)
    (step : ∀ i o b a w, ops[i]? = some o → I b a w → b i = false → (∀ j, j < i → b j = true) → o.wp P a w (I (upd b i)) Q)
    (done : ∀ b a w, (∀ j, j < ops.length → b j = true) → I b a w → Q .normal a w) : (Code.region id ops.toArray false).wp P Q a w :=
  wp_region_list (by
    simpa using wpList_inv (ops := ops.toArray) I ops hg step done ops 0 (fun _ => false) a w rfl (fun j hj => absurd hj (by omega)) (fun _ _ => rfl) start)

/-- As wp_region_inv; beside it each step is told that what has been done is closed: with an operation all is done that it waits for. -/
theorem wp_region_inv2 {P : Program} {id : Nat} {ops : List Oper} {Q : Exit → Act → World → Prop} {a : Act} {w : World} (I : (Nat → Bool) → Act → World → Prop) (hm : P.follows .mixedOrders = true) (hA : aheadB ops.toArray = true)
    (start : I (fun _ => false) a { w with drawn := w.drawn + 1 })
    (step : ∀ i o b a w, ops[i]? = some o → I b a w → b i = false → (∀ e ∈ o.after, Region.binds .any e = true → b e.on = true) → (∀ j o', ops[j]? = some o' → b j = true → ∀ e ∈ o'.after, Region.binds .any e = true → b e.on = true) → o.wp P a w (I (upd b i)) Q)
    (done : ∀ b a w, (∀ j, j < ops.length → b j = true) → I b a w → Q .normal a w) : (Code.region id ops.toArray true).wp P Q a w := by
  refine wp_region_inv (fun b a w => I b a w ∧ ∀ j o', ops[j]? = some o' → b j = true → ∀ e ∈ o'.after, Region.binds .any e = true → b e.on = true) hm hA ⟨start, fun _ _ _ h => absurd h (by simp)⟩ ?_ (fun b a w hj hI => done b a w hj hI.1)
  intro i o b a w ho hI hb hr
  refine Oper.wp_mono (fun a' w' hI' => ⟨hI', ?_⟩) (step i o b a w ho hI.1 hb hr hI.2)
  intro j o' ho' hj e he hbd
  unfold upd at hj ⊢
  by_cases hji : j = i
  · subst hji
    rw [ho] at ho'
    injection ho' with ho'
    subst ho'
    simp [hr e he hbd]
  · simp only [hji, decide_false, Bool.false_or] at hj
    simp [hI.2 j o' ho' hj e he hbd]

theorem chain {ops : List Oper} {b : Nat → Bool} (hc : ∀ j o', ops[j]? = some o' → b j = true → ∀ e ∈ o'.after, Region.binds .any e = true → b e.on = true) (j k : Nat) {o' : Oper} (ho : ops[j]? = some o') (hj : b j = true)
    (hk : (o'.after.any fun e => Region.binds .any e && decide (e.on = k)) = true) : b k = true := by
  obtain ⟨e, he, h⟩ := Array.any_eq_true'.1 hk
  simp only [Bool.and_eq_true, decide_eq_true_eq] at h
  rw [← h.2]
  exact hc j o' ho hj e he h.1

/-! ### Elements -/
def ec (v : Int) : Array Value := #[.int .u64 (v % 18446744073709551616), .int .u64 (v / 18446744073709551616 % 18446744073709551616), .int .u64 (v / 340282366920938463463374607431768211456 % 18446744073709551616), .int .u64 (v / 6277101735386680763835789423207666416102355444464034512896 % 18446744073709551616)]
theorem el_ec (v : Int) : el v = .agg (ec v) := rfl
theorem ec_size (v : Int) : (ec v).size = 4 := rfl
theorem ec_len (v : Int) : (ec v).toList.length = 4 := rfl
theorem ec_vs (v : Int) : ∃ l, ec v = vs .u64 l := ⟨[_, _, _, _], rfl⟩
theorem ec_all (v : Int) : ((ec v).all (·.oneCell')) = true := by
  obtain ⟨l, h⟩ := ec_vs v
  rw [h]
  exact vs_all _ _
theorem ec_info (v : Int) : (Try.prog.info? 37).map (·.size) = some (ec v).size := size28
theorem ec_zero : ∀ w : World, (zeroValue 37).run Try.prog w = .ok (.agg (ec 0)) w := fun _ => by kernel_rfl

/-! ### Points -/
def pc (x z : Int) : Array Value := ec x ++ ec z
/-- A block that is a point. -/
def P8 (w : World) (g : Nat) (x z : Int) : Prop := w.heap[g]? = some (.cells (pc x z) 64 (0, 0))
theorem pc_list (x z : Int) : (pc x z).toList = (ec x).toList ++ (ec z).toList := by simp [pc]
section
variable {w w' : World} {g : Nat} {x z : Int}
theorem P8.fr {S : Nat → Prop} (h : P8 w g x z) (hf : Fr S w w') (hs : ¬ S g) : P8 w' g x z := (hf.block _ (heap_lt h) hs).trans h
theorem P8.lt (h : P8 w g x z) : g < w.heap.size := heap_lt h
theorem pc_lo (x z : Int) {j : Nat} (hj : j < 4) : (pc x z)[j]? = (ec x).toList[j]? := by
  rw [← Array.getElem?_toList, pc_list, List.getElem?_append_left (by rw [ec_len]; exact hj)]
theorem pc_hi (x z : Int) (j : Nat) : (pc x z)[4 + j]? = (ec z).toList[j]? := by
  rw [← Array.getElem?_toList, pc_list, List.getElem?_append_right (by rw [ec_len]; omega), ec_len, Nat.add_sub_cancel_left]
theorem P8.r0 (h : P8 w g x z) : w.rangeAt g 0 (ec x).toList := fun j v hj => by
  have hl : j < 4 := (List.getElem?_eq_some_iff.1 hj).1
  rw [Nat.zero_add, cell_of_row w g j _ _ _ h, pc_lo x z hl, hj]
theorem P8.r1 (h : P8 w g x z) : w.rangeAt g 4 (ec z).toList := fun j v hj => by
  rw [cell_of_row w g (4 + j) _ _ _ h, pc_hi, hj]
theorem pc_size (x z : Int) : (pc x z).size = 8 := rfl
theorem P8.there0 (h : P8 w g x z) : w.there g 0 4 := fun j hj => by
  rw [Nat.zero_add, cell_of_row w g j _ _ _ h, Array.getElem?_eq_getElem (by rw [pc_size]; omega)]
  exact ⟨rfl, frozen_of_row _ _ _ _ _ h⟩
theorem P8.there1 (h : P8 w g x z) : w.there g 4 4 := fun j hj => by
  rw [cell_of_row w g (4 + j) _ _ _ h, Array.getElem?_eq_getElem (by rw [pc_size]; omega)]
  exact ⟨rfl, frozen_of_row _ _ _ _ _ h⟩
theorem setCells_heap {t : TypeId} : ∀ (vs : List Value) (o : Nat) (w : World) (cs : Array Value), w.heap[g]? = some (.cells cs t (0, 0)) → (w.setCells g o vs).heap[g]? = some (.cells (cs.toList.take o ++ (vs.take (cs.size - o)) ++ cs.toList.drop (o + vs.length)).toArray t (0, 0))
  | [], o, w, cs, h => by
    rw [World.setCells, h]
    simp
  | v :: r, o, w, cs, h => by
    rw [World.setCells, setCells_heap r (o + 1) _ _ (heap_setCell_same _ _ _ _ _ _ h)]
    congr 2
    apply Array.toList_inj.1
    apply List.ext_getElem?
    intro i
    by_cases ho : o < cs.size
    · have e1 : cs.size - o = (cs.size - (o + 1)) + 1 := by omega
      simp only [Array.size_setIfInBounds, Array.toList_setIfInBounds, List.length_cons]
      rw [e1, List.take_succ_cons]
      have e3 : (cs.toList.set o v).take (o + 1) = cs.toList.take o ++ [v] := by
        rw [List.take_add_one, List.take_set_of_le (Nat.le_refl _)]
        simp [List.getElem?_set, ho]
      have e4 : (cs.toList.set o v).drop (o + 1 + r.length) = cs.toList.drop (o + (r.length + 1)) := by
        rw [List.drop_set_of_lt (by omega)]
        congr 1
        omega
      rw [e3, e4]
      simp
    · have e1 : cs.size - o = 0 := by omega
      have e2 : cs.size - (o + 1) = 0 := by omega
      have e5 : cs.toList.set o v = cs.toList := List.set_eq_of_length_le (by simp; omega)
      simp only [Array.size_setIfInBounds, Array.toList_setIfInBounds, e1, e2, e5, List.take_zero, List.length_cons]
      rw [List.take_of_length_le (by simp; omega), List.take_of_length_le (by simp; omega), List.drop_eq_nil_of_le (by simp; omega), List.drop_eq_nil_of_le (by simp; omega)]
theorem P8.s0 (h : P8 w g x z) (y : Int) : P8 (w.setCells g 0 (ec y).toList) g y z := by
  show _ = _
  rw [setCells_heap _ _ _ _ h]
  rfl
theorem P8.s1 (h : P8 w g x z) (y : Int) : P8 (w.setCells g 4 (ec y).toList) g x y := by
  show _ = _
  rw [setCells_heap _ _ _ _ h]
  rfl
theorem setCells_far {b : Nat} (hb : g ≠ b) : ∀ (vs : List Value) (o : Nat) (w : World), (w.setCells b o vs).heap[g]? = w.heap[g]?
  | [], o, w => by rw [World.setCells]
  | v :: r, o, w => by
    rw [World.setCells, setCells_far hb r, heap_setCell_other _ _ _ _ hb]
theorem P8.far (h : P8 w g x z) {b : Nat} (hb : g ≠ b) (o : Nat) (vs : List Value) : P8 (w.setCells b o vs) g x z := (setCells_far hb vs o w).trans h
theorem P8.alloc (h : P8 w g x z) (o : Obj) : P8 (w.alloc o) g x z := (Below.heap_alloc w o g h.lt).trans h
theorem P8.rowFar (h : P8 w g x z) {g' : Nat} (hg : g ≠ g') (cs : Array Value) : P8 (w.setRow g' cs) g x z := (setRow_other _ _ _ _ hg).trans h
end
theorem setCells_size (b : Nat) : ∀ (vs : List Value) (o : Nat) (w : World), (w.setCells b o vs).heap.size = w.heap.size ∧ (w.setCells b o vs).os = w.os ∧ (w.setCells b o vs).tape = w.tape ∧ (w.setCells b o vs).output = w.output
  | [], o, w => by rw [World.setCells]; exact ⟨rfl, rfl, rfl, rfl⟩
  | v :: r, o, w => by
    rw [World.setCells]
    obtain ⟨h1, h2, h3, h4⟩ := setCells_size b r (o + 1) (w.setCell ⟨b, o, none⟩ v)
    exact ⟨h1.trans (by simp [World.setCell]), h2, h3, h4⟩
theorem Fr.setCells {S : Nat → Prop} {a b : World} (h : Fr S a b) {g : Nat} (o : Nat) (vs : List Value) (hp : S g ∨ a.heap.size ≤ g) : Fr S a (b.setCells g o vs) := by
  obtain ⟨h1, h2, h3, h4⟩ := setCells_size g vs o b
  refine ⟨h2.trans h.os, h3.trans h.tape, h4.trans h.output, by rw [h1]; exact h.size, fun i hi hs => (setCells_far (fun e => ?_) vs o b).trans (h.block i hi hs)⟩
  subst e
  rcases hp with hp | hp
  · exact hs hp
  · omega

section
variable {C : World → Prop} {a : Act} {o : Oper} {K : Act → Prop}
/-- An element out of a point is loaded. -/
theorem quiet_half (x : Operand) (ho : o.op = .load 37 x) (q i : Nat) (hx : a.eval x = .pointer (some ⟨q, i, none⟩)) (v : Int) (hg : ∀ w, C w → w.rangeAt q i (ec v).toList)
    (hk : K (a.put o.dst (.agg (ec v)))) : o.quiet Try.prog a C K := by
  refine quiet_run _ (fun w hw => ?_) hk
  unfold execOp
  simp only [ho, hx, Instr.loadAt, Instr.sureAddr, Sem.run_bind, Sem.run_pure, Result.andThen_ok, run_loadVar_mid (P := Try.prog) w q i 37 (ec v).toList _ (hg w hw) Try.underlying37 rfl (by rw [ec_len]; exact size28)]
end
end Go.Proofs.Ytbkbodcncjhcmaa
