/- A region that draws its order: a head of operations that keep what is there, and a tail in its order behind it. Lemmas alone. -/
import Derived.Test.YtebknlhooijkcaaK
import Derived.StillTailTactics
import Derived.Lib.Mul64
import Derived.Laws.Cover3
namespace Go.Proofs.Ytebknlhooijkcaa
set_option linter.unusedSimpArgs false
set_option linter.unusedVariables false
open Go.RowKit Go

section
variable {P : Program} {ops : Array Oper} {md : Region.Mode} {C : World → Prop}
/-- The head, in any order that is ready: each step keeps the class; at its end what is asked. -/
def hd (P : Program) (md : Region.Mode) (ops : Array Oper) (C : World → Prop) (n : Nat) (L : Array Bool → Act → Prop) : Nat → Array Bool → Act → Prop
  | 0, listed, a => L listed a
  | f + 1, listed, a => Region.ready md ops listed ≠ [] ∧ ∀ i ∈ Region.ready md ops listed, i < n ∧ qOp P ops C i (hd P md ops C n L f (listed.setIfInBounds i true)) a

theorem any_of_hd {n g : Nat} {L : Array Bool → Act → Prop} {Q : Exit → Act → World → Prop} (hL : ∀ listed a w, C w → L listed a → wpAny P md ops Q g listed a w) (f : Nat) :
    ∀ (listed : Array Bool) (a : Act) (w : World), C w → hd P md ops C n L f listed a → wpAny P md ops Q (f + g) listed a w := by
  induction f with
  | zero => intro listed a w hw h; rw [Nat.zero_add]; exact hL _ _ _ hw h
  | succ f ih =>
    intro listed a w hw h
    rw [show f + 1 + g = (f + g) + 1 by omega]
    exact ⟨fun e => absurd e h.1, fun i hi => wpOp_of_qOp hw (fun a' w' hw' h' => ih _ a' w' hw' h') (h.2 i hi).2⟩

theorem hd_first {n i : Nat} {oi : Oper} {v : Value} {L : Array Bool → Act → Prop} (hi : ops[i]? = some oi) (hsel : ∀ (j : Nat) (o : Oper) cs b, ops[j]? = some o → o.op ≠ .select cs b)
    (hs : Region.sinkB md ops n = true) (hc : Region.chainB md ops n = true) (hn : n < ops.size) (hin : i < n)
    (hdone : ∀ listed a, L listed a → ∀ j ∈ Region.ready md ops listed, n ≤ j) (f : Nat) :
    ∀ (listed : Array Bool) (a : Act), HeadInv md ops n listed →
      (∀ j oj, ops[j]? = some oj → j ≠ i → listed.getD j true = false → (∀ e ∈ oj.after, Region.binds md e = true → e.on ≠ i) → oi.apart ops oj = true) →
      i ∈ Region.ready md ops listed → YieldsIn P ops C oi v a →
      hd P md ops C n L f (listed.setIfInBounds i true) (a.put oi.dst v) → hd P md ops C n L (f + 1) listed a := by
  induction f with
  | zero =>
    intro listed a inv _ hr hy H
    have hun := (mem_ready.1 hr).1
    refine ⟨fun h => (by rw [h] at hr; cases hr), fun j hj => ?_⟩
    have hjn : j < n := by
      rcases Nat.lt_or_ge j n with h | h
      · exact h
      · exact absurd hj (tail_waits hs hc hn inv _ i rfl hin hun j h)
    refine ⟨hjn, ?_⟩
    by_cases hji : j = i
    · subst hji; exact hy.qOp hi H
    · have := hdone _ _ H j (ready_mono hj hji)
      omega
  | succ f ih =>
    intro listed a inv hfree hr hy H
    have hun := (mem_ready.1 hr).1
    refine ⟨fun h => (by rw [h] at hr; cases hr), fun j hj => ?_⟩
    have hjn : j < n := by
      rcases Nat.lt_or_ge j n with h | h
      · exact h
      · exact absurd hj (tail_waits hs hc hn inv _ i rfl hin hun j h)
    refine ⟨hjn, ?_⟩
    by_cases hji : j = i
    · subst hji; exact hy.qOp hi H
    · obtain ⟨hjun, oj, hoj, hall⟩ := mem_ready.1 hj
      have hnot : ∀ e ∈ oj.after, Region.binds md e = true → e.on ≠ i := fun e he hb heq => by
        have h1 := hall e he hb
        rw [heq, getD_both hun] at h1
        cases h1
      have h2 := qOp_put hoj (hfree j oj hoj hji hjun hnot) (fun cs b => hsel i oi cs b hi) (fun cs b => hsel j oj cs b hoj) hy (H.2 j (ready_mono hj hji)).2
      have hfree' : ∀ k ok, ops[k]? = some ok → k ≠ i → (listed.setIfInBounds j true).getD k true = false →
          (∀ e ∈ ok.after, Region.binds md e = true → e.on ≠ i) → oi.apart ops ok = true := fun k ok hk hki hku hno => by
        refine hfree k ok hk hki ?_ hno
        by_cases hjk : j = k
        · subst hjk; exact hjun
        · rw [getD_set_ne true hjk] at hku; exact hku
      refine qOp_mono (fun a' h3 => ih (listed.setIfInBounds j true) a' (inv.set hj hjn) hfree' (ready_mono hr (Ne.symm hji)) h3.1 ?_) h2
      rw [Array.setIfInBounds_comm _ _ hji]
      exact h3.2

theorem hd_lex {n g : Nat} {Lq : Act → Prop} (hsel : Region.noSelect ops = true) (hs : Region.sinkB md ops n = true) (hc : Region.chainB md ops n = true) (hn : n < ops.size) :
    ∀ (l : List Oper) (k : Nat) (listed : Array Bool) (a : Act), (∀ j, j < l.length → l[j]? = ops[k + j]?) → k + l.length = n → HeadInv md ops n listed →
    Region.lexHead md ops g l.length k listed = true → wpQuiet P ops C Lq l a →
    hd P md ops C n (fun listed' a' => Region.seqB md ops g n listed' = true ∧ Lq a') l.length listed a
  | [], k, listed, a, _, hk, _, hB, h => by
    have : k = n := by simpa using hk
    subst this
    exact ⟨by simpa [Region.lexHead] using hB, h⟩
  | o :: l, k, listed, a, hl, hk, inv, hB, h => by
    have h0 : ops[k]? = some o := by simpa using (hl 0 (by simp)).symm
    simp only [List.length_cons, Region.lexHead, Bool.and_eq_true] at hB
    obtain ⟨⟨hr, hf⟩, hB'⟩ := hB
    have hkn : k < n := by simp only [List.length_cons] at hk; omega
    have hr' : k ∈ Region.ready md ops listed := by simpa using hr
    have hst : qOp P ops C k (wpQuiet P ops C Lq l) a := by unfold qOp; simp only [h0]; exact h
    obtain ⟨v, hy, hK⟩ := yieldsIn_of_qOp h0 hst
    exact hd_first h0 (Region.noSelect_spec hsel) hs hc hn hkn (fun listed' a' hL => seqB_ready hL.1) l.length listed a inv (Region.free_spec h0 hf) hr' hy
      (hd_lex hsel hs hc hn l (k + 1) _ _ (fun j hj => by have := hl (j + 1) (by simp; omega); simpa [Nat.add_assoc, Nat.add_comm 1 j] using this) (by simp only [List.length_cons] at hk; omega) (inv.set hr' hkn) hB' hK)

/-- The head's n operations have each one value in all worlds of the class; the rest is walked behind them, from any world of the class. -/
theorem wp_region_quiet_tail {id : Nat} {Q : Exit → Act → World → Prop} {a : Act} {w : World} {l : List Oper} (n : Nat) (hm : P.follows .mixedOrders = true) (hB : Region.lexTailB .any l.toArray n = true) (hC : C { w with drawn := w.drawn + 1 })
    (h : wpQuiet P l.toArray C (fun a' => ∀ w', C w' → wpList P l.toArray Q (l.drop n) a' w') (l.take n) a) : (Code.region id l.toArray true).wp P Q a w := by
  simp only [Region.lexTailB, Bool.and_eq_true, decide_eq_true_eq] at hB
  obtain ⟨⟨⟨⟨hsel, hn⟩, hs⟩, hc⟩, hlex⟩ := hB
  have hn' : n < l.length := by simpa using hn
  have htl : (l.take n).length = n := by simp; omega
  have hdl : (l.drop n).length = l.toArray.size - n := by simp
  have inv0 : HeadInv .any l.toArray n (Array.replicate l.toArray.size false) :=
    ⟨by simp, fun j oj _ hl => (by rw [getD_replicate_false] at hl; cases hl), fun t _ ht => getD_in (by simpa using ht) (getD_replicate_false _ _)⟩
  have H := hd_lex (md := .any) (g := l.toArray.size - n) hsel hs hc hn (l.take n) 0 _ a (fun j hj => by
    have hj' : j < n := by rw [htl] at hj; exact hj
    simp [hj']) (by simpa using htl) inv0 (by rw [htl]; exact hlex) h
  refine wp_region_any hm ?_
  have := any_of_hd (Q := Q) (g := l.toArray.size - n) (fun listed a' w' hw' hL => by
    have := wpAny_of_seq (md := .any) (Q' := Q) (l.drop n) n listed a' w' (fun j => by simp [List.getElem?_drop]) (by rw [hdl]; exact hL.1) (hL.2 w' hw')
    rwa [hdl] at this) _ _ _ _ hC H
  rw [htl, show n + (l.toArray.size - n) = l.toArray.size by omega] at this
  exact this
end
end Go.Proofs.Ytebknlhooijkcaa

/- Words of 64 bits: sums, products, bits; the number of bytes; words and numbers of bytes: contracts. Conditions: words, bytes. -/
namespace Go.Proofs.Ytebknlhooijkcaa
set_option linter.unusedSimpArgs false
set_option linter.unusedVariables false
open Go.RowKit

def WdP (x : Int) : Prop := 0 ≤ x ∧ x < 18446744073709551616
theorem wrap_in (n : Int) (h : WdP n) : IntKind.u64.wrap n = n := IntWalk.u64_in n (by unfold WdP at h; omega)
theorem maskN (a : Nat) (ha : a < 18446744073709551616) : bits .and .u64 (a : Int) 4294967295 = ((a % 4294967296 : Nat) : Int) := by
  have h := u64_and_nat a 4294967295 ha (by omega)
  have e : a &&& 4294967295 = a % 4294967296 := Nat.and_two_pow_sub_one_eq_mod a 32
  rw [e] at h
  exact h
theorem divN (a : Nat) : (a : Int) / 4294967296 = ((a / 4294967296 : Nat) : Int) := by omega
theorem mulN (a b : Nat) : (a : Int) * (b : Int) = ((a * b : Nat) : Int) := (Int.natCast_mul a b).symm
theorem addN (a b : Nat) : (a : Int) + (b : Int) = ((a + b : Nat) : Int) := (Int.natCast_add a b).symm
theorem wrapN (a : Nat) (ha : a < 18446744073709551616) : IntKind.u64.wrap (a : Int) = (a : Int) := by rw [IntKind.wrap_u64]; omega
theorem wrapM (a : Nat) : IntKind.u64.wrap (a : Int) = ((a % 18446744073709551616 : Nat) : Int) := by rw [IntKind.wrap_u64]; omega

/-! ### Bits -/
theorem low_bits (j : Nat) (hj : j ≤ 63) (a : Int) (ha : WdP a) : bits .and .u64 a (2 ^ j - 1) = a % 2 ^ j := by
  unfold WdP at ha
  obtain ⟨a, rfl⟩ := Int.eq_ofNat_of_zero_le ha.1
  have e2 : (2 : Int) ^ j = ((2 ^ j : Nat) : Int) := by rw [Int.natCast_pow]; rfl
  have hp : 0 < 2 ^ j := Nat.two_pow_pos j
  have hq : 2 ^ j ≤ 2 ^ 63 := Nat.pow_le_pow_right (by decide) hj
  have e3 : (2 : Int) ^ j - 1 = ((2 ^ j - 1 : Nat) : Int) := by rw [e2]; omega
  rw [e3, u64_and_nat a (2 ^ j - 1) (by omega) (by omega), Nat.and_two_pow_sub_one_eq_mod, e2]
  rfl
theorem join (j : Nat) (x y : Int) (hj : j ≤ 63) (h0 : 0 ≤ x) (h1 : x < 2 ^ j) (g0 : 0 ≤ y) (g1 : y * 2 ^ j < 18446744073709551616) : bits .or .u64 x (y * 2 ^ j) = x + y * 2 ^ j := by
  obtain ⟨x, rfl⟩ := Int.eq_ofNat_of_zero_le h0
  obtain ⟨y, rfl⟩ := Int.eq_ofNat_of_zero_le g0
  have e : ((y : Int) * 2 ^ j) = ((y * 2 ^ j : Nat) : Int) := by rw [Int.natCast_mul, Int.natCast_pow]; rfl
  have e2 : (2 : Int) ^ j = ((2 ^ j : Nat) : Int) := by rw [Int.natCast_pow]; rfl
  have hx : x < 2 ^ j := by rw [e2] at h1; omega
  have hy : y * 2 ^ j < 18446744073709551616 := by rw [e] at g1; omega
  have hj2 : 2 ^ j ≤ 2 ^ 63 := Nat.pow_le_pow_right (by decide) hj
  rw [e, u64_or_nat x (y * 2 ^ j) (by omega) hy, Nat.or_comm, nat_join j (y * 2 ^ j) x (Nat.mul_mod_left _ _) hx]
  omega
theorem join' (j : Nat) (x y : Int) (hj : j ≤ 63) (h0 : 0 ≤ x) (h1 : x < 2 ^ j) (g0 : 0 ≤ y) (g1 : y * 2 ^ j < 18446744073709551616) : bits .or .u64 (y * 2 ^ j) x = y * 2 ^ j + x := by
  obtain ⟨x, rfl⟩ := Int.eq_ofNat_of_zero_le h0
  obtain ⟨y, rfl⟩ := Int.eq_ofNat_of_zero_le g0
  have e : ((y : Int) * 2 ^ j) = ((y * 2 ^ j : Nat) : Int) := by rw [Int.natCast_mul, Int.natCast_pow]; rfl
  have e2 : (2 : Int) ^ j = ((2 ^ j : Nat) : Int) := by rw [Int.natCast_pow]; rfl
  have hx : x < 2 ^ j := by rw [e2] at h1; omega
  have hy : y * 2 ^ j < 18446744073709551616 := by rw [e] at g1; omega
  have hj2 : 2 ^ j ≤ 2 ^ 63 := Nat.pow_le_pow_right (by decide) hj
  rw [e, u64_or_nat (y * 2 ^ j) x hy (by omega), nat_join j (y * 2 ^ j) x (Nat.mul_mod_left _ _) hx]
  omega

/-! ### Numbers of bytes -/
/-- The number of bytes, the lowest first. -/
def vl : List Int → Int
  | [] => 0
  | a :: l => a + 256 * vl l
theorem vl_append (l k : List Int) : vl (l ++ k) = vl l + 256 ^ l.length * vl k := by
  induction l with
  | nil => simp [vl]
  | cons a l ih =>
    simp only [List.cons_append, vl, ih, List.length_cons, Int.pow_succ, Int.mul_add]
    rw [← Int.mul_assoc, Int.mul_comm 256 (256 ^ l.length)]
    omega
theorem vl_bd (l : List Int) (h : Bys l) : 0 ≤ vl l ∧ vl l < (256 : Int) ^ l.length := by
  induction l with
  | nil => simp [vl]
  | cons a l ih =>
    have h1 := ih (fun b hb => h b (by simp [hb]))
    have h2 := h a (by simp)
    simp only [vl, List.length_cons, Int.pow_succ]
    omega
/-- The bytes of a number. -/
def les : Nat → Int → List Int
  | 0, _ => []
  | n + 1, v => v % 256 :: les n (v / 256)
theorem les_length (n : Nat) : ∀ v, (les n v).length = n := by
  induction n with
  | zero => intro v; rfl
  | succ n ih => intro v; simp [les, ih]
theorem les_bys (n : Nat) : ∀ v, Bys (les n v) := by
  induction n with
  | zero => intro v; exact Bys.nil
  | succ n ih =>
    intro v b hb
    rcases List.mem_cons.1 hb with rfl | hb
    · omega
    · exact ih _ b hb
theorem vl_les (n : Nat) : ∀ v : Int, vl (les n v) = v % 256 ^ n := by
  induction n with
  | zero => intro v; simp [les, vl]
  | succ n ih =>
    intro v
    simp only [les, vl, ih]
    rw [Int.pow_succ]
    generalize hp : (256 : Int) ^ n = p
    have hp0 : 0 < p := by rw [← hp]; exact Int.pow_pos (by decide)
    have h1 := Int.emod_add_mul_ediv v 256
    have h2 := Int.emod_add_mul_ediv (v / 256) p
    have b1 := Int.emod_nonneg (v / 256) (by omega : p ≠ 0)
    have b2 := Int.emod_lt_of_pos (v / 256) hp0
    have e : v = (v % 256 + 256 * (v / 256 % p)) + p * 256 * (v / 256 / p) := by
      have : p * 256 * (v / 256 / p) = 256 * (p * (v / 256 / p)) := by rw [Int.mul_comm p 256, Int.mul_assoc]
      rw [this]
      omega
    have h3 : v % (p * 256) = (v % 256 + 256 * (v / 256 % p)) % (p * 256) := by
      conv => lhs; rw [e]
      exact Int.add_mul_emod_self_left _ _ _
    rw [h3]
    exact (Int.emod_eq_of_lt (by omega) (by omega)).symm
theorem les_vl (l : List Int) (h : Bys l) : les l.length (vl l) = l := by
  induction l with
  | nil => rfl
  | cons a l ih =>
    have h2 := h a (by simp)
    have e1 : (a + 256 * vl l) % 256 = a := by omega
    have e2 : (a + 256 * vl l) / 256 = vl l := by omega
    simp only [List.length_cons, les, vl, e1, e2, ih (fun b hb => h b (by simp [hb]))]
theorem vl_inj (l k : List Int) (hl : Bys l) (hk : Bys k) (h : l.length = k.length) (e : vl l = vl k) : l = k := by
  rw [← les_vl l hl, ← les_vl k hk, h, e]
theorem vl_split (l : List Int) (n : Nat) (h : n ≤ l.length) : vl l = vl (l.take n) + 256 ^ n * vl (l.drop n) := by
  conv => lhs; rw [← List.take_append_drop n l]
  rw [vl_append, List.length_take, Nat.min_eq_left h]
theorem eight {l : List Int} (h : l.length = 8) : ∃ a b c d e f g i, l = [a, b, c, d, e, f, g, i] := by
  match l, h with
  | [a, b, c, d, e, f, g, i], _ => exact ⟨a, b, c, d, e, f, g, i, rfl⟩

end Go.Proofs.Ytebknlhooijkcaa

/- Loads of parts of a block; poly.words, poly.numberOf: contracts. Conditions: bytes, their number. -/
namespace Go.Proofs.Ytebknlhooijkcaa
set_option linter.unusedSimpArgs false
set_option linter.unusedVariables false
open Go.RowKit

section
variable {C : World → Prop} {a : Act} {o : Oper} {K : Act → Prop}
/-- A part of a block, an array of integers, is loaded. -/
theorem quiet_midP (ty : TypeId) (d : TypeDesc) (x : Operand) (ho : o.op = .load ty x) (q i : Nat) (hx : a.eval x = .pointer (some ⟨q, i, none⟩)) (k : IntKind) (l : List Int) (hd : Try.prog.underlying ty = some d) (hr : d.isRow = true) (hl : (Try.prog.info? ty).map (·.size) = some l.length) (hg : ∀ w, C w → w.rangeAt q i (vs k l).toList)
    (hk : K (a.put o.dst (.agg (vs k l)))) : o.quiet Try.prog a C K := by
  refine quiet_run _ (fun w hw => ?_) hk
  unfold execOp
  simp only [ho, hx, Instr.loadAt, Instr.sureAddr, Sem.run_bind, Sem.run_pure, Result.andThen_ok, run_loadVar_mid (P := Try.prog) w q i ty (vs k l).toList _ (hg w hw) hd hr (by rw [hl]; simp [vs])]
/-- One cell is loaded. -/
theorem quiet_oneP (ty : TypeId) (k : IntKind) (x : Operand) (ho : o.op = .load ty x) (q i : Nat) (hx : a.eval x = .pointer (some ⟨q, i, none⟩)) (y : Int) (he : Try.prog.underlying ty = some (.int k)) (hg : ∀ w, C w → w.cell? ⟨q, i, none⟩ = some (.int k y))
    (hk : K (a.put o.dst (.int k y))) : o.quiet Try.prog a C K := by
  refine quiet_run _ (fun w hw => ?_) hk
  have hc := hg w hw
  unfold execOp
  simp [ho, hx, Instr.loadAt, Instr.sureAddr, loadVar, isAgg, run_underlying he, hc, Sem.run_bind, Sem.run_pure, Result.andThen_ok]
end
theorem run_arr {a : Act} {o : Oper} (ty : TypeId) (x : Operand) (ho : o.op = .sliceToArrayPointer ty x) (A : Option Addr) (n c : Nat) {m : Nat} {e : TypeId} (hx : a.eval x = .slice A n c) (hd : Try.prog.underlying ty = some (.array m e)) (hm : m ≤ n) (W : World) :
    (execOp a.eval o).run Try.prog W = .ok (.value (.pointer A)) W := by
  unfold execOp
  simp only [ho, hx, Sem.run_bind, run_arrayAt W ty e m A n c hd hm, Result.andThen_ok, Sem.run_pure]
theorem Ar.take {w : World} {g : Nat} {t : TypeId} {k : IntKind} {l : List Int} (h : Ar w g t k l) (n : Nat) : w.rangeAt g 0 (vs k (l.take n)).toList := fun j v hv => by
  rw [Nat.zero_add, cell_of_row w g j _ _ _ h, vs_get]
  simp only [vs, Array.toList_map, List.getElem?_map, List.getElem?_take] at hv
  split at hv
  · exact hv
  · cases hv
theorem Ar.drop {w : World} {g : Nat} {t : TypeId} {k : IntKind} {l : List Int} (h : Ar w g t k l) (n : Nat) : w.rangeAt g n (vs k (l.drop n)).toList := fun j v hv => by
  rw [cell_of_row w g (n + j) _ _ _ h, vs_get]
  simpa [vs] using hv
theorem info26 : (Try.prog.info? 80).map (·.size) = some 16 := by kernel_rfl
theorem info23 : (Try.prog.info? 32).map (·.size) = some 32 := by kernel_rfl
theorem zero26 (w : World) : (zeroValue 80).run Try.prog w = .ok (.agg (vs .u8 (List.replicate 16 0))) w := by kernel_rfl
/-- The three parts of a number. -/
def num (v : Int) : List Int := [v % 17592186044416, v / 17592186044416 % 17592186044416, v / 309485009821345068724781056]
end Go.Proofs.Ytebknlhooijkcaa

/- poly.cleared: a key's r: contract. Conditions: bytes, their number. -/
namespace Go.Proofs.Ytebknlhooijkcaa
set_option linter.unusedSimpArgs false
set_option linter.unusedVariables false
open Go.RowKit

/-- The bytes of r: the bits that are cleared. -/
def clr : List Int → List Int
  | [b0, b1, b2, b3, b4, b5, b6, b7, b8, b9, b10, b11, b12, b13, b14, b15] => [b0, b1, b2, b3 % 16, b4 - b4 % 4, b5, b6, b7 % 16, b8 - b8 % 4, b9, b10, b11 % 16, b12 - b12 % 4, b13, b14, b15 % 16]
  | l => l
theorem sixteenP {l : List Int} (h : l.length = 16) : ∃ b0 b1 b2 b3 b4 b5 b6 b7 b8 b9 b10 b11 b12 b13 b14 b15, l = [b0, b1, b2, b3, b4, b5, b6, b7, b8, b9, b10, b11, b12, b13, b14, b15] := by
  match l, h with
  | [b0, b1, b2, b3, b4, b5, b6, b7, b8, b9, b10, b11, b12, b13, b14, b15], _ => exact ⟨b0, b1, b2, b3, b4, b5, b6, b7, b8, b9, b10, b11, b12, b13, b14, b15, rfl⟩
theorem clr_length {l : List Int} (h : l.length = 16) : (clr l).length = 16 := by
  obtain ⟨b0, b1, b2, b3, b4, b5, b6, b7, b8, b9, b10, b11, b12, b13, b14, b15, rfl⟩ := sixteenP h
  rfl
theorem clr_bys {l : List Int} (h : l.length = 16) (hb : Bys l) : Bys (clr l) := by
  obtain ⟨b0, b1, b2, b3, b4, b5, b6, b7, b8, b9, b10, b11, b12, b13, b14, b15, rfl⟩ := sixteenP h
  simp only [Bys, List.forall_mem_cons] at hb
  simp only [Bys, clr, List.forall_mem_cons]
  obtain ⟨h0, h1, h2, h3, h4, h5, h6, h7, h8, h9, h10, h11, h12, h13, h14, h15, h16⟩ := hb
  refine ⟨h0, h1, h2, by omega, by omega, h5, h6, by omega, by omega, h9, h10, by omega, by omega, h13, h14, by omega, h16⟩
theorem u8_not3 (x : Int) (h0 : 0 ≤ x) (h1 : x ≤ 255) : bits .andNot .u8 x 3 = x - x % 4 := by
  obtain ⟨x, rfl⟩ := Int.eq_ofNat_of_zero_le h0
  have h := u8_andNot_nat x 3 (by omega) (by omega)
  have e : x &&& (255 - 3) = x - x % 4 := by
    have : ∀ y : Fin 256, y.val &&& (255 - 3) = y.val - y.val % 4 := by decide +kernel
    exact this ⟨x, by omega⟩
  rw [e] at h
  refine h.trans ?_
  omega

end Go.Proofs.Ytebknlhooijkcaa

/- Numbers of 128 bits: wide.plus, wide.from: contracts. Conditions: words; no more than 128 bits come out. -/
namespace Go.Proofs.Ytebknlhooijkcaa
set_option linter.unusedSimpArgs false
set_option linter.unusedVariables false
open Go.RowKit

def wd (V : Int) : Array Value := #[.int .u64 (V / 18446744073709551616), .int .u64 (V % 18446744073709551616)]
theorem wd_words {V : Int} (h0 : 0 ≤ V) (h1 : V < 340282366920938463463374607431768211456) : ∃ h l : Int, wd V = #[.int .u64 h, .int .u64 l] ∧ WdP h ∧ WdP l ∧ Hid (V = l + 18446744073709551616 * h) := by
  refine ⟨_, _, rfl, ⟨by omega, by omega⟩, ⟨by omega, by omega⟩, ?_⟩
  show _ = _
  omega
theorem wd_eq {V h l : Int} (hh : WdP h) (hl : WdP l) (e : V = l + 18446744073709551616 * h) : wd V = #[.int .u64 h, .int .u64 l] := by
  unfold WdP at hh hl
  have e1 : V / 18446744073709551616 = h := by omega
  have e2 : V % 18446744073709551616 = l := by omega
  rw [wd, e1, e2]
theorem wd_zero : wd 0 = #[.int .u64 0, .int .u64 0] := rfl
theorem wd_low {c : Int} (hc : WdP c) : wd c = #[.int .u64 0, .int .u64 c] := wd_eq ⟨by decide, by decide⟩ hc (by omega)

end Go.Proofs.Ytebknlhooijkcaa

/- A block is added and the sum multiplied (number.taken): contract. Conditions: the three parts are within their bits. -/
namespace Go.Proofs.Ytebknlhooijkcaa
set_option linter.unusedSimpArgs false
set_option linter.unusedVariables false
open Go.RowKit

/-- P. -/
def pp : Int := 1361129467683753853853498429727072845819
/-- The number of three parts. -/
def nv (a b c : Int) : Int := a + 17592186044416 * b + 309485009821345068724781056 * c
theorem Ar.of {w : World} {g : Nat} {t : TypeId} {k : IntKind} {l : List Int} (h : w.heap[g]? = some (.cells (vs k l) t (0, 0))) : Ar w g t k l := h
theorem calm3P {w : World} {A B C : Obj} {W0 : World} (h : ((w.alloc A).alloc B).alloc C = W0) : W0.heap[w.heap.size]? = some A ∧ W0.heap[w.heap.size + 1]? = some B ∧ W0.heap[w.heap.size + 1 + 1]? = some C ∧ Fr (fun _ => False) w W0 := by
  obtain ⟨V, hV⟩ : ∃ V, (w.alloc A).alloc B = V := ⟨_, rfl⟩
  have h2 := calm2 hV
  have sV : V.heap.size = w.heap.size + 1 + 1 := by rw [← hV]; simp
  rw [hV] at h
  have h1 := calm1a h
  rw [sV] at h1
  exact ⟨(h1.2.block _ (by omega) (fun x => x)).trans h2.1, (h1.2.block _ (by omega) (fun x => x)).trans h2.2.1, h1.1, h2.2.2.trans h1.2⟩
theorem calm4P {w : World} {A B C D : Obj} {W0 : World} (h : (((w.alloc A).alloc B).alloc C).alloc D = W0) : W0.heap[w.heap.size]? = some A ∧ W0.heap[w.heap.size + 1]? = some B ∧ W0.heap[w.heap.size + 1 + 1]? = some C ∧ W0.heap[w.heap.size + 1 + 1 + 1]? = some D ∧ Fr (fun _ => False) w W0 := by
  obtain ⟨V, hV⟩ : ∃ V, ((w.alloc A).alloc B).alloc C = V := ⟨_, rfl⟩
  have h3 := calm3P hV
  have sV : V.heap.size = w.heap.size + 1 + 1 + 1 := by rw [← hV]; simp
  rw [hV] at h
  have h1 := calm1a h
  rw [sV] at h1
  exact ⟨(h1.2.block _ (by omega) (fun x => x)).trans h3.1, (h1.2.block _ (by omega) (fun x => x)).trans h3.2.1, (h1.2.block _ (by omega) (fun x => x)).trans h3.2.2.1, h1.1, h3.2.2.2.trans h1.2⟩
theorem mul_bd {a b A B : Int} (h0 : 0 ≤ a) (h1 : a ≤ A) (g0 : 0 ≤ b) (g1 : b ≤ B) : 0 ≤ a * b ∧ a * b ≤ A * B :=
  ⟨Int.mul_nonneg h0 g0, Int.mul_le_mul h1 g1 g0 (by omega)⟩
/-- What the three sums come to. -/
theorem taken_mod (x y z r0 r1 r2 a b c : Int) (ha : a = x * r0 + y * (20 * r2) + z * (20 * r1)) (hb : b = a / 17592186044416 + x * r1 + y * r0 + z * (20 * r2)) (hc : c = b / 17592186044416 + x * r2 + y * r1 + z * r0) :
    nv (a % 17592186044416 + 5 * (c / 4398046511104)) (b % 17592186044416) (c % 4398046511104) % pp = nv x y z * nv r0 r1 r2 % pp := by
  obtain ⟨p00, h00⟩ : ∃ p, p = x * r0 := ⟨_, rfl⟩
  obtain ⟨p01, h01⟩ : ∃ p, p = x * r1 := ⟨_, rfl⟩
  obtain ⟨p02, h02⟩ : ∃ p, p = x * r2 := ⟨_, rfl⟩
  obtain ⟨p10, h10⟩ : ∃ p, p = y * r0 := ⟨_, rfl⟩
  obtain ⟨p11, h11⟩ : ∃ p, p = y * r1 := ⟨_, rfl⟩
  obtain ⟨p12, h12⟩ : ∃ p, p = y * r2 := ⟨_, rfl⟩
  obtain ⟨p20, h20⟩ : ∃ p, p = z * r0 := ⟨_, rfl⟩
  obtain ⟨p21, h21⟩ : ∃ p, p = z * r1 := ⟨_, rfl⟩
  obtain ⟨p22, h22⟩ : ∃ p, p = z * r2 := ⟨_, rfl⟩
  have e : nv x y z * nv r0 r1 r2 = p00 + 17592186044416 * (p01 + p10) + 309485009821345068724781056 * (p02 + p11 + p20) + 5444517870735015415413993718908291383296 * (p12 + p21) + 95780971304118053647396689196894323976171195136475136 * p22 := by
    rw [h00, h01, h02, h10, h11, h12, h20, h21, h22]
    unfold nv
    grind
  have ea : a = p00 + 20 * p12 + 20 * p21 := by rw [ha, h00, h12, h21]; grind
  have eb : b = a / 17592186044416 + p01 + p10 + 20 * p22 := by rw [hb, h01, h10, h22]; grind
  have ec : c = b / 17592186044416 + p02 + p11 + p20 := by rw [hc, h02, h11, h20]
  have k : nv x y z * nv r0 r1 r2 = nv (a % 17592186044416 + 5 * (c / 4398046511104)) (b % 17592186044416) (c % 4398046511104) + pp * (4 * (p12 + p21 + 17592186044416 * p22) + c / 4398046511104) := by
    rw [e]
    unfold nv pp
    clear e h00 h01 h02 h10 h11 h12 h20 h21 h22 ha hb hc
    omega
  rw [k, Int.add_mul_emod_self_left]

/-- Within their bits: a first part, as it is kept. -/
structure In (m0 m1 m2 : Int) : Prop where
  a0 : 0 ≤ m0
  a1 : m0 < 2251799813685248
  b0 : 0 ≤ m1
  b1 : m1 < 17592186044416
  c0 : 0 ≤ m2
  c1 : m2 < 4398046511104

end Go.Proofs.Ytebknlhooijkcaa

/- number.carried, number.least: contracts. Conditions: the three parts are within their bits. -/
namespace Go.Proofs.Ytebknlhooijkcaa
set_option linter.unusedSimpArgs false
set_option linter.unusedVariables false
open Go.RowKit

end Go.Proofs.Ytebknlhooijkcaa

/- number.plus: the tag: contract. Conditions: a number below 2^130, two words. -/
namespace Go.Proofs.Ytebknlhooijkcaa
set_option linter.unusedSimpArgs false
set_option linter.unusedVariables false
open Go.RowKit

theorem getD_les (n : Nat) : ∀ (i : Nat) (v : Int), i < n → (les n v)[i]? = some (v / 256 ^ i % 256) := by
  induction n with
  | zero => intro i v h; omega
  | succ n ih =>
    intro i v h
    cases i with
    | zero => simp [les]
    | succ i =>
      simp only [les, List.getElem?_cons_succ]
      rw [ih i (v / 256) (by omega), Int.pow_succ, Int.mul_comm, Int.ediv_ediv_of_nonneg (by decide)]
theorem les_append (n m : Nat) : ∀ (a b : Int), 0 ≤ a → a < 256 ^ n → les n a ++ les m b = les (n + m) (a + 256 ^ n * b) := by
  induction n with
  | zero => intro a b h0 h1; simp at h1; have : a = 0 := by omega
            subst this; simp [les]
  | succ n ih =>
    intro a b h0 h1
    rw [show n + 1 + m = (n + m) + 1 by omega]
    rw [Int.pow_succ] at h1 ⊢
    generalize hp : (256 : Int) ^ n = p at *
    have e : a + p * 256 * b = a + 256 * (p * b) := by rw [Int.mul_comm p 256, Int.mul_assoc]
    have e1 : (a + 256 * (p * b)) % 256 = a % 256 := by omega
    have e2 : (a + 256 * (p * b)) / 256 = a / 256 + p * b := by omega
    simp only [les, List.cons_append, e, e1, e2]
    rw [ih (a / 256) b (by omega) (by omega)]
theorem wp_store_one {o : Oper} {a : Act} {w : World} {K : Act → World → Prop} {Q : Exit → Act → World → Prop} (ty : TypeId) (k : IntKind) (x y : Operand) (ho : o.op = .store ty x y) (q i : Nat) (hx : a.eval x = .pointer (some ⟨q, i, none⟩)) (v : Int) (hy : a.eval y = .int k v)
    (he : Try.prog.underlying ty = some (.int k)) (hz : (Try.prog.info? ty).map (·.size) = some 1) {t : TypeId} {l : List Int} (hA : Ar w q t k l) (hi : i < l.length) (h : K (a.put o.dst undef) (w.setCell ⟨q, i, none⟩ (.int k v))) : o.wp Try.prog a w K Q := by
  have hc := hA.cell (getD_some hi)
  have hf := hA.frozen i
  have hw : (w.cell? ⟨q, i, none⟩).isSome = true := by rw [hc]; rfl
  have hst : (storeVar ty ⟨q, i, none⟩ (.int k v)).run Try.prog w = .ok () (w.setCell ⟨q, i, none⟩ (.int k v)) := by
    cases hq : Try.prog.info? ty with
    | none => simp [hq] at hz
    | some n =>
      have hs : n.size = 1 := by simpa [hq] using hz
      simp [storeVar, sizeOf, typeInfo, hq, hs, Value.cells, storeCells, Addr.add, Sem.run_bind, Sem.run_pure, Result.andThen_ok]
      refine (run_store Try.prog w _ _ _ rfl).trans ?_
      rw [hc]
      simp [hf]
  unfold Oper.wp execOp
  simp only [ho, hx, hy, Instr.storeAt, Instr.sureAddr, Sem.run_bind, Sem.run_pure, Result.andThen_ok, hst]
  exact h

/-- Two halves of eight, each filled from its head. -/
def fl2 (L : List Int) (t : Nat) : List Int := fil (L.take 8) t 0 ++ fil (L.drop 8) t 0
theorem fl2_zero (L : List Int) (h : L.length = 16) : fl2 L 0 = List.replicate 16 0 := by
  unfold fl2
  rw [fil_zero, fil_zero, List.length_take, List.length_drop, h]
  rfl
theorem fl2_length (L : List Int) (h : L.length = 16) (t : Nat) (ht : t ≤ 8) : (fl2 L t).length = 16 := by
  unfold fl2
  rw [List.length_append, fil_length _ _ _ (by rw [List.length_take]; omega), fil_length _ _ _ (by rw [List.length_drop]; omega), List.length_take, List.length_drop]
  omega
theorem fl2_all (L : List Int) (h : L.length = 16) : fl2 L 8 = L := by
  unfold fl2
  have e1 := fil_all (L.take 8) (0 : Int)
  have e2 := fil_all (L.drop 8) (0 : Int)
  rw [List.length_take, h] at e1
  rw [List.length_drop, h] at e2
  rw [show min 8 16 = 8 from rfl] at e1
  rw [show 16 - 8 = 8 from rfl] at e2
  rw [e1, e2, List.take_append_drop]
theorem fl2_set (L : List Int) (h : L.length = 16) (t : Nat) (ht : t < 8) (x y : Int) (hx : L[t]? = some x) (hy : L[8 + t]? = some y) : ((fl2 L t).set t x).set (8 + t) y = fl2 L (t + 1) := by
  unfold fl2
  have l1 : (fil (L.take 8) t 0).length = 8 := by rw [fil_length _ _ _ (by rw [List.length_take]; omega), List.length_take]; omega
  rw [List.set_append_left _ _ (by omega), List.set_append_right _ _ (by rw [List.length_set]; omega), List.length_set, l1, Nat.add_sub_cancel_left]
  rw [fil_set _ _ _ _ (by rw [List.getElem?_take, if_pos ht]; exact hx), fil_set _ _ _ _ (by rw [List.getElem?_drop]; exact hy)]
end Go.Proofs.Ytebknlhooijkcaa

/- The tag of bytes, as a function; its laws. Lemmas alone. -/
namespace Go.Proofs.Ytebknlhooijkcaa
set_option linter.unusedSimpArgs false
set_option linter.unusedVariables false
open Go.RowKit

/-- The sum, block by block (n: as many steps as there may be). -/
def hb (r : Int) : Nat → Int → List Int → Int
  | 0, h, _ => h
  | n + 1, h, l => if l.isEmpty then h else hb r n ((h + vl (l.take 16 ++ [1])) * r % pp) (l.drop 16)
/-- The sum of bytes. -/
def hsh (r : Int) (l : List Int) : Int := hb r l.length 0 l
/-- A key's r. -/
def rr (k : List Int) : Int := vl (clr (k.take 16))
/-- The tag. -/
def tag (k l : List Int) : List Int := les 16 (hsh (rr k) l + vl (k.drop 16))

theorem hb_nil (r h : Int) (n : Nat) : hb r n h [] = h := by cases n <;> simp [hb]
theorem hb_fuel (r : Int) : ∀ (n m : Nat) (h : Int) (l : List Int), l.length ≤ n → l.length ≤ m → hb r n h l = hb r m h l := by
  intro n
  induction n with
  | zero =>
    intro m h l h1 _
    have : l = [] := List.eq_nil_of_length_eq_zero (by omega)
    subst this
    rw [hb_nil, hb_nil]
  | succ n ih =>
    intro m h l h1 h2
    cases m with
    | zero =>
      have : l = [] := List.eq_nil_of_length_eq_zero (by omega)
      subst this
      rw [hb_nil, hb_nil]
    | succ m =>
      simp only [hb]
      split
      · rfl
      · rename_i he
        have : l.length ≠ 0 := fun e => he (by rw [List.eq_nil_of_length_eq_zero e]; rfl)
        exact ih m _ _ (by rw [List.length_drop]; omega) (by rw [List.length_drop]; omega)
theorem hb_step (r h : Int) (l : List Int) (hl : l ≠ []) : hb r l.length h l = hb r (l.drop 16).length ((h + vl (l.take 16 ++ [1])) * r % pp) (l.drop 16) := by
  have h0 : l.length ≠ 0 := fun e => hl (List.eq_nil_of_length_eq_zero e)
  have he : ¬ l.isEmpty = true := by simpa using hl
  obtain ⟨n, hn⟩ : ∃ n, l.length = n + 1 := ⟨l.length - 1, by omega⟩
  rw [hn]
  simp only [hb, if_neg he]
  exact hb_fuel _ _ _ _ _ (by rw [List.length_drop]; omega) (Nat.le_refl _)
theorem hb_app (r : Int) : ∀ (n : Nat) (h : Int) (l m : List Int), l.length = 16 * n → hb r (l ++ m).length h (l ++ m) = hb r m.length (hb r l.length h l) m := by
  intro n
  induction n with
  | zero =>
    intro h l m hl
    have : l = [] := List.eq_nil_of_length_eq_zero (by omega)
    subst this
    rw [hb_nil, List.nil_append]
  | succ n ih =>
    intro h l m hl
    have l0 : l ≠ [] := by rintro rfl; simp at hl
    rw [hb_step r h (l ++ m) (by simp [l0]), hb_step r h l l0]
    rw [List.drop_append_of_le_length (by omega), List.take_append_of_le_length (by omega)]
    exact ih _ (l.drop 16) m (by rw [List.length_drop]; omega)
theorem hsh_nil (r : Int) : hsh r [] = 0 := rfl
/-- One block more, full or not. -/
theorem hsh_block (r : Int) (l m : List Int) (hl : l.length % 16 = 0) (hm0 : 0 < m.length) (hm : m.length ≤ 16) : hsh r (l ++ m) = (hsh r l + vl (m ++ [1])) * r % pp := by
  unfold hsh
  rw [hb_app r (l.length / 16) 0 l m (by omega), hb_step r _ m (by rintro rfl; simp at hm0)]
  have e1 : m.drop 16 = [] := List.drop_eq_nil_of_le hm
  have e2 : m.take 16 = m := List.take_of_length_le hm
  rw [e1, e2, hb_nil]
theorem hb_bd (r : Int) : ∀ (n : Nat) (h : Int) (l : List Int), 0 ≤ h → h < pp → 0 ≤ hb r n h l ∧ hb r n h l < pp := by
  intro n
  induction n with
  | zero => intro h l h0 h1; exact ⟨h0, h1⟩
  | succ n ih =>
    intro h l h0 h1
    simp only [hb]
    split
    · exact ⟨h0, h1⟩
    · exact ih _ _ (Int.emod_nonneg _ (by decide)) (Int.emod_lt_of_pos _ (by decide))
theorem hsh_bd (r : Int) (l : List Int) : 0 ≤ hsh r l ∧ hsh r l < pp := hb_bd r _ _ _ (by decide) (by decide)
theorem nv_num (v : Int) : nv (v % 17592186044416) (v / 17592186044416 % 17592186044416) (v / 309485009821345068724781056) = v := by
  unfold nv
  omega
theorem vl_zeros (n : Nat) : vl (List.replicate n 0) = 0 := by
  induction n with
  | zero => rfl
  | succ n ih => rw [List.replicate_succ, vl, ih]; rfl
theorem vl_pad (l : List Int) (n : Nat) : vl (l ++ List.replicate n 0) = vl l := by rw [vl_append, vl_zeros]; omega
theorem vl_full (l : List Int) (h : l.length = 16) : vl (l ++ [1]) = vl l + 340282366920938463463374607431768211456 := by
  rw [vl_append, h]
  simp [vl]
theorem tag_length (k l : List Int) : (tag k l).length = 16 := les_length _ _
theorem tag_bys (k l : List Int) : Bys (tag k l) := les_bys _ _
theorem rr_bd {k : List Int} (hk : k.length = 32) (hb : Bys k) : 0 ≤ rr k ∧ rr k < 21267647932558653966460912964485513216 := by
  obtain ⟨b0, b1, b2, b3, b4, b5, b6, b7, b8, b9, b10, b11, b12, b13, b14, b15, e⟩ := sixteenP (l := k.take 16) (by rw [List.length_take, hk]; rfl)
  have hB := hb.take 16
  unfold rr
  rw [e] at hB ⊢
  simp only [Bys, List.forall_mem_cons] at hB
  simp only [clr, vl]
  omega
theorem add_emod (x y r : Int) : (x % pp + y) * r % pp = (x + y) * r % pp := by
  rw [Int.mul_emod, Int.emod_add_emod, ← Int.mul_emod]
end Go.Proofs.Ytebknlhooijkcaa

/- The reference's carry: contract. Conditions: seventeen digits that are not negative and below 2^40. -/
namespace Go.Proofs.Ytebknlhooijkcaa
set_option linter.unusedSimpArgs false
set_option linter.unusedVariables false
open Go.RowKit

/-- Digits that were carried as far as a place. -/
def pas (L : List Int) (i : Nat) : List Int := les i (vl (L.take i)) ++ L.drop i
theorem vl_take_succ (L : List Int) (i : Nat) (h : i < L.length) : vl (L.take (i + 1)) = vl (L.take i) + 256 ^ i * L.getD i 0 := by
  rw [List.take_succ_eq_append_getElem h, vl_append, List.length_take, Nat.min_eq_left (by omega)]
  simp [vl, List.getD_eq_getElem?_getD, List.getElem?_eq_getElem h]
theorem les_add (i : Nat) (x : Int) : ∀ v : Int, les i (v + 256 ^ i * x) = les i v := by
  induction i with
  | zero => intro v; rfl
  | succ i ih =>
    intro v
    rw [Int.pow_succ]
    generalize hp : (256 : Int) ^ i = p at *
    have e : v + p * 256 * x = v + 256 * (p * x) := by rw [Int.mul_comm p 256, Int.mul_assoc]
    have e1 : (v + 256 * (p * x)) % 256 = v % 256 := by omega
    have e2 : (v + 256 * (p * x)) / 256 = v / 256 + p * x := by omega
    simp only [les, e, e1, e2, ih]
theorem les_succ (i : Nat) : ∀ v : Int, les (i + 1) v = les i v ++ [v / 256 ^ i % 256] := by
  induction i with
  | zero => intro v; simp [les]
  | succ i ih =>
    intro v
    rw [les, ih]
    simp only [les, List.cons_append]
    rw [Int.pow_succ, Int.mul_comm, Int.ediv_ediv_of_nonneg (by decide)]
theorem up_succ (L : List Int) (i : Nat) (h : i < L.length) : vl (L.take (i + 1)) / 256 ^ (i + 1) = (L.getD i 0 + vl (L.take i) / 256 ^ i) / 256 ∧ vl (L.take (i + 1)) / 256 ^ i = L.getD i 0 + vl (L.take i) / 256 ^ i := by
  have hp : (0 : Int) < 256 ^ i := Int.pow_pos (by decide)
  have e : vl (L.take (i + 1)) / 256 ^ i = L.getD i 0 + vl (L.take i) / 256 ^ i := by
    rw [vl_take_succ L i h, Int.add_mul_ediv_left _ _ (by omega)]
    omega
  refine ⟨?_, e⟩
  rw [Int.pow_succ, ← Int.ediv_ediv_of_nonneg (by omega), e]
theorem pas_zero (L : List Int) : pas L 0 = L := by simp [pas, les]
theorem pas_all (L : List Int) (n : Nat) (h : L.length = n) : pas L n = les n (vl L) := by
  unfold pas
  rw [List.take_of_length_le (by omega), List.drop_eq_nil_of_le (by omega), List.append_nil]
theorem pas_length (L : List Int) (i : Nat) (h : i ≤ L.length) : (pas L i).length = L.length := by
  unfold pas
  rw [List.length_append, les_length, List.length_drop]
  omega
theorem pas_get (L : List Int) (i : Nat) (h : i < L.length) : (pas L i)[i]? = some (L.getD i 0) := by
  unfold pas
  rw [List.getElem?_append_right (by rw [les_length]; omega), les_length, Nat.sub_self, List.getElem?_drop, Nat.add_zero]
  exact getD_some h
theorem pas_set (L : List Int) (i : Nat) (h : i < L.length) : (pas L i).set i ((L.getD i 0 + vl (L.take i) / 256 ^ i) % 256) = pas L (i + 1) := by
  unfold pas
  rw [List.set_append_right _ _ (by rw [les_length]; omega), les_length, Nat.sub_self, les_succ, (up_succ L i h).2, List.drop_eq_getElem_cons h, List.set_cons_zero, vl_take_succ L i h, les_add]
  simp
/-- One round: what is above 2^130 counts five times. -/
def rnd (v : Int) : Int := v % 1361129467683753853853498429727072845824 + 5 * (v / 1361129467683753853853498429727072845824)
theorem rnd_mod (v : Int) : rnd v % pp = v % pp := by
  unfold rnd pp
  omega
theorem rnd_bd (v : Int) (h0 : 0 ≤ v) (h1 : v < 5846006549323611672814739330865132078623730171904) : 0 ≤ rnd v ∧ rnd v < 1361129467683753853853498429727072845824 + 21474836480 := by
  unfold rnd
  omega
theorem rnd_bd2 (v : Int) (h0 : 0 ≤ v) (h1 : v < 1361129467683753853853498429727072845824 + 21474836480) : 0 ≤ rnd v ∧ rnd v < 1361129467683753853853498429727072845824 := by
  unfold rnd
  omega
theorem rnd_id (v : Int) (h0 : 0 ≤ v) (h1 : v < 1361129467683753853853498429727072845824) : rnd v = v := by
  unfold rnd
  omega
/-- Digits, within a bound. -/
def Dg (m : Int) (L : List Int) : Prop := ∀ x ∈ L, 0 ≤ x ∧ x < m
theorem Dg.getD {m : Int} {L : List Int} (h : Dg m L) {i : Nat} (hi : i < L.length) : 0 ≤ L.getD i 0 ∧ L.getD i 0 < m := h _ (List.mem_of_getElem? (getD_some hi))
theorem vl_dg (L : List Int) (m : Int) (hm : 0 < m) (h : Dg m L) : 0 ≤ vl L ∧ 255 * vl L ≤ (m - 1) * (256 ^ L.length - 1) := by
  induction L with
  | nil => simp [vl]
  | cons x L ih =>
    have h1 := ih (fun y hy => h y (by simp [hy]))
    have h2 := h x (by simp)
    simp only [vl, List.length_cons, Int.pow_succ]
    generalize (256 : Int) ^ L.length = p at *
    have e : (m - 1) * (p * 256 - 1) = 256 * ((m - 1) * (p - 1)) + 255 * (m - 1) := by grind
    rw [e]
    omega
/-- What a round makes of the digits of a number. -/
def nxt (v : Int) : List Int := (les 17 (v % 1361129467683753853853498429727072845824)).set 0 (v % 256 + 5 * (v / 1361129467683753853853498429727072845824))
theorem nxt_vl (v : Int) : vl (nxt v) = rnd v := by
  unfold nxt rnd
  obtain ⟨u, hu⟩ : ∃ u, u = v % 1361129467683753853853498429727072845824 := ⟨_, rfl⟩
  have h := vl_les 17 u
  rw [← hu]
  have e : les 17 u = u % 256 :: les 16 (u / 256) := rfl
  rw [e] at h ⊢
  simp only [List.set_cons_zero, vl] at h ⊢
  simp only [Int.reducePow] at h
  omega
theorem nxt_length (v : Int) : (nxt v).length = 17 := by simp [nxt, les_length]
theorem nxt_dg (v : Int) (h0 : 0 ≤ v) (h1 : v < 5846006549323611672814739330865132078623730171904) : Dg 1099511627776 (nxt v) := by
  intro x hx
  unfold nxt at hx
  rcases List.mem_or_eq_of_mem_set hx with hx | rfl
  · have := les_bys _ _ x hx
    omega
  · omega
theorem nxt_small (v : Int) (h0 : 0 ≤ v) (h1 : v < 1361129467683753853853498429727072845824) : nxt v = les 17 v := by
  unfold nxt
  have e1 : v % 1361129467683753853853498429727072845824 = v := by omega
  have e2 : v / 1361129467683753853853498429727072845824 = 0 := by omega
  rw [e1, e2]
  show _ = v % 256 :: les 16 (v / 256)
  have e : les 17 v = v % 256 :: les 16 (v / 256) := rfl
  rw [e, List.set_cons_zero]
  congr 1
  omega
theorem les17_set (v : Int) (c d : Int) (hd : v % 1361129467683753853853498429727072845824 = d) (hc : v / 1361129467683753853853498429727072845824 = c) :
    ((les 17 v).set 16 (v / 340282366920938463463374607431768211456 % 256 % 4)).set 0 (v % 256 + 5 * c) = nxt v := by
  unfold nxt
  rw [hc, hd]
  have e : ∀ u : Int, les 17 u = les 16 u ++ [u / 340282366920938463463374607431768211456 % 256] := fun u => les_succ 16 u
  have e3 : les 16 d = les 16 v := by
    have h := les_add 16 (4 * c) d
    rw [← h]
    congr 1
    simp only [Int.reducePow]
    omega
  rw [e, e, e3, List.set_append_right _ _ (by rw [les_length]; omega), les_length, Nat.sub_self, List.set_cons_zero]
  congr 3
  omega
end Go.Proofs.Ytebknlhooijkcaa
