/- A region that draws its order: a head of operations that keep what is there, and a tail in its order behind it. Lemmas alone. -/
import Derived.Test.YtbafppdmlhogbaaK
import Derived.StillTailTactics
import Derived.Lib.Mul64
import Derived.Laws.Cover3
namespace Go.Proofs.Ytbafppdmlhogbaa
set_option linter.unusedSimpArgs false
set_option linter.unusedVariables false
open Go.RowKit Go

section
variable {P : Program} {ops : Array Oper} {md : Region.Mode} {C : World → Prop}
/-- The head, in any order that is ready: each step keeps the class; at its end what is asked. -/
def hd (P : Program) (md : Region.Mode) (ops : Array Oper) (C : World → Prop) (n : Nat) (L : Array Bool → Act → Prop) : Nat → Array Bool → Act → Prop
  | 0, listed, a => L listed a
  | f + 1, listed, a => Region.ready md ops listed ≠ [] ∧ ∀ i ∈ Region.ready md ops listed, i < n ∧ qOp P ops C i (hd P md ops C n L f (listed.setIfInBounds i true)) a

theorem any_of_hd {n g : Nat} {L : Array Bool → Act → Prop} {Q : Exit → Act → World → Prop} (hL : ∀ listed a w, C w → L listed a → wpAny P md ops Q g listed a w) (f : Nat) :
    ∀ (listed : Array Bool) (a : Act) (w : World), C w → hd P md ops C n L f listed a → wpAny P md ops Q (f + g) listed a w := by
  induction f with
  | zero => intro listed a w hw h; rw [Nat.zero_add]; exact hL _ _ _ hw h
  | succ f ih =>
    intro listed a w hw h
    rw [show f + 1 + g = (f + g) + 1 by omega]
    exact ⟨fun e => absurd e h.1, fun i hi => wpOp_of_qOp hw (fun a' w' hw' h' => ih _ a' w' hw' h') (h.2 i hi).2⟩

theorem hd_first {n i : Nat} {oi : Oper} {v : Value} {L : Array Bool → Act → Prop} (hi : ops[i]? = some oi) (hsel : ∀ (j : Nat) (o : Oper) cs b, ops[j]? = some o → o.op ≠ .select cs b)
    (hs : Region.sinkB md ops n = true) (hc : Region.chainB md ops n = true) (hn : n < ops.size) (hin : i < n)
    (hdone : ∀ listed a, L listed a → ∀ j ∈ Region.ready md ops listed, n ≤ j) (f : Nat) :
    ∀ (listed : Array Bool) (a : Act), HeadInv md ops n listed →
      (∀ j oj, ops[j]? = some oj → j ≠ i → listed.getD j true = false → (∀ e ∈ oj.after, Region.binds md e = true → e.on ≠ i) → oi.apart ops oj = true) →
      i ∈ Region.ready md ops listed → YieldsIn P ops C oi v a →
      hd P md ops C n L f (listed.setIfInBounds i true) (a.put oi.dst v) → hd P md ops C n L (f + 1) listed a := by
  induction f with
  | zero =>
    intro listed a inv _ hr hy H
    have hun := (mem_ready.1 hr).1
    refine ⟨fun h => (by rw [h] at hr; cases hr), fun j hj => ?_⟩
    have hjn : j < n := by
      rcases Nat.lt_or_ge j n with h | h
      · exact h
      · exact absurd hj (tail_waits hs hc hn inv _ i rfl hin hun j h)
    refine ⟨hjn, ?_⟩
    by_cases hji : j = i
    · subst hji; exact hy.qOp hi H
    · have := hdone _ _ H j (ready_mono hj hji)
      omega
  | succ f ih =>
    intro listed a inv hfree hr hy H
    have hun := (mem_ready.1 hr).1
    refine ⟨fun h => (by rw [h] at hr; cases hr), fun j hj => ?_⟩
    have hjn : j < n := by
      rcases Nat.lt_or_ge j n with h | h
      · exact h
      · exact absurd hj (tail_waits hs hc hn inv _ i rfl hin hun j h)
    refine ⟨hjn, ?_⟩
    by_cases hji : j = i
    · subst hji; exact hy.qOp hi H
    · obtain ⟨hjun, oj, hoj, hall⟩ := mem_ready.1 hj
      have hnot : ∀ e ∈ oj.after, Region.binds md e = true → e.on ≠ i := fun e he hb heq => by
        have h1 := hall e he hb
        rw [heq, getD_both hun] at h1
        cases h1
      have h2 := qOp_put hoj (hfree j oj hoj hji hjun hnot) (fun cs b => hsel i oi cs b hi) (fun cs b => hsel j oj cs b hoj) hy (H.2 j (ready_mono hj hji)).2
      have hfree' : ∀ k ok, ops[k]? = some ok → k ≠ i → (listed.setIfInBounds j true).getD k true = false →
          (∀ e ∈ ok.after, Region.binds md e = true → e.on ≠ i) → oi.apart ops ok = true := fun k ok hk hki hku hno => by
        refine hfree k ok hk hki ?_ hno
        by_cases hjk : j = k
        · subst hjk; exact hjun
        · rw [getD_set_ne true hjk] at hku; exact hku
      refine qOp_mono (fun a' h3 => ih (listed.setIfInBounds j true) a' (inv.set hj hjn) hfree' (ready_mono hr (Ne.symm hji)) h3.1 ?_) h2
      rw [Array.setIfInBounds_comm _ _ hji]
      exact h3.2

theorem hd_lex {n g : Nat} {Lq : Act → Prop} (hsel : Region.noSelect ops = true) (hs : Region.sinkB md ops n = true) (hc : Region.chainB md ops n = true) (hn : n < ops.size) :
    ∀ (l : List Oper) (k : Nat) (listed : Array Bool) (a : Act), (∀ j, j < l.length → l[j]? = ops[k + j]?) → k + l.length = n → HeadInv md ops n listed →
    Region.lexHead md ops g l.length k listed = true → wpQuiet P ops C Lq l a →
    hd P md ops C n (fun listed' a' => Region.seqB md ops g n listed' = true ∧ Lq a') l.length listed a
  | [], k, listed, a, _, hk, _, hB, h => by
    have : k = n := by simpa using hk
    subst this
    exact ⟨by simpa [Region.lexHead] using hB, h⟩
  | o :: l, k, listed, a, hl, hk, inv, hB, h => by
    have h0 : ops[k]? = some o := by simpa using (hl 0 (by simp)).symm
    simp only [List.length_cons, Region.lexHead, Bool.and_eq_true] at hB
    obtain ⟨⟨hr, hf⟩, hB'⟩ := hB
    have hkn : k < n := by simp only [List.length_cons] at hk; omega
    have hr' : k ∈ Region.ready md ops listed := by simpa using hr
    have hst : qOp P ops C k (wpQuiet P ops C Lq l) a := by unfold qOp; simp only [h0]; exact h
    obtain ⟨v, hy, hK⟩ := yieldsIn_of_qOp h0 hst
    exact hd_first h0 (Region.noSelect_spec hsel) hs hc hn hkn (fun listed' a' hL => seqB_ready hL.1) l.length listed a inv (Region.free_spec h0 hf) hr' hy
      (hd_lex hsel hs hc hn l (k + 1) _ _ (fun j hj => by have := hl (j + 1) (by simp; omega); simpa [Nat.add_assoc, Nat.add_comm 1 j] using this) (by simp only [List.length_cons] at hk; omega) (inv.set hr' hkn) hB' hK)

/-- The head's n operations have each one value in all worlds of the class; the rest is walked behind them, from any world of the class. -/
theorem wp_region_quiet_tail {id : Nat} {Q : Exit → Act → World → Prop} {a : Act} {w : World} {l : List Oper} (n : Nat) (hm : P.follows .mixedOrders = true) (hB : Region.lexTailB .any l.toArray n = true) (hC : C { w with drawn := w.drawn + 1 })
    (h : wpQuiet P l.toArray C (fun a' => ∀ w', C w' → wpList P l.toArray Q (l.drop n) a' w') (l.take n) a) : (Code.region id l.toArray true).wp P Q a w := by
  simp only [Region.lexTailB, Bool.and_eq_true, decide_eq_true_eq] at hB
  obtain ⟨⟨⟨⟨hsel, hn⟩, hs⟩, hc⟩, hlex⟩ := hB
  have hn' : n < l.length := by simpa using hn
  have htl : (l.take n).length = n := by simp; omega
  have hdl : (l.drop n).length = l.toArray.size - n := by simp
  have inv0 : HeadInv .any l.toArray n (Array.replicate l.toArray.size false) :=
    ⟨by simp, fun j oj _ hl => (by rw [getD_replicate_false] at hl; cases hl), fun t _ ht => getD_in (by simpa using ht) (getD_replicate_false _ _)⟩
  have H := hd_lex (md := .any) (g := l.toArray.size - n) hsel hs hc hn (l.take n) 0 _ a (fun j hj => by
    have hj' : j < n := by rw [htl] at hj; exact hj
    simp [hj']) (by simpa using htl) inv0 (by rw [htl]; exact hlex) h
  refine wp_region_any hm ?_
  have := any_of_hd (Q := Q) (g := l.toArray.size - n) (fun listed a' w' hw' hL => by
    have := wpAny_of_seq (md := .any) (Q' := Q) (l.drop n) n listed a' w' (fun j => by simp [List.getElem?_drop]) (by rw [hdl]; exact hL.1) (hL.2 w' hw')
    rwa [hdl] at this) _ _ _ _ hC H
  rw [htl, show n + (l.toArray.size - n) = l.toArray.size by omega] at this
  exact this
end
end Go.Proofs.Ytbafppdmlhogbaa

/- Words of 64 bits: sums, products, bits; the number of bytes; words and numbers of bytes: contracts. Conditions: words, bytes. -/
namespace Go.Proofs.Ytbafppdmlhogbaa
set_option linter.unusedSimpArgs false
set_option linter.unusedVariables false
open Go.RowKit

def WdP (x : Int) : Prop := 0 ≤ x ∧ x < 18446744073709551616
theorem wrap_in (n : Int) (h : WdP n) : IntKind.u64.wrap n = n := IntWalk.u64_in n (by unfold WdP at h; omega)
theorem run_add (x y c : Int) (hx : 0 ≤ x) (hy : 0 ≤ y) (hc0 : 0 ≤ c) (hc : c ≤ 1) (w : World) : (callFunc 52 #[.int .u64 x, .int .u64 y, .int .u64 c]).run Try.prog w =
    .ok (.value (.tuple #[.int .u64 ((x + y + c) % 18446744073709551616), .int .u64 ((x + y + c) / 18446744073709551616)])) w := by
  rw [run_callFunc_extern Try.func52 (by kernel_rfl) (by kernel_rfl) (by kernel_rfl) (e := add64Entry) (by kernel_rfl), run_add64 x y c hx hy hc0 hc]
  rfl
theorem run_add_ex (x y c : Int) (hx : WdP x) (hy : WdP y) (hc0 : 0 ≤ c) (hc : c ≤ 1) : ∃ s k : Int, WdP s ∧ 0 ≤ k ∧ k ≤ 1 ∧ Hid (x + y + c = s + 18446744073709551616 * k) ∧
    ∀ w, (callFunc 52 #[.int .u64 x, .int .u64 y, .int .u64 c]).run Try.prog w = .ok (.value (.tuple #[.int .u64 s, .int .u64 k])) w := by
  unfold WdP at hx hy
  refine ⟨_, _, ?_, ?_, ?_, ?_, fun w => run_add x y c (by omega) (by omega) hc0 hc w⟩
  · exact ⟨by omega, by omega⟩
  · omega
  · omega
  · show _ = _
    omega
theorem maskN (a : Nat) (ha : a < 18446744073709551616) : bits .and .u64 (a : Int) 4294967295 = ((a % 4294967296 : Nat) : Int) := by
  have h := u64_and_nat a 4294967295 ha (by omega)
  have e : a &&& 4294967295 = a % 4294967296 := Nat.and_two_pow_sub_one_eq_mod a 32
  rw [e] at h
  exact h
theorem divN (a : Nat) : (a : Int) / 4294967296 = ((a / 4294967296 : Nat) : Int) := by omega
theorem mulN (a b : Nat) : (a : Int) * (b : Int) = ((a * b : Nat) : Int) := (Int.natCast_mul a b).symm
theorem addN (a b : Nat) : (a : Int) + (b : Int) = ((a + b : Nat) : Int) := (Int.natCast_add a b).symm
theorem wrapN (a : Nat) (ha : a < 18446744073709551616) : IntKind.u64.wrap (a : Int) = (a : Int) := by rw [IntKind.wrap_u64]; omega
theorem wrapM (a : Nat) : IntKind.u64.wrap (a : Int) = ((a % 18446744073709551616 : Nat) : Int) := by rw [IntKind.wrap_u64]; omega

set_option maxHeartbeats 1000000 in
theorem mul64_nat (x y : Nat) (hx : x < 18446744073709551616) (hy : y < 18446744073709551616) (w : World) :
    Calls Try.prog 61 #[.int .u64 x, .int .u64 y] w fun e w' => e = .returned (.tuple #[.int .u64 ((x * y / 18446744073709551616 : Nat) : Int), .int .u64 ((x * y % 18446744073709551616 : Nat) : Int)]) ∧ w = w' := by
  obtain ⟨bd, bt, bw, hhi⟩ := Lib.mul64_hi x y hx hy
  have ba := Lib.half_mul_le (a := x / 4294967296) (b := y / 4294967296) (by omega) (by omega)
  have bb := Lib.half_mul_le (a := x / 4294967296) (b := y % 4294967296) (by omega) (by omega)
  have bc := Lib.half_mul_le (a := x % 4294967296) (b := y / 4294967296) (by omega) (by omega)
  have ba' : x / 4294967296 * (y / 4294967296) < 18446744073709551616 := by omega
  have bb' : x / 4294967296 * (y % 4294967296) < 18446744073709551616 := by omega
  have bc' : x % 4294967296 * (y / 4294967296) < 18446744073709551616 := by omega
  have bh1 : x / 4294967296 * (y / 4294967296) + (x / 4294967296 * (y % 4294967296) + x % 4294967296 * (y % 4294967296) / 4294967296) / 4294967296 < 18446744073709551616 := by omega
  have bh : x / 4294967296 * (y / 4294967296) + (x / 4294967296 * (y % 4294967296) + x % 4294967296 * (y % 4294967296) / 4294967296) / 4294967296 + ((x / 4294967296 * (y % 4294967296) + x % 4294967296 * (y % 4294967296) / 4294967296) % 4294967296 + x % 4294967296 * (y / 4294967296)) / 4294967296 < 18446744073709551616 := by omega
  go_enter Try.func61, Try.ntmps61
  go_wp2
  simp only [maskN x hx, maskN y hy, divN, mulN, addN, wrapN _ bd, wrapN _ bb', wrapN _ bt, maskN _ bt, wrapN _ bc', wrapN _ bw, wrapN _ ba', wrapN _ bh1, wrapN _ bh, wrapM (x * y)]
  rw [hhi]
  go_ret2
  exact ⟨rfl, rfl⟩

theorem mul64_any (x y : Int) (hx0 : 0 ≤ x) (hx : x < 18446744073709551616) (hy0 : 0 ≤ y) (hy : y < 18446744073709551616) (w : World) :
    Calls Try.prog 61 #[.int .u64 x, .int .u64 y] w fun e w' => e = .returned (.tuple #[.int .u64 (x * y / 18446744073709551616), .int .u64 (x * y % 18446744073709551616)]) ∧ w = w' := by
  obtain ⟨x, rfl⟩ := Int.eq_ofNat_of_zero_le hx0
  obtain ⟨y, rfl⟩ := Int.eq_ofNat_of_zero_le hy0
  refine (mul64_nat x y (by omega) (by omega) w).mono ?_
  rintro e w' ⟨rfl, rfl⟩
  exact ⟨by simp, rfl⟩

/-! ### Bits -/
theorem low_bits (j : Nat) (hj : j ≤ 63) (a : Int) (ha : WdP a) : bits .and .u64 a (2 ^ j - 1) = a % 2 ^ j := by
  unfold WdP at ha
  obtain ⟨a, rfl⟩ := Int.eq_ofNat_of_zero_le ha.1
  have e2 : (2 : Int) ^ j = ((2 ^ j : Nat) : Int) := by rw [Int.natCast_pow]; rfl
  have hp : 0 < 2 ^ j := Nat.two_pow_pos j
  have hq : 2 ^ j ≤ 2 ^ 63 := Nat.pow_le_pow_right (by decide) hj
  have e3 : (2 : Int) ^ j - 1 = ((2 ^ j - 1 : Nat) : Int) := by rw [e2]; omega
  rw [e3, u64_and_nat a (2 ^ j - 1) (by omega) (by omega), Nat.and_two_pow_sub_one_eq_mod, e2]
  rfl
theorem join (j : Nat) (x y : Int) (hj : j ≤ 63) (h0 : 0 ≤ x) (h1 : x < 2 ^ j) (g0 : 0 ≤ y) (g1 : y * 2 ^ j < 18446744073709551616) : bits .or .u64 x (y * 2 ^ j) = x + y * 2 ^ j := by
  obtain ⟨x, rfl⟩ := Int.eq_ofNat_of_zero_le h0
  obtain ⟨y, rfl⟩ := Int.eq_ofNat_of_zero_le g0
  have e : ((y : Int) * 2 ^ j) = ((y * 2 ^ j : Nat) : Int) := by rw [Int.natCast_mul, Int.natCast_pow]; rfl
  have e2 : (2 : Int) ^ j = ((2 ^ j : Nat) : Int) := by rw [Int.natCast_pow]; rfl
  have hx : x < 2 ^ j := by rw [e2] at h1; omega
  have hy : y * 2 ^ j < 18446744073709551616 := by rw [e] at g1; omega
  have hj2 : 2 ^ j ≤ 2 ^ 63 := Nat.pow_le_pow_right (by decide) hj
  rw [e, u64_or_nat x (y * 2 ^ j) (by omega) hy, Nat.or_comm, nat_join j (y * 2 ^ j) x (Nat.mul_mod_left _ _) hx]
  omega
theorem join' (j : Nat) (x y : Int) (hj : j ≤ 63) (h0 : 0 ≤ x) (h1 : x < 2 ^ j) (g0 : 0 ≤ y) (g1 : y * 2 ^ j < 18446744073709551616) : bits .or .u64 (y * 2 ^ j) x = y * 2 ^ j + x := by
  obtain ⟨x, rfl⟩ := Int.eq_ofNat_of_zero_le h0
  obtain ⟨y, rfl⟩ := Int.eq_ofNat_of_zero_le g0
  have e : ((y : Int) * 2 ^ j) = ((y * 2 ^ j : Nat) : Int) := by rw [Int.natCast_mul, Int.natCast_pow]; rfl
  have e2 : (2 : Int) ^ j = ((2 ^ j : Nat) : Int) := by rw [Int.natCast_pow]; rfl
  have hx : x < 2 ^ j := by rw [e2] at h1; omega
  have hy : y * 2 ^ j < 18446744073709551616 := by rw [e] at g1; omega
  have hj2 : 2 ^ j ≤ 2 ^ 63 := Nat.pow_le_pow_right (by decide) hj
  rw [e, u64_or_nat (y * 2 ^ j) x hy (by omega), nat_join j (y * 2 ^ j) x (Nat.mul_mod_left _ _) hx]
  omega

/-! ### Numbers of bytes -/
/-- The number of bytes, the lowest first. -/
def vl : List Int → Int
  | [] => 0
  | a :: l => a + 256 * vl l
theorem vl_append (l k : List Int) : vl (l ++ k) = vl l + 256 ^ l.length * vl k := by
  induction l with
  | nil => simp [vl]
  | cons a l ih =>
    simp only [List.cons_append, vl, ih, List.length_cons, Int.pow_succ, Int.mul_add]
    rw [← Int.mul_assoc, Int.mul_comm 256 (256 ^ l.length)]
    omega
theorem vl_bd (l : List Int) (h : Bys l) : 0 ≤ vl l ∧ vl l < (256 : Int) ^ l.length := by
  induction l with
  | nil => simp [vl]
  | cons a l ih =>
    have h1 := ih (fun b hb => h b (by simp [hb]))
    have h2 := h a (by simp)
    simp only [vl, List.length_cons, Int.pow_succ]
    omega
/-- The bytes of a number. -/
def les : Nat → Int → List Int
  | 0, _ => []
  | n + 1, v => v % 256 :: les n (v / 256)
theorem les_length (n : Nat) : ∀ v, (les n v).length = n := by
  induction n with
  | zero => intro v; rfl
  | succ n ih => intro v; simp [les, ih]
theorem les_bys (n : Nat) : ∀ v, Bys (les n v) := by
  induction n with
  | zero => intro v; exact Bys.nil
  | succ n ih =>
    intro v b hb
    rcases List.mem_cons.1 hb with rfl | hb
    · omega
    · exact ih _ b hb
theorem vl_les (n : Nat) : ∀ v : Int, vl (les n v) = v % 256 ^ n := by
  induction n with
  | zero => intro v; simp [les, vl]
  | succ n ih =>
    intro v
    simp only [les, vl, ih]
    rw [Int.pow_succ]
    generalize hp : (256 : Int) ^ n = p
    have hp0 : 0 < p := by rw [← hp]; exact Int.pow_pos (by decide)
    have h1 := Int.emod_add_mul_ediv v 256
    have h2 := Int.emod_add_mul_ediv (v / 256) p
    have b1 := Int.emod_nonneg (v / 256) (by omega : p ≠ 0)
    have b2 := Int.emod_lt_of_pos (v / 256) hp0
    have e : v = (v % 256 + 256 * (v / 256 % p)) + p * 256 * (v / 256 / p) := by
      have : p * 256 * (v / 256 / p) = 256 * (p * (v / 256 / p)) := by rw [Int.mul_comm p 256, Int.mul_assoc]
      rw [this]
      omega
    have h3 : v % (p * 256) = (v % 256 + 256 * (v / 256 % p)) % (p * 256) := by
      conv => lhs; rw [e]
      exact Int.add_mul_emod_self_left _ _ _
    rw [h3]
    exact (Int.emod_eq_of_lt (by omega) (by omega)).symm
theorem les_vl (l : List Int) (h : Bys l) : les l.length (vl l) = l := by
  induction l with
  | nil => rfl
  | cons a l ih =>
    have h2 := h a (by simp)
    have e1 : (a + 256 * vl l) % 256 = a := by omega
    have e2 : (a + 256 * vl l) / 256 = vl l := by omega
    simp only [List.length_cons, les, vl, e1, e2, ih (fun b hb => h b (by simp [hb]))]
theorem vl_inj (l k : List Int) (hl : Bys l) (hk : Bys k) (h : l.length = k.length) (e : vl l = vl k) : l = k := by
  rw [← les_vl l hl, ← les_vl k hk, h, e]
theorem vl_split (l : List Int) (n : Nat) (h : n ≤ l.length) : vl l = vl (l.take n) + 256 ^ n * vl (l.drop n) := by
  conv => lhs; rw [← List.take_append_drop n l]
  rw [vl_append, List.length_take, Nat.min_eq_left h]
theorem eight {l : List Int} (h : l.length = 8) : ∃ a b c d e f g i, l = [a, b, c, d, e, f, g, i] := by
  match l, h with
  | [a, b, c, d, e, f, g, i], _ => exact ⟨a, b, c, d, e, f, g, i, rfl⟩

set_option maxRecDepth 100000 in
set_option maxHeartbeats 2000000 in
theorem word_is (l : List Int) (w : World) (hl : l.length = 8) (hb : Bys l) :
    Calls Try.prog 48 #[.agg (vs .u8 l)] w fun e w' => e = .returned (.int .u64 (vl l)) ∧ Fr (fun _ => False) w w' := by
  obtain ⟨b0, b1, b2, b3, b4, b5, b6, b7, rfl⟩ := eight hl
  obtain ⟨v, hv⟩ : ∃ v, v = vl [b0, b1, b2, b3, b4, b5, b6, b7] := ⟨_, rfl⟩
  have h0 := hb b0 (by simp)
  have h1 := hb b1 (by simp)
  have h2 := hb b2 (by simp)
  have h3 := hb b3 (by simp)
  have h4 := hb b4 (by simp)
  have h5 := hb b5 (by simp)
  have h6 := hb b6 (by simp)
  have h7 := hb b7 (by simp)
  have HV := Lib.hid hv
  rw [← hv]
  simp only [vl] at hv
  have e1 : bits .or .u64 b0 (b1 * 256) = b0 + b1 * 256 := join 8 b0 b1 (by decide) (by omega) (by omega) (by omega) (by omega)
  have e2 : bits .or .u64 (b0 + b1 * 256) (b2 * 65536) = b0 + b1 * 256 + b2 * 65536 := join 16 (b0 + b1 * 256) b2 (by decide) (by omega) (by omega) (by omega) (by omega)
  have e3 : bits .or .u64 (b0 + b1 * 256 + b2 * 65536) (b3 * 16777216) = b0 + b1 * 256 + b2 * 65536 + b3 * 16777216 := join 24 (b0 + b1 * 256 + b2 * 65536) b3 (by decide) (by omega) (by omega) (by omega) (by omega)
  obtain ⟨x3, hx3⟩ : ∃ x, b0 + b1 * 256 + b2 * 65536 + b3 * 16777216 = x := ⟨_, rfl⟩
  have e4 : bits .or .u64 x3 (b4 * 4294967296) = x3 + b4 * 4294967296 := join 32 x3 b4 (by decide) (by omega) (by omega) (by omega) (by omega)
  have e5 : bits .or .u64 (x3 + b4 * 4294967296) (b5 * 1099511627776) = x3 + b4 * 4294967296 + b5 * 1099511627776 := join 40 (x3 + b4 * 4294967296) b5 (by decide) (by omega) (by omega) (by omega) (by omega)
  have e6 : bits .or .u64 (x3 + b4 * 4294967296 + b5 * 1099511627776) (b6 * 281474976710656) = x3 + b4 * 4294967296 + b5 * 1099511627776 + b6 * 281474976710656 := join 48 (x3 + b4 * 4294967296 + b5 * 1099511627776) b6 (by decide) (by omega) (by omega) (by omega) (by omega)
  have e7 : bits .or .u64 (x3 + b4 * 4294967296 + b5 * 1099511627776 + b6 * 281474976710656) (b7 * 72057594037927936) = v := by
    exact (join 56 (x3 + b4 * 4294967296 + b5 * 1099511627776 + b6 * 281474976710656) b7 (by decide) (by omega) (by omega) (by omega) (by omega)).trans (by omega)
  rw [hx3] at e3
  have w0 : IntKind.u64.wrap b0 = b0 := wrap_in _ ⟨by omega, by omega⟩
  have w1 : IntKind.u64.wrap b1 = b1 := wrap_in _ ⟨by omega, by omega⟩
  have w2 : IntKind.u64.wrap b2 = b2 := wrap_in _ ⟨by omega, by omega⟩
  have w3 : IntKind.u64.wrap b3 = b3 := wrap_in _ ⟨by omega, by omega⟩
  have w4 : IntKind.u64.wrap b4 = b4 := wrap_in _ ⟨by omega, by omega⟩
  have w5 : IntKind.u64.wrap b5 = b5 := wrap_in _ ⟨by omega, by omega⟩
  have w6 : IntKind.u64.wrap b6 = b6 := wrap_in _ ⟨by omega, by omega⟩
  have w7 : IntKind.u64.wrap b7 = b7 := wrap_in _ ⟨by omega, by omega⟩
  have v1 : IntKind.u64.wrap (b1 * 256) = b1 * 256 := wrap_in _ ⟨by omega, by omega⟩
  have v2 : IntKind.u64.wrap (b2 * 65536) = b2 * 65536 := wrap_in _ ⟨by omega, by omega⟩
  have v3 : IntKind.u64.wrap (b3 * 16777216) = b3 * 16777216 := wrap_in _ ⟨by omega, by omega⟩
  have v4 : IntKind.u64.wrap (b4 * 4294967296) = b4 * 4294967296 := wrap_in _ ⟨by omega, by omega⟩
  have v5 : IntKind.u64.wrap (b5 * 1099511627776) = b5 * 1099511627776 := wrap_in _ ⟨by omega, by omega⟩
  have v6 : IntKind.u64.wrap (b6 * 281474976710656) = b6 * 281474976710656 := wrap_in _ ⟨by omega, by omega⟩
  have v7 : IntKind.u64.wrap (b7 * 72057594037927936) = b7 * 72057594037927936 := wrap_in _ ⟨by omega, by omega⟩
  clear h0 h1 h2 h3 h4 h5 h6 h7 hb hl hv hx3
  show Calls Try.prog 48 #[.agg #[.int .u8 b0, .int .u8 b1, .int .u8 b2, .int .u8 b3, .int .u8 b4, .int .u8 b5, .int .u8 b6, .int .u8 b7]] w _
  go_enter Try.func48, Try.ntmps48
  go_wp2
  go_ret
  exact ⟨rfl, (Fr.refl _ _).alloc _⟩
end Go.Proofs.Ytbafppdmlhogbaa

/- Loads of parts of a block; poly.words, poly.numberOf: contracts. Conditions: bytes, their number. -/
namespace Go.Proofs.Ytbafppdmlhogbaa
set_option linter.unusedSimpArgs false
set_option linter.unusedVariables false
open Go.RowKit

section
variable {C : World → Prop} {a : Act} {o : Oper} {K : Act → Prop}
/-- A part of a block, an array of integers, is loaded. -/
theorem quiet_midP (ty : TypeId) (d : TypeDesc) (x : Operand) (ho : o.op = .load ty x) (q i : Nat) (hx : a.eval x = .pointer (some ⟨q, i, none⟩)) (k : IntKind) (l : List Int) (hd : Try.prog.underlying ty = some d) (hr : d.isRow = true) (hl : (Try.prog.info? ty).map (·.size) = some l.length) (hg : ∀ w, C w → w.rangeAt q i (vs k l).toList)
    (hk : K (a.put o.dst (.agg (vs k l)))) : o.quiet Try.prog a C K := by
  refine quiet_run _ (fun w hw => ?_) hk
  unfold execOp
  simp only [ho, hx, Instr.loadAt, Instr.sureAddr, Sem.run_bind, Sem.run_pure, Result.andThen_ok, run_loadVar_mid (P := Try.prog) w q i ty (vs k l).toList _ (hg w hw) hd hr (by rw [hl]; simp [vs])]
/-- One cell is loaded. -/
theorem quiet_oneP (ty : TypeId) (k : IntKind) (x : Operand) (ho : o.op = .load ty x) (q i : Nat) (hx : a.eval x = .pointer (some ⟨q, i, none⟩)) (y : Int) (he : Try.prog.underlying ty = some (.int k)) (hg : ∀ w, C w → w.cell? ⟨q, i, none⟩ = some (.int k y))
    (hk : K (a.put o.dst (.int k y))) : o.quiet Try.prog a C K := by
  refine quiet_run _ (fun w hw => ?_) hk
  have hc := hg w hw
  unfold execOp
  simp [ho, hx, Instr.loadAt, Instr.sureAddr, loadVar, isAgg, run_underlying he, hc, Sem.run_bind, Sem.run_pure, Result.andThen_ok]
end
theorem run_arr {a : Act} {o : Oper} (ty : TypeId) (x : Operand) (ho : o.op = .sliceToArrayPointer ty x) (A : Option Addr) (n c : Nat) {m : Nat} {e : TypeId} (hx : a.eval x = .slice A n c) (hd : Try.prog.underlying ty = some (.array m e)) (hm : m ≤ n) (W : World) :
    (execOp a.eval o).run Try.prog W = .ok (.value (.pointer A)) W := by
  unfold execOp
  simp only [ho, hx, Sem.run_bind, run_arrayAt W ty e m A n c hd hm, Result.andThen_ok, Sem.run_pure]
theorem Ar.take {w : World} {g : Nat} {t : TypeId} {k : IntKind} {l : List Int} (h : Ar w g t k l) (n : Nat) : w.rangeAt g 0 (vs k (l.take n)).toList := fun j v hv => by
  rw [Nat.zero_add, cell_of_row w g j _ _ _ h, vs_get]
  simp only [vs, Array.toList_map, List.getElem?_map, List.getElem?_take] at hv
  split at hv
  · exact hv
  · cases hv
theorem Ar.drop {w : World} {g : Nat} {t : TypeId} {k : IntKind} {l : List Int} (h : Ar w g t k l) (n : Nat) : w.rangeAt g n (vs k (l.drop n)).toList := fun j v hv => by
  rw [cell_of_row w g (n + j) _ _ _ h, vs_get]
  simpa [vs] using hv
theorem info26 : (Try.prog.info? 38).map (·.size) = some 16 := by kernel_rfl
theorem info62 : (Try.prog.info? 53).map (·.size) = some 8 := by kernel_rfl
theorem info47 : (Try.prog.info? 65).map (·.size) = some 2 := by kernel_rfl
theorem info46 : (Try.prog.info? 62).map (·.size) = some 3 := by kernel_rfl
theorem info23 : (Try.prog.info? 28).map (·.size) = some 32 := by kernel_rfl
theorem zero26 (w : World) : (zeroValue 38).run Try.prog w = .ok (.agg (vs .u8 (List.replicate 16 0))) w := by kernel_rfl
theorem zero46 (w : World) : (zeroValue 62).run Try.prog w = .ok (.agg (vs .u64 [0, 0, 0])) w := by kernel_rfl
theorem zero47 (w : World) : (zeroValue 65).run Try.prog w = .ok (.agg (vs .u64 [0, 0])) w := by kernel_rfl

set_option maxRecDepth 100000 in
set_option maxHeartbeats 4000000 in
theorem words_is (l : List Int) (w : World) (hl : l.length = 16) (hb : Bys l) :
    Calls Try.prog 37 #[.agg (vs .u8 l)] w fun e w' => e = .returned (.agg (vs .u64 [vl (l.take 8), vl (l.drop 8)])) ∧ Fr (fun _ => False) w w' := by
  obtain ⟨A, hA⟩ : ∃ A, A = l.take 8 := ⟨_, rfl⟩
  obtain ⟨B, hB⟩ : ∃ B, B = l.drop 8 := ⟨_, rfl⟩
  have lA : A.length = 8 := by rw [hA, List.length_take, hl]; rfl
  have lB : B.length = 8 := by rw [hB, List.length_drop, hl]
  have C1 : ∀ W, Calls Try.prog 48 #[.agg (vs .u8 A)] W fun e w' => e = .returned (.int .u64 (vl A)) ∧ Fr (fun _ => False) W w' := fun W => word_is A W lA (by rw [hA]; exact hb.take 8)
  have C2 : ∀ W, Calls Try.prog 48 #[.agg (vs .u8 B)] W fun e w' => e = .returned (.int .u64 (vl B)) ∧ Fr (fun _ => False) W w' := fun W => word_is B W lB (by rw [hB]; exact hb.drop 8)
  have sA : Hid ((Try.prog.info? 53).map (·.size) = some A.length) := by show _ = _; rw [lA]; exact info62
  have sB : Hid ((Try.prog.info? 53).map (·.size) = some B.length) := by show _ = _; rw [lB]; exact info62
  have HA := Lib.hid hA
  have HB := Lib.hid hB
  rw [← hA, ← hB]
  obtain ⟨a, ha⟩ : ∃ a, a = vl A := ⟨_, rfl⟩
  obtain ⟨b, hb'⟩ : ∃ a, a = vl B := ⟨_, rfl⟩
  rw [← ha] at C1 ⊢
  rw [← hb'] at C2 ⊢
  clear hA hB lA lB hb hl ha hb'
  go_enter Try.func37, Try.ntmps37
  go_upto_region 1 with (fail)
  generalize hW : (w.alloc (.cells (vs .u8 l) 38)).alloc (.cells #[.int .u64 0, .int .u64 0] 65) = W0
  have HW := Lib.hid (calm2 hW)
  have X0 : Hid (Ar W0 w.heap.size 38 .u8 l) := HW.out.1
  have X1 : Hid (W0.heap[w.heap.size + 1]? = some (.cells #[.int .u64 0, .int .u64 0] 65)) := HW.out.2.1
  have F0 : Hid (Fr (fun _ => False) w W0) := HW.out.2.2
  clear hW HW
  refine wp_region_quiet_tail (C := Calm W0) 9 (by kernel_rfl) (by kernel_rfl) (Calm.start _ _ (Fr.refl _ _)) ?_
  simp only [List.take_succ_cons, List.take_zero, List.drop_succ_cons, List.drop_zero]
  refine BigFrame.wpQuiet_want rfl fun K hK => ?_
  try simp only [Act.put, List.setIfInBounds_toArray, List.set_cons_succ, List.set_cons_zero]
  go_big_quiet_op
  first
    | refine ⟨_, fun _ _ => rfl, hK _ ?_⟩
    | refine hK _ ?_
  refine BigFrame.wpQuiet_want rfl fun K hK => quiet_run (.pointer (some ⟨w.heap.size, 0, none⟩)) (fun W _ => run_arr 53 (.tmp 3) rfl (some ⟨w.heap.size, 0, none⟩) 8 16 rfl Try.underlying53 (by decide) W) (hK _ ?_)
  refine BigFrame.wpQuiet_want rfl fun K hK => quiet_midP 53 _ (.tmp 4) rfl (w.heap.size) 0 rfl .u8 (A) Try.underlying53 rfl sA.out (fun _ h => by rw [HA.out]; exact (Ar.fr X0.out h (fun x => x)).take 8) (hK _ ?_)
  refine BigFrame.wpQuiet_want rfl fun K hK => ?_
  try simp only [Act.put, List.setIfInBounds_toArray, List.set_cons_succ, List.set_cons_zero]
  go_big_quiet_op
  refine ⟨_, Calm.calls C1, hK _ ?_⟩
  refine BigFrame.wpQuiet_want rfl fun K hK => ?_
  try simp only [Act.put, List.setIfInBounds_toArray, List.set_cons_succ, List.set_cons_zero]
  go_big_quiet_op
  first
    | refine ⟨_, fun _ _ => rfl, hK _ ?_⟩
    | refine hK _ ?_
  refine BigFrame.wpQuiet_want rfl fun K hK => quiet_run (.pointer (some ⟨w.heap.size, 8, none⟩)) (fun W _ => run_arr 53 (.tmp 7) rfl (some ⟨w.heap.size, 8, none⟩) 8 8 rfl Try.underlying53 (by decide) W) (hK _ ?_)
  refine BigFrame.wpQuiet_want rfl fun K hK => quiet_midP 53 _ (.tmp 8) rfl (w.heap.size) 8 rfl .u8 (B) Try.underlying53 rfl sB.out (fun _ h => by rw [HB.out]; exact (Ar.fr X0.out h (fun x => x)).drop 8) (hK _ ?_)
  refine BigFrame.wpQuiet_want rfl fun K hK => ?_
  try simp only [Act.put, List.setIfInBounds_toArray, List.set_cons_succ, List.set_cons_zero]
  go_big_quiet_op
  refine ⟨_, Calm.calls C2, hK _ ?_⟩
  refine BigFrame.wpQuiet_want rfl fun K hK => ?_
  try simp only [Act.put, List.setIfInBounds_toArray, List.set_cons_succ, List.set_cons_zero]
  go_big_quiet_op
  first
    | refine ⟨_, fun _ _ => rfl, hK _ ?_⟩
    | refine hK _ ?_
  refine wpQuiet_nil ?_
  intro w9 hw9
  have F9 : Hid (Fr (fun _ => False) w w9) := F0.out.trans hw9
  have G9 := Lib.hid hw9
  clear hw9
  try simp only [Act.put, List.setIfInBounds_toArray, List.set_cons_succ, List.set_cons_zero]
  have X2 : Hid (w9.heap[w.heap.size + 1]? = some (.cells #[.int .u64 0, .int .u64 0] 65)) := Calm.at X1.out G9.out
  go_wp2_with (first
    | refine wpList_store_row rfl 65 (.tmp 2) (.tmp 11) rfl (w.heap.size + 1) (vs .u64 [a, b]) rfl rfl 65 _ X2.out (by rw [info47]; rfl) rfl (vs_all _ _) ?_)
  refine bodyPost_ret (results_cell_row Try.results37 _ _ _ 65 _ (0, 0) _ rfl (setRow_heap _ _ _ _ _ _ X2.out) Try.underlying65 rfl (by rw [info47]; rfl)) rfl ⟨rfl, F9.out.setRow _ (.inr (by omega))⟩

/-- The three parts of a number. -/
def num (v : Int) : List Int := [v % 17592186044416, v / 17592186044416 % 17592186044416, v / 309485009821345068724781056]
set_option maxRecDepth 100000 in
set_option maxHeartbeats 4000000 in
theorem numberOf_is (l : List Int) (w : World) (hl : l.length = 16) (hb : Bys l) :
    Calls Try.prog 35 #[.agg (vs .u8 l)] w fun e w' => e = .returned (.agg (vs .u64 (num (vl l)))) ∧ Fr (fun _ => False) w w' := by
  have hv := vl_split l 8 (by omega)
  have ba := vl_bd (l.take 8) (hb.take 8)
  have bb := vl_bd (l.drop 8) (hb.drop 8)
  have C1 : ∀ W, Calls Try.prog 37 #[.agg (vs .u8 l)] W fun e w' => e = .returned (.agg (vs .u64 [vl (l.take 8), vl (l.drop 8)])) ∧ Fr (fun _ => False) W w' := fun W => words_is l W hl hb
  rw [List.length_take, hl] at ba
  rw [List.length_drop, hl] at bb
  obtain ⟨v, hv'⟩ : ∃ v, v = vl l := ⟨_, rfl⟩
  obtain ⟨a, ha⟩ : ∃ a, a = vl (l.take 8) := ⟨_, rfl⟩
  obtain ⟨b, hb'⟩ : ∃ b, b = vl (l.drop 8) := ⟨_, rfl⟩
  rw [← hv'] at hv ⊢
  rw [← ha] at hv ba C1
  rw [← hb'] at hv bb C1
  have wa : WdP a := ⟨by omega, by have := ba.2; simp at this; omega⟩
  have wb : WdP b := ⟨by omega, by have := bb.2; simp at this; omega⟩
  have ev : v = a + 18446744073709551616 * b := by rw [hv]; rfl
  unfold WdP at wa wb
  obtain ⟨n0, hn0⟩ : ∃ n, n = a % 17592186044416 := ⟨_, rfl⟩
  obtain ⟨n1, hn1⟩ : ∃ n, n = v / 17592186044416 % 17592186044416 := ⟨_, rfl⟩
  have e0 : bits .and .u64 a 17592186044415 = n0 := by rw [hn0]; exact low_bits 44 (by decide) a wa
  have e1 : IntKind.u64.wrap (b * 1048576) = (b % 17592186044416) * 1048576 := by rw [IntKind.wrap_u64]; omega
  have e2 : bits .or .u64 (a / 17592186044416) (b % 17592186044416 * 1048576) = a / 17592186044416 + b % 17592186044416 * 1048576 := join 20 _ _ (by decide) (by omega) (by omega) (by omega) (by omega)
  have e3 : bits .and .u64 (a / 17592186044416 + b % 17592186044416 * 1048576) 17592186044415 = n1 := by rw [hn1]; exact (low_bits 44 (by decide) _ ⟨by omega, by omega⟩).trans (by omega)
  have HR : Hid (vs .u64 [n0, n1, b / 16777216] = vs .u64 (num v)) := by
    show _ = _
    have q0 : v % 17592186044416 = n0 := by omega
    have q2 : v / 309485009821345068724781056 = b / 16777216 := by omega
    rw [num, q0, ← hn1, q2]
  have hz : ∀ W : World, (zeroValue 65).run Try.prog W = .ok (.agg (vs .u64 [0, 0])) W := zero47
  have sL : Hid ((Try.prog.info? 38).map (·.size) = some (vs .u8 l).size) := by show _ = _; rw [vs_size, hl]; exact info26
  clear hv ba bb hv' ha hb' ev wa wb hn0 hn1 hb hl
  go_enter Try.func35, Try.ntmps35
  go_upto_region 1 with (fail)
  generalize hW : (w.alloc (.cells (vs .u8 l) 38)).alloc (.cells #[.int .u64 0, .int .u64 0, .int .u64 0] 62) = W0
  have HW := Lib.hid (calm2 hW)
  have X0 : Hid (Ar W0 w.heap.size 38 .u8 l) := HW.out.1
  have X1 : Hid (W0.heap[w.heap.size + 1]? = some (.cells #[.int .u64 0, .int .u64 0, .int .u64 0] 62)) := HW.out.2.1
  have F0 : Hid (Fr (fun _ => False) w W0) := HW.out.2.2
  clear hW HW
  go_upto_region 2 with (first
    | (go_at_call 37; refine (C1 _).mono ?_; rintro e w1 ⟨rfl, hf⟩; replace X1 := Lib.hid (Calm.at X1.out hf); replace F0 := Lib.hid (F0.out.trans hf); clear hf)
    | refine wpList_load_row rfl 38 (.tmp 1) rfl (w.heap.size) rfl 38 (vs .u8 l) (0, 0) _ X0.out Try.underlying38 rfl sL.out ?_
    | refine wpList_store_row rfl 65 (.tmp 3) (.tmp 5) rfl w1.heap.size (vs .u64 [a, b]) rfl rfl 65 (vs .u64 [0, 0]) (heap_alloc_new w1 (.cells (vs .u64 [0, 0]) 65)) (by rw [info47]; rfl) rfl (vs_all _ _) ?_)
  obtain ⟨q, hq⟩ : ∃ q, q = w1.heap.size := ⟨_, rfl⟩
  have hq1 : w.heap.size + 1 < q := by rw [hq]; exact heap_lt X1.out
  have Y0 : Ar ((w1.alloc (.cells (vs .u64 [0, 0]) 65)).setRow w1.heap.size (vs .u64 [a, b])) q 65 .u64 [a, b] := by rw [hq]; exact (Ar.new w1 65 .u64 [0, 0]).row [a, b]
  have X2 : Hid (((w1.alloc (.cells (vs .u64 [0, 0]) 65)).setRow w1.heap.size (vs .u64 [a, b])).heap[w.heap.size + 1]? = some (.cells #[.int .u64 0, .int .u64 0, .int .u64 0] 62)) := (setRow_other _ _ _ _ (by omega)).trans ((Below.heap_alloc w1 _ _ (heap_lt X1.out)).trans X1.out)
  have F1 : Hid (Fr (fun _ => False) w ((w1.alloc (.cells (vs .u64 [0, 0]) 65)).setRow w1.heap.size (vs .u64 [a, b]))) := (F0.out.alloc _).setRow _ (.inr F0.out.size)
  rw [← hq] at Y0 X2 F1 ⊢
  generalize (w1.alloc (.cells (vs .u64 [0, 0]) 65)).setRow q (vs .u64 [a, b]) = W2 at *
  have c0 := Y0.cell (i := 0) rfl
  have c1 := Y0.cell (i := 1) rfl
  clear Y0 X0 X1 F0 hq hq1 C1 hz sL
  try simp only [Act.put, List.setIfInBounds_toArray, List.set_cons_succ, List.set_cons_zero]
  go_wp2_with (first
    | refine wpList_store_row rfl 62 (.tmp 2) (.tmp 20) rfl (w.heap.size + 1) (vs .u64 [n0, n1, b / 16777216]) rfl rfl 62 _ X2.out (by rw [info46]; rfl) rfl (vs_all _ _) ?_)
  refine bodyPost_ret (results_cell_row Try.results35 _ _ _ 62 _ (0, 0) _ rfl (setRow_heap _ _ _ _ _ _ X2.out) Try.underlying62 rfl (by rw [info46]; rfl)) rfl ⟨by rw [HR.out], F1.out.setRow _ (.inr (by omega))⟩
end Go.Proofs.Ytbafppdmlhogbaa

/- Numbers of 128 bits: wide.plus, wide.from: contracts. Conditions: words; no more than 128 bits come out. -/
namespace Go.Proofs.Ytbafppdmlhogbaa
set_option linter.unusedSimpArgs false
set_option linter.unusedVariables false
open Go.RowKit

theorem info64 : (Try.prog.info? 80).map (·.size) = some 2 := by kernel_rfl
def wd (V : Int) : Array Value := #[.int .u64 (V / 18446744073709551616), .int .u64 (V % 18446744073709551616)]
theorem wd_words {V : Int} (h0 : 0 ≤ V) (h1 : V < 340282366920938463463374607431768211456) : ∃ h l : Int, wd V = #[.int .u64 h, .int .u64 l] ∧ WdP h ∧ WdP l ∧ Hid (V = l + 18446744073709551616 * h) := by
  refine ⟨_, _, rfl, ⟨by omega, by omega⟩, ⟨by omega, by omega⟩, ?_⟩
  show _ = _
  omega
theorem wd_eq {V h l : Int} (hh : WdP h) (hl : WdP l) (e : V = l + 18446744073709551616 * h) : wd V = #[.int .u64 h, .int .u64 l] := by
  unfold WdP at hh hl
  have e1 : V / 18446744073709551616 = h := by omega
  have e2 : V % 18446744073709551616 = l := by omega
  rw [wd, e1, e2]
theorem wd_zero : wd 0 = #[.int .u64 0, .int .u64 0] := rfl
theorem wd_low {c : Int} (hc : WdP c) : wd c = #[.int .u64 0, .int .u64 c] := wd_eq ⟨by decide, by decide⟩ hc (by omega)

set_option maxHeartbeats 1000000 in
theorem plus_is (V a b R : Int) (w : World) (h0 : 0 ≤ V) (ha : WdP a) (hb : WdP b) (hR : V + a * b = R) (h1 : R < 340282366920938463463374607431768211456) :
    Calls Try.prog 49 #[.agg (wd V), .int .u64 a, .int .u64 b] w fun e w' => e = .returned (.agg (wd R)) ∧ Fr (fun _ => False) w w' := by
  obtain ⟨p, hp⟩ : ∃ p, p = a * b := ⟨_, rfl⟩
  have hp0 : 0 ≤ p := by rw [hp]; exact Int.mul_nonneg ha.1 hb.1
  have hp1 : p ≤ 18446744073709551615 * 18446744073709551615 := by
    rw [hp]
    exact Int.mul_le_mul (by have := ha.2; omega) (by have := hb.2; omega) hb.1 (by decide)
  rw [← hp] at hR
  obtain ⟨hi, lo, eV, whi, wlo, hV⟩ := wd_words h0 (by omega : V < 340282366920938463463374607431768211456)
  obtain ⟨h2, l2, eR, wh2, wl2, hR2⟩ := wd_words (by omega : 0 ≤ R) h1
  rw [eV, eR]
  obtain ⟨q, r, hr, hq, hpq⟩ : ∃ q r : Int, WdP r ∧ WdP q ∧ Hid (p = r + 18446744073709551616 * q) := ⟨p / 18446744073709551616, p % 18446744073709551616, ⟨by omega, by omega⟩, ⟨by omega, by omega⟩, by show _ = _; omega⟩
  have C : ∀ W, Calls Try.prog 61 #[.int .u64 a, .int .u64 b] W fun e w' => e = .returned (.tuple #[.int .u64 q, .int .u64 r]) ∧ W = w' := fun W => by
    refine (mul64_any a b ha.1 ha.2 hb.1 hb.2 W).mono ?_
    rintro e w' ⟨rfl, rfl⟩
    have h1 := hpq.out
    unfold WdP at hr hq
    refine ⟨?_, rfl⟩
    rw [← hp]
    have e1 : p / 18446744073709551616 = q := by omega
    have e2 : p % 18446744073709551616 = r := by omega
    rw [e1, e2]
  obtain ⟨s, k, hs, hk0, hk1, hsk, f1⟩ := run_add_ex r lo 0 hr wlo (by decide) (by decide)
  have g := hsk.out
  have gp := hpq.out
  have gV := hV.out
  have gR := hR2.out
  unfold WdP at ha hb whi wlo wh2 wl2 hr hq hs
  have w1 : IntKind.u64.wrap (q + hi) = q + hi := wrap_in _ ⟨by omega, by omega⟩
  have w2 : IntKind.u64.wrap (q + hi + k) = q + hi + k := wrap_in _ ⟨by omega, by omega⟩
  have e1 := Lib.hid (show s = l2 by omega)
  have e2 := Lib.hid (show q + hi + k = h2 by omega)
  clear g gp gV gR hp hp0 hp1 hR hR2 hV hpq hsk h0 h1 ha hb whi wlo wh2 wl2 hr hq hs eV eR
  go_enter Try.func49, Try.ntmps49
  go_upto_region 1 with (fail)
  generalize hW : (w.alloc (.cells #[.int .u64 hi, .int .u64 lo] 80)).alloc (.cells #[.int .u64 0, .int .u64 0] 80) = W0
  have HW := Lib.hid (calm2 hW)
  have c0 : W0.cell? ⟨w.heap.size, 0, none⟩ = some (.int .u64 hi) := cell_of_row _ _ _ _ _ _ HW.out.1
  have c1 : W0.cell? ⟨w.heap.size, 1, none⟩ = some (.int .u64 lo) := cell_of_row _ _ _ _ _ _ HW.out.1
  clear hW
  go_wp2_with (first
    | (go_at_call 61; refine (C _).mono ?_; rintro e w' ⟨rfl, rfl⟩)
    | refine wpList_store_row rfl 80 (.tmp 6) (.tmp 30) rfl (w.heap.size + 1) (vs .u64 [q + hi + k, s]) rfl rfl 80 _ HW.out.2.1 (by rw [info64]; rfl) rfl (vs_all _ _) ?_)
  refine bodyPost_ret (results_cell_row Try.results49 _ _ _ 80 _ (0, 0) _ rfl (setRow_heap _ _ _ _ _ _ HW.out.2.1) Try.underlying80 rfl (by rw [info64]; rfl)) rfl ⟨by rw [e1.out, e2.out]; rfl, HW.out.2.2.setRow _ (.inr (by omega))⟩

set_option maxHeartbeats 1000000 in
theorem from44_is (V R : Int) (w : World) (h0 : 0 ≤ V) (hR : V / 17592186044416 = R) (h1 : R < 18446744073709551616) :
    Calls Try.prog 50 #[.agg (wd V), .int .u64 44] w fun e w' => e = .returned (.int .u64 R) ∧ Fr (fun _ => False) w w' := by
  obtain ⟨hi, lo, eV, whi, wlo, hV⟩ := wd_words h0 (by omega : V < 340282366920938463463374607431768211456)
  rw [eV]
  have gV := hV.out
  unfold WdP at whi wlo
  have w1 : IntKind.u64.wrap (hi * 1048576) = hi * 1048576 := wrap_in _ ⟨by omega, by omega⟩
  have e1 : bits .or .u64 (hi * 1048576) (lo / 17592186044416) = R := (join' 20 (lo / 17592186044416) hi (by decide) (by omega) (by omega) (by omega) (by omega)).trans (by omega)
  clear gV hV h0 h1 hR whi wlo eV
  go_enter Try.func50, Try.ntmps50
  go_wp2
  go_ret
  exact ⟨rfl, (Fr.refl _ _).alloc _⟩

set_option maxHeartbeats 1000000 in
theorem from42_is (V R : Int) (w : World) (h0 : 0 ≤ V) (hR : V / 4398046511104 = R) (h1 : R < 18446744073709551616) :
    Calls Try.prog 50 #[.agg (wd V), .int .u64 42] w fun e w' => e = .returned (.int .u64 R) ∧ Fr (fun _ => False) w w' := by
  obtain ⟨hi, lo, eV, whi, wlo, hV⟩ := wd_words h0 (by omega : V < 340282366920938463463374607431768211456)
  rw [eV]
  have gV := hV.out
  unfold WdP at whi wlo
  have w1 : IntKind.u64.wrap (hi * 4194304) = hi * 4194304 := wrap_in _ ⟨by omega, by omega⟩
  have e1 : bits .or .u64 (hi * 4194304) (lo / 4398046511104) = R := (join' 22 (lo / 4398046511104) hi (by decide) (by omega) (by omega) (by omega) (by omega)).trans (by omega)
  clear gV hV h0 h1 hR whi wlo eV
  go_enter Try.func50, Try.ntmps50
  go_wp2
  go_ret
  exact ⟨rfl, (Fr.refl _ _).alloc _⟩
end Go.Proofs.Ytbafppdmlhogbaa
