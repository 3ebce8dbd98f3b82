/- Numbers and their 32 bytes: plain mathematics. No condition: definitions and lemmas alone. -/
import Derived.Test.YtbkbodcncjhcmaaWords
namespace Go.Proofs.Ytbkbodcncjhcmaa
open Go.RowKit

/-! ### Bytes -/
def bs (l : List Int) : List Value := l.map (Value.int .u8)
def Bys (l : List Int) : Prop := ∀ b ∈ l, 0 ≤ b ∧ b ≤ 255
/-- The number of bytes, the lowest first. -/
def vl : List Int → Int
  | [] => 0
  | b :: r => b + 256 * vl r

theorem bs_length (l : List Int) : (bs l).length = l.length := by simp [bs]
theorem bs_get (l : List Int) (j : Nat) : (bs l)[j]? = (l[j]?).map (Value.int .u8) := by simp [bs]
theorem bs_one (l : List Int) : ∀ u ∈ bs l, u.oneCell' = true := by
  intro u hu
  simp only [bs, List.mem_map] at hu
  obtain ⟨x, _, rfl⟩ := hu
  rfl
theorem vl_append (l k : List Int) : vl (l ++ k) = vl l + 256 ^ l.length * vl k := by
  induction l with
  | nil => simp [vl]
  | cons b r ih =>
    simp only [List.cons_append, vl, ih, List.length_cons, Int.pow_succ]
    rw [Int.mul_add, Int.mul_comm ((256 : Int) ^ r.length) 256, Int.mul_assoc, Int.add_assoc]
theorem vl_bd (l : List Int) (h : Bys l) : 0 ≤ vl l ∧ vl l < (256 : Int) ^ l.length := by
  induction l with
  | nil => simp [vl]
  | cons b r ih =>
    have h1 := h b (by simp)
    have h2 := ih (fun x hx => h x (by simp [hx]))
    simp only [vl, List.length_cons, Int.pow_succ]
    omega
theorem vl_take_succ (l : List Int) (k : Nat) (h : k < l.length) : vl (l.take (k + 1)) = vl (l.take k) + 256 ^ k * l[k] := by
  rw [List.take_succ_eq_append_getElem h, vl_append]
  simp [vl]
  rw [Nat.min_eq_left (by omega)]
theorem emod_256 (x m : Int) (hm : 0 < m) : x % (256 * m) = x % 256 + 256 * (x / 256 % m) := by
  have h1 := Int.mul_ediv_add_emod x 256
  have h2 := Int.mul_ediv_add_emod (x / 256) m
  have h3 := Int.emod_nonneg (x / 256) (show m ≠ 0 by omega)
  have h4 := Int.emod_lt_of_pos (x / 256) hm
  have e : x = (x % 256 + 256 * (x / 256 % m)) + (256 * m) * (x / 256 / m) := by
    rw [Int.mul_assoc]
    omega
  have h5 : (x % 256 + 256 * (x / 256 % m)) % (256 * m) = x % 256 + 256 * (x / 256 % m) := Int.emod_eq_of_lt (by omega) (by omega)
  have h6 := congrArg (· % (256 * m)) e
  simp only [Int.add_mul_emod_self_left] at h6
  rw [h6, h5]
/-- The bytes of a number, so many of them. -/
def lb : Nat → Int → List Int
  | 0, _ => []
  | n + 1, v => v % 256 :: lb n (v / 256)
theorem lb_length (n : Nat) (v : Int) : (lb n v).length = n := by
  induction n generalizing v with
  | zero => rfl
  | succ n ih => simp [lb, ih]
theorem lb_bys (n : Nat) (v : Int) : Bys (lb n v) := by
  induction n generalizing v with
  | zero => intro b hb; cases hb
  | succ n ih =>
    intro b hb
    rcases List.mem_cons.1 hb with rfl | hb
    · omega
    · exact ih _ b hb
theorem vl_lb (n : Nat) (v : Int) : vl (lb n v) = v % 256 ^ n := by
  induction n generalizing v with
  | zero => simp [lb, vl]
  | succ n ih =>
    simp only [lb, vl, ih]
    rw [Int.pow_succ, Int.mul_comm ((256 : Int) ^ n) 256, emod_256 _ _ (Int.pow_pos (by decide))]
theorem lb_vl (l : List Int) (h : Bys l) : lb l.length (vl l) = l := by
  induction l with
  | nil => rfl
  | cons b r ih =>
    have h1 := h b (by simp)
    simp only [List.length_cons, lb, vl]
    rw [show (b + 256 * vl r) % 256 = b by omega, show (b + 256 * vl r) / 256 = vl r by omega, ih (fun x hx => h x (by simp [hx]))]
theorem vl_inj {l k : List Int} (hl : Bys l) (hk : Bys k) (hn : l.length = k.length) (h : vl l = vl k) : l = k := by
  rw [← lb_vl l hl, ← lb_vl k hk, hn, h]
theorem lb_get (n : Nat) (v : Int) (j : Nat) (hj : j < n) : (lb n v)[j]'(by rw [lb_length]; exact hj) = v / 256 ^ j % 256 := by
  induction n generalizing v j with
  | zero => omega
  | succ n ih =>
    cases j with
    | zero => simp [lb]
    | succ j =>
      simp only [lb, List.getElem_cons_succ]
      rw [ih _ _ (by omega), Int.pow_succ, Int.mul_comm ((256 : Int) ^ j) 256, Int.ediv_ediv_of_nonneg (by decide)]

theorem p256_1 : (256 : Int) ^ 8 = 18446744073709551616 := by decide
theorem p256_2 : (256 : Int) ^ 16 = 340282366920938463463374607431768211456 := by decide
theorem p256_3 : (256 : Int) ^ 24 = 6277101735386680763835789423207666416102355444464034512896 := by decide
theorem p256_4 : (256 : Int) ^ 32 = 115792089237316195423570985008687907853269984665640564039457584007913129639936 := by decide
end Go.Proofs.Ytbkbodcncjhcmaa
