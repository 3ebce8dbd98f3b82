/- Words of 64 bits: sums, products, bits; the number of bytes; words and numbers of bytes: contracts. Conditions: words, bytes. -/
import Derived.Test.YtcoggpedpclkaaaT
import Derived.Lib.Mul64
namespace Go.Proofs.Ytcoggpedpclkaaa
set_option linter.unusedSimpArgs false
set_option linter.unusedVariables false
open Go.RowKit

def Wd (x : Int) : Prop := 0 ≤ x ∧ x < 18446744073709551616
theorem wrap_in (n : Int) (h : Wd n) : IntKind.u64.wrap n = n := IntWalk.u64_in n (by unfold Wd at h; omega)
theorem run_add (x y c : Int) (hx : 0 ≤ x) (hy : 0 ≤ y) (hc0 : 0 ≤ c) (hc : c ≤ 1) (w : World) : (callFunc 41 #[.int .u64 x, .int .u64 y, .int .u64 c]).run Try.prog w =
    .ok (.value (.tuple #[.int .u64 ((x + y + c) % 18446744073709551616), .int .u64 ((x + y + c) / 18446744073709551616)])) w := by
  rw [run_callFunc_extern Try.func41 (by kernel_rfl) (by kernel_rfl) (by kernel_rfl) (e := add64Entry) (by kernel_rfl), run_add64 x y c hx hy hc0 hc]
  rfl
theorem run_add_ex (x y c : Int) (hx : Wd x) (hy : Wd y) (hc0 : 0 ≤ c) (hc : c ≤ 1) : ∃ s k : Int, Wd s ∧ 0 ≤ k ∧ k ≤ 1 ∧ Hid (x + y + c = s + 18446744073709551616 * k) ∧
    ∀ w, (callFunc 41 #[.int .u64 x, .int .u64 y, .int .u64 c]).run Try.prog w = .ok (.value (.tuple #[.int .u64 s, .int .u64 k])) w := by
  unfold Wd at hx hy
  refine ⟨_, _, ?_, ?_, ?_, ?_, fun w => run_add x y c (by omega) (by omega) hc0 hc w⟩
  · exact ⟨by omega, by omega⟩
  · omega
  · omega
  · show _ = _
    omega
theorem maskN (a : Nat) (ha : a < 18446744073709551616) : bits .and .u64 (a : Int) 4294967295 = ((a % 4294967296 : Nat) : Int) := by
  have h := u64_and_nat a 4294967295 ha (by omega)
  have e : a &&& 4294967295 = a % 4294967296 := Nat.and_two_pow_sub_one_eq_mod a 32
  rw [e] at h
  exact h
theorem divN (a : Nat) : (a : Int) / 4294967296 = ((a / 4294967296 : Nat) : Int) := by omega
theorem mulN (a b : Nat) : (a : Int) * (b : Int) = ((a * b : Nat) : Int) := (Int.natCast_mul a b).symm
theorem addN (a b : Nat) : (a : Int) + (b : Int) = ((a + b : Nat) : Int) := (Int.natCast_add a b).symm
theorem wrapN (a : Nat) (ha : a < 18446744073709551616) : IntKind.u64.wrap (a : Int) = (a : Int) := by rw [IntKind.wrap_u64]; omega
theorem wrapM (a : Nat) : IntKind.u64.wrap (a : Int) = ((a % 18446744073709551616 : Nat) : Int) := by rw [IntKind.wrap_u64]; omega

set_option maxHeartbeats 1000000 in
theorem mul64_nat (x y : Nat) (hx : x < 18446744073709551616) (hy : y < 18446744073709551616) (w : World) :
    Calls Try.prog 42 #[.int .u64 x, .int .u64 y] w fun e w' => e = .returned (.tuple #[.int .u64 ((x * y / 18446744073709551616 : Nat) : Int), .int .u64 ((x * y % 18446744073709551616 : Nat) : Int)]) ∧ w = w' := by
  obtain ⟨bd, bt, bw, hhi⟩ := Lib.mul64_hi x y hx hy
  have ba := Lib.half_mul_le (a := x / 4294967296) (b := y / 4294967296) (by omega) (by omega)
  have bb := Lib.half_mul_le (a := x / 4294967296) (b := y % 4294967296) (by omega) (by omega)
  have bc := Lib.half_mul_le (a := x % 4294967296) (b := y / 4294967296) (by omega) (by omega)
  have ba' : x / 4294967296 * (y / 4294967296) < 18446744073709551616 := by omega
  have bb' : x / 4294967296 * (y % 4294967296) < 18446744073709551616 := by omega
  have bc' : x % 4294967296 * (y / 4294967296) < 18446744073709551616 := by omega
  have bh1 : x / 4294967296 * (y / 4294967296) + (x / 4294967296 * (y % 4294967296) + x % 4294967296 * (y % 4294967296) / 4294967296) / 4294967296 < 18446744073709551616 := by omega
  have bh : x / 4294967296 * (y / 4294967296) + (x / 4294967296 * (y % 4294967296) + x % 4294967296 * (y % 4294967296) / 4294967296) / 4294967296 + ((x / 4294967296 * (y % 4294967296) + x % 4294967296 * (y % 4294967296) / 4294967296) % 4294967296 + x % 4294967296 * (y / 4294967296)) / 4294967296 < 18446744073709551616 := by omega
  go_enter Try.func42, Try.ntmps42
  go_wp2
  simp only [maskN x hx, maskN y hy, divN, mulN, addN, wrapN _ bd, wrapN _ bb', wrapN _ bt, maskN _ bt, wrapN _ bc', wrapN _ bw, wrapN _ ba', wrapN _ bh1, wrapN _ bh, wrapM (x * y)]
  rw [hhi]
  go_ret2
  exact ⟨rfl, rfl⟩

theorem mul64_any (x y : Int) (hx0 : 0 ≤ x) (hx : x < 18446744073709551616) (hy0 : 0 ≤ y) (hy : y < 18446744073709551616) (w : World) :
    Calls Try.prog 42 #[.int .u64 x, .int .u64 y] w fun e w' => e = .returned (.tuple #[.int .u64 (x * y / 18446744073709551616), .int .u64 (x * y % 18446744073709551616)]) ∧ w = w' := by
  obtain ⟨x, rfl⟩ := Int.eq_ofNat_of_zero_le hx0
  obtain ⟨y, rfl⟩ := Int.eq_ofNat_of_zero_le hy0
  refine (mul64_nat x y (by omega) (by omega) w).mono ?_
  rintro e w' ⟨rfl, rfl⟩
  exact ⟨by simp, rfl⟩

/-! ### Bits -/
theorem low_bits (j : Nat) (hj : j ≤ 63) (a : Int) (ha : Wd a) : bits .and .u64 a (2 ^ j - 1) = a % 2 ^ j := by
  unfold Wd at ha
  obtain ⟨a, rfl⟩ := Int.eq_ofNat_of_zero_le ha.1
  have e2 : (2 : Int) ^ j = ((2 ^ j : Nat) : Int) := by rw [Int.natCast_pow]; rfl
  have hp : 0 < 2 ^ j := Nat.two_pow_pos j
  have hq : 2 ^ j ≤ 2 ^ 63 := Nat.pow_le_pow_right (by decide) hj
  have e3 : (2 : Int) ^ j - 1 = ((2 ^ j - 1 : Nat) : Int) := by rw [e2]; omega
  rw [e3, u64_and_nat a (2 ^ j - 1) (by omega) (by omega), Nat.and_two_pow_sub_one_eq_mod, e2]
  rfl
theorem join (j : Nat) (x y : Int) (hj : j ≤ 63) (h0 : 0 ≤ x) (h1 : x < 2 ^ j) (g0 : 0 ≤ y) (g1 : y * 2 ^ j < 18446744073709551616) : bits .or .u64 x (y * 2 ^ j) = x + y * 2 ^ j := by
  obtain ⟨x, rfl⟩ := Int.eq_ofNat_of_zero_le h0
  obtain ⟨y, rfl⟩ := Int.eq_ofNat_of_zero_le g0
  have e : ((y : Int) * 2 ^ j) = ((y * 2 ^ j : Nat) : Int) := by rw [Int.natCast_mul, Int.natCast_pow]; rfl
  have e2 : (2 : Int) ^ j = ((2 ^ j : Nat) : Int) := by rw [Int.natCast_pow]; rfl
  have hx : x < 2 ^ j := by rw [e2] at h1; omega
  have hy : y * 2 ^ j < 18446744073709551616 := by rw [e] at g1; omega
  have hj2 : 2 ^ j ≤ 2 ^ 63 := Nat.pow_le_pow_right (by decide) hj
  rw [e, u64_or_nat x (y * 2 ^ j) (by omega) hy, Nat.or_comm, nat_join j (y * 2 ^ j) x (Nat.mul_mod_left _ _) hx]
  omega
theorem join' (j : Nat) (x y : Int) (hj : j ≤ 63) (h0 : 0 ≤ x) (h1 : x < 2 ^ j) (g0 : 0 ≤ y) (g1 : y * 2 ^ j < 18446744073709551616) : bits .or .u64 (y * 2 ^ j) x = y * 2 ^ j + x := by
  obtain ⟨x, rfl⟩ := Int.eq_ofNat_of_zero_le h0
  obtain ⟨y, rfl⟩ := Int.eq_ofNat_of_zero_le g0
  have e : ((y : Int) * 2 ^ j) = ((y * 2 ^ j : Nat) : Int) := by rw [Int.natCast_mul, Int.natCast_pow]; rfl
  have e2 : (2 : Int) ^ j = ((2 ^ j : Nat) : Int) := by rw [Int.natCast_pow]; rfl
  have hx : x < 2 ^ j := by rw [e2] at h1; omega
  have hy : y * 2 ^ j < 18446744073709551616 := by rw [e] at g1; omega
  have hj2 : 2 ^ j ≤ 2 ^ 63 := Nat.pow_le_pow_right (by decide) hj
  rw [e, u64_or_nat (y * 2 ^ j) x hy (by omega), nat_join j (y * 2 ^ j) x (Nat.mul_mod_left _ _) hx]
  omega

/-! ### Numbers of bytes -/
/-- The number of bytes, the lowest first. -/
def vl : List Int → Int
  | [] => 0
  | a :: l => a + 256 * vl l
theorem vl_append (l k : List Int) : vl (l ++ k) = vl l + 256 ^ l.length * vl k := by
  induction l with
  | nil => simp [vl]
  | cons a l ih =>
    simp only [List.cons_append, vl, ih, List.length_cons, Int.pow_succ, Int.mul_add]
    rw [← Int.mul_assoc, Int.mul_comm 256 (256 ^ l.length)]
    omega
theorem vl_bd (l : List Int) (h : Bys l) : 0 ≤ vl l ∧ vl l < (256 : Int) ^ l.length := by
  induction l with
  | nil => simp [vl]
  | cons a l ih =>
    have h1 := ih (fun b hb => h b (by simp [hb]))
    have h2 := h a (by simp)
    simp only [vl, List.length_cons, Int.pow_succ]
    omega
/-- The bytes of a number. -/
def les : Nat → Int → List Int
  | 0, _ => []
  | n + 1, v => v % 256 :: les n (v / 256)
theorem les_length (n : Nat) : ∀ v, (les n v).length = n := by
  induction n with
  | zero => intro v; rfl
  | succ n ih => intro v; simp [les, ih]
theorem les_bys (n : Nat) : ∀ v, Bys (les n v) := by
  induction n with
  | zero => intro v; exact Bys.nil
  | succ n ih =>
    intro v b hb
    rcases List.mem_cons.1 hb with rfl | hb
    · omega
    · exact ih _ b hb
theorem vl_les (n : Nat) : ∀ v : Int, vl (les n v) = v % 256 ^ n := by
  induction n with
  | zero => intro v; simp [les, vl]
  | succ n ih =>
    intro v
    simp only [les, vl, ih]
    rw [Int.pow_succ]
    generalize hp : (256 : Int) ^ n = p
    have hp0 : 0 < p := by rw [← hp]; exact Int.pow_pos (by decide)
    have h1 := Int.emod_add_mul_ediv v 256
    have h2 := Int.emod_add_mul_ediv (v / 256) p
    have b1 := Int.emod_nonneg (v / 256) (by omega : p ≠ 0)
    have b2 := Int.emod_lt_of_pos (v / 256) hp0
    have e : v = (v % 256 + 256 * (v / 256 % p)) + p * 256 * (v / 256 / p) := by
      have : p * 256 * (v / 256 / p) = 256 * (p * (v / 256 / p)) := by rw [Int.mul_comm p 256, Int.mul_assoc]
      rw [this]
      omega
    have h3 : v % (p * 256) = (v % 256 + 256 * (v / 256 % p)) % (p * 256) := by
      conv => lhs; rw [e]
      exact Int.add_mul_emod_self_left _ _ _
    rw [h3]
    exact (Int.emod_eq_of_lt (by omega) (by omega)).symm
theorem les_vl (l : List Int) (h : Bys l) : les l.length (vl l) = l := by
  induction l with
  | nil => rfl
  | cons a l ih =>
    have h2 := h a (by simp)
    have e1 : (a + 256 * vl l) % 256 = a := by omega
    have e2 : (a + 256 * vl l) / 256 = vl l := by omega
    simp only [List.length_cons, les, vl, e1, e2, ih (fun b hb => h b (by simp [hb]))]
theorem vl_inj (l k : List Int) (hl : Bys l) (hk : Bys k) (h : l.length = k.length) (e : vl l = vl k) : l = k := by
  rw [← les_vl l hl, ← les_vl k hk, h, e]
theorem vl_split (l : List Int) (n : Nat) (h : n ≤ l.length) : vl l = vl (l.take n) + 256 ^ n * vl (l.drop n) := by
  conv => lhs; rw [← List.take_append_drop n l]
  rw [vl_append, List.length_take, Nat.min_eq_left h]
theorem eight {l : List Int} (h : l.length = 8) : ∃ a b c d e f g i, l = [a, b, c, d, e, f, g, i] := by
  match l, h with
  | [a, b, c, d, e, f, g, i], _ => exact ⟨a, b, c, d, e, f, g, i, rfl⟩

set_option maxRecDepth 100000 in
set_option maxHeartbeats 2000000 in
theorem word_is (l : List Int) (w : World) (hl : l.length = 8) (hb : Bys l) :
    Calls Try.prog 37 #[.agg (vs .u8 l)] w fun e w' => e = .returned (.int .u64 (vl l)) ∧ Fr (fun _ => False) w w' := by
  obtain ⟨b0, b1, b2, b3, b4, b5, b6, b7, rfl⟩ := eight hl
  obtain ⟨v, hv⟩ : ∃ v, v = vl [b0, b1, b2, b3, b4, b5, b6, b7] := ⟨_, rfl⟩
  have h0 := hb b0 (by simp)
  have h1 := hb b1 (by simp)
  have h2 := hb b2 (by simp)
  have h3 := hb b3 (by simp)
  have h4 := hb b4 (by simp)
  have h5 := hb b5 (by simp)
  have h6 := hb b6 (by simp)
  have h7 := hb b7 (by simp)
  have HV := Lib.hid hv
  rw [← hv]
  simp only [vl] at hv
  have e1 : bits .or .u64 b0 (b1 * 256) = b0 + b1 * 256 := join 8 b0 b1 (by decide) (by omega) (by omega) (by omega) (by omega)
  have e2 : bits .or .u64 (b0 + b1 * 256) (b2 * 65536) = b0 + b1 * 256 + b2 * 65536 := join 16 (b0 + b1 * 256) b2 (by decide) (by omega) (by omega) (by omega) (by omega)
  have e3 : bits .or .u64 (b0 + b1 * 256 + b2 * 65536) (b3 * 16777216) = b0 + b1 * 256 + b2 * 65536 + b3 * 16777216 := join 24 (b0 + b1 * 256 + b2 * 65536) b3 (by decide) (by omega) (by omega) (by omega) (by omega)
  obtain ⟨x3, hx3⟩ : ∃ x, b0 + b1 * 256 + b2 * 65536 + b3 * 16777216 = x := ⟨_, rfl⟩
  have e4 : bits .or .u64 x3 (b4 * 4294967296) = x3 + b4 * 4294967296 := join 32 x3 b4 (by decide) (by omega) (by omega) (by omega) (by omega)
  have e5 : bits .or .u64 (x3 + b4 * 4294967296) (b5 * 1099511627776) = x3 + b4 * 4294967296 + b5 * 1099511627776 := join 40 (x3 + b4 * 4294967296) b5 (by decide) (by omega) (by omega) (by omega) (by omega)
  have e6 : bits .or .u64 (x3 + b4 * 4294967296 + b5 * 1099511627776) (b6 * 281474976710656) = x3 + b4 * 4294967296 + b5 * 1099511627776 + b6 * 281474976710656 := join 48 (x3 + b4 * 4294967296 + b5 * 1099511627776) b6 (by decide) (by omega) (by omega) (by omega) (by omega)
  have e7 : bits .or .u64 (x3 + b4 * 4294967296 + b5 * 1099511627776 + b6 * 281474976710656) (b7 * 72057594037927936) = v := by
    exact (join 56 (x3 + b4 * 4294967296 + b5 * 1099511627776 + b6 * 281474976710656) b7 (by decide) (by omega) (by omega) (by omega) (by omega)).trans (by omega)
  rw [hx3] at e3
  have w0 : IntKind.u64.wrap b0 = b0 := wrap_in _ ⟨by omega, by omega⟩
  have w1 : IntKind.u64.wrap b1 = b1 := wrap_in _ ⟨by omega, by omega⟩
  have w2 : IntKind.u64.wrap b2 = b2 := wrap_in _ ⟨by omega, by omega⟩
  have w3 : IntKind.u64.wrap b3 = b3 := wrap_in _ ⟨by omega, by omega⟩
  have w4 : IntKind.u64.wrap b4 = b4 := wrap_in _ ⟨by omega, by omega⟩
  have w5 : IntKind.u64.wrap b5 = b5 := wrap_in _ ⟨by omega, by omega⟩
  have w6 : IntKind.u64.wrap b6 = b6 := wrap_in _ ⟨by omega, by omega⟩
  have w7 : IntKind.u64.wrap b7 = b7 := wrap_in _ ⟨by omega, by omega⟩
  have v1 : IntKind.u64.wrap (b1 * 256) = b1 * 256 := wrap_in _ ⟨by omega, by omega⟩
  have v2 : IntKind.u64.wrap (b2 * 65536) = b2 * 65536 := wrap_in _ ⟨by omega, by omega⟩
  have v3 : IntKind.u64.wrap (b3 * 16777216) = b3 * 16777216 := wrap_in _ ⟨by omega, by omega⟩
  have v4 : IntKind.u64.wrap (b4 * 4294967296) = b4 * 4294967296 := wrap_in _ ⟨by omega, by omega⟩
  have v5 : IntKind.u64.wrap (b5 * 1099511627776) = b5 * 1099511627776 := wrap_in _ ⟨by omega, by omega⟩
  have v6 : IntKind.u64.wrap (b6 * 281474976710656) = b6 * 281474976710656 := wrap_in _ ⟨by omega, by omega⟩
  have v7 : IntKind.u64.wrap (b7 * 72057594037927936) = b7 * 72057594037927936 := wrap_in _ ⟨by omega, by omega⟩
  clear h0 h1 h2 h3 h4 h5 h6 h7 hb hl hv hx3
  show Calls Try.prog 37 #[.agg #[.int .u8 b0, .int .u8 b1, .int .u8 b2, .int .u8 b3, .int .u8 b4, .int .u8 b5, .int .u8 b6, .int .u8 b7]] w _
  go_enter Try.func37, Try.ntmps37
  go_wp2
  go_ret
  exact ⟨rfl, (Fr.refl _ _).alloc _⟩
end Go.Proofs.Ytcoggpedpclkaaa
