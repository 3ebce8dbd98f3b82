/- 2^255 - 19 is prime, and each number below it, but 0, to the power 2^255 - 20 is 1 modulo it: plain mathematics, by Lucas' test (a generator and the prime factors of one less), down to small primes. No condition. -/
namespace Go.Proofs.Ytbkbodcncjhcmaa

/-- A power modulo n, by squaring; so many bits. -/
def pm : Nat → Nat → Nat → Nat → Nat
  | 0, _, _, n => 1 % n
  | f + 1, b, e, n => if e % 2 = 1 then b * pm f (b * b % n) (e / 2) n % n else pm f (b * b % n) (e / 2) n
theorem pm_ok (f b e n : Nat) (h : e < 2 ^ f) : pm f b e n = b ^ e % n := by
  induction f generalizing b e with
  | zero =>
    obtain rfl : e = 0 := by simpa using h
    simp [pm]
  | succ f ih =>
    have h1 := ih (b * b % n) (e / 2) (by rw [Nat.pow_succ] at h; omega)
    have h2 : (b * b % n) ^ (e / 2) % n = b ^ (2 * (e / 2)) % n := by rw [← Nat.pow_mod, Nat.pow_mul, Nat.pow_two]
    simp only [pm]
    split
    · rename_i ho
      rw [h1, h2, Nat.mul_mod, Nat.mod_mod, ← Nat.mul_mod, ← Nat.pow_succ', show (2 * (e / 2)).succ = e by omega]
    · rename_i ho
      rw [h1, h2, show 2 * (e / 2) = e by omega]

def Pr (n : Nat) : Prop := 2 ≤ n ∧ ∀ m, m ∣ n → m = 1 ∨ m = n
theorem Pr.euclid {q a b : Nat} (h : Pr q) (hd : q ∣ a * b) : q ∣ a ∨ q ∣ b := by
  rcases h.2 (Nat.gcd q a) (Nat.gcd_dvd_left q a) with h1 | h1
  · exact .inr (Nat.Coprime.dvd_of_dvd_mul_left h1 hd)
  · exact .inl (h1 ▸ Nat.gcd_dvd_right q a)
def prod : List Nat → Nat
  | [] => 1
  | q :: r => q * prod r
/-- A factor of a product of primes that is not all of it leaves one of them out. -/
theorem factor_left (fs : List Nat) (hp : ∀ q ∈ fs, Pr q) (d e : Nat) (h : prod fs = d * e) (he : e ≠ 1) : ∃ q ∈ fs, q ∣ e := by
  induction fs generalizing d e with
  | nil =>
    simp only [prod] at h
    have := Nat.eq_one_of_mul_eq_one_left h.symm
    exact absurd this he
  | cons q r ih =>
    have hq := hp q (by simp)
    simp only [prod] at h
    rcases hq.euclid (show q ∣ d * e from ⟨prod r, h.symm⟩) with hd | hd
    · obtain ⟨d', rfl⟩ := hd
      have h2 : prod r = d' * e := by
        have hq0 : 0 < q := by have := hq.1; omega
        rw [Nat.mul_assoc] at h
        exact Nat.eq_of_mul_eq_mul_left hq0 h
      obtain ⟨x, hx, hxe⟩ := ih (fun y hy => hp y (by simp [hy])) d' e h2 he
      exact ⟨x, by simp [hx], hxe⟩
    · exact ⟨q, by simp, hd⟩

/-- One hole too few. -/
theorem pigeon (m : Nat) (f : Nat → Nat) (hf : ∀ i, i < m + 1 → f i < m) : ∃ i j, i < j ∧ j < m + 1 ∧ f i = f j := by
  induction m generalizing f with
  | zero => have := hf 0 (by omega); omega
  | succ m ih =>
    by_cases hc : ∃ i, i < m + 1 ∧ f i = f (m + 1)
    · obtain ⟨i, hi, he⟩ := hc
      exact ⟨i, m + 1, hi, by omega, he⟩
    · have hc' : ∀ i, i < m + 1 → f i ≠ f (m + 1) := fun i hi he => hc ⟨i, hi, he⟩
      obtain ⟨i, j, hij, hj, he⟩ := ih (fun i => if f i = m then f (m + 1) else f i) (fun i hi => by
        have h1 := hf i (by omega)
        have h2 := hf (m + 1) (by omega)
        have h3 := hc' i hi
        show (if f i = m then f (m + 1) else f i) < m
        split <;> omega)
      have hi' := hc' i (by omega)
      have hj' := hc' j hj
      refine ⟨i, j, hij, by omega, ?_⟩
      split at he <;> split at he <;> omega

theorem pow_mod_one {g n k : Nat} (h : g ^ k % n = 1 % n) (j : Nat) : g ^ (k * j) % n = 1 % n := by
  rw [Nat.pow_mul, Nat.pow_mod, h, ← Nat.pow_mod, Nat.one_pow]

/-- Lucas' test: n is prime, and all numbers below it but 0 are powers of g. -/
theorem lucas (n g : Nat) (fs : List Nat) (hn : 2 ≤ n) (hp : ∀ q ∈ fs, Pr q) (hfs : prod fs = n - 1) (h1 : g ^ (n - 1) % n = 1 % n) (hq : ∀ q ∈ fs, g ^ ((n - 1) / q) % n ≠ 1 % n) :
    Pr n ∧ ∀ a, 0 < a → a < n → a ^ (n - 1) % n = 1 % n := by
  have h1n : 1 % n = 1 := Nat.mod_eq_of_lt (by omega)
  -- no smaller power is 1
  have hmin : ∀ k, 0 < k → k < n - 1 → g ^ k % n ≠ 1 % n := by
    intro k
    induction k using Nat.strongRecOn with
    | _ k ih =>
      intro hk0 hk he
      by_cases hdv : k ∣ n - 1
      · obtain ⟨e, hke⟩ := hdv
        have he1 : e ≠ 1 := by rintro rfl; omega
        obtain ⟨q, hqm, ⟨e', rfl⟩⟩ := factor_left fs hp k e (by rw [hfs, hke]) he1
        have hq0 : 0 < q := by have := (hp q hqm).1; omega
        have hdiv : (n - 1) / q = k * e' := by
          rw [hke, show k * (q * e') = q * (k * e') by rw [Nat.mul_left_comm]]
          exact Nat.mul_div_cancel_left _ hq0
        exact hq q hqm (by rw [hdiv]; exact pow_mod_one he e')
      · -- the rest is a smaller one
        have hr0 : 0 < (n - 1) % k := by
          rcases Nat.eq_zero_or_pos ((n - 1) % k) with h | h
          · exact absurd (Nat.dvd_of_mod_eq_zero h) hdv
          · exact h
        have hrk : (n - 1) % k < k := Nat.mod_lt _ hk0
        refine ih ((n - 1) % k) hrk hr0 (by omega) ?_
        have hsp : g ^ (n - 1) = g ^ (k * ((n - 1) / k)) * g ^ ((n - 1) % k) := by
          rw [← Nat.pow_add, Nat.div_add_mod]
        rw [hsp, Nat.mul_mod, pow_mod_one he, h1n, Nat.one_mul, Nat.mod_mod] at h1
        rw [h1, h1n]
  -- g can be taken back
  have hcancel : ∀ i x y, (g ^ i * x) % n = (g ^ i * y) % n → i ≤ n - 1 → x % n = y % n := by
    intro i x y h hi
    have e : ∀ z, z % n = (g ^ (n - 1 - i) * (g ^ i * z)) % n := by
      intro z
      rw [← Nat.mul_assoc, ← Nat.pow_add, show n - 1 - i + i = n - 1 by omega, Nat.mul_mod, h1, h1n, Nat.one_mul, Nat.mod_mod]
    rw [e x, e y, Nat.mul_mod, h, ← Nat.mul_mod]
  have hinj : ∀ i j, i < j → j < n - 1 → g ^ i % n ≠ g ^ j % n := by
    intro i j hij hj he
    have h2 : (g ^ i * 1) % n = (g ^ i * g ^ (j - i)) % n := by
      rw [Nat.mul_one, ← Nat.pow_add, show i + (j - i) = j by omega, he]
    have h3 := hcancel i 1 (g ^ (j - i)) h2 (by omega)
    exact hmin (j - i) (by omega) (by omega) h3.symm
  have hnz : ∀ i, i < n - 1 → g ^ i % n ≠ 0 := by
    intro i hi he
    have h2 : (g ^ i * 1) % n = (g ^ i * 0) % n := by rw [Nat.mul_one, Nat.mul_zero, he, Nat.zero_mod]
    have h3 := hcancel i 1 0 h2 (by omega)
    rw [h1n, Nat.zero_mod] at h3
    omega
  have hsurj : ∀ a, 0 < a → a < n → ∃ i, i < n - 1 ∧ g ^ i % n = a := by
    intro a ha0 han
    rcases Classical.em (∃ i, i < n - 1 ∧ g ^ i % n = a) with h | h
    · exact h
    · exfalso
      obtain ⟨i, j, hij, hj, he⟩ := pigeon (n - 2) (fun i => if g ^ i % n > a then g ^ i % n - 2 else g ^ i % n - 1) (fun i hi => by
        have hz := hnz i (by omega)
        have hl : g ^ i % n < n := Nat.mod_lt _ (by omega)
        have hne : g ^ i % n ≠ a := fun e => h ⟨i, by omega, e⟩
        show (if g ^ i % n > a then g ^ i % n - 2 else g ^ i % n - 1) < n - 2
        split <;> omega)
      have hzi := hnz i (by omega)
      have hzj := hnz j (by omega)
      have hnei : g ^ i % n ≠ a := fun e => h ⟨i, by omega, e⟩
      have hnej : g ^ j % n ≠ a := fun e => h ⟨j, by omega, e⟩
      have hd := hinj i j hij (by omega)
      split at he <;> split at he <;> omega
  have hfer : ∀ a, 0 < a → a < n → a ^ (n - 1) % n = 1 % n := by
    intro a ha0 han
    obtain ⟨i, _, hi⟩ := hsurj a ha0 han
    rw [← hi, ← Nat.pow_mod, ← Nat.pow_mul, Nat.mul_comm]
    exact pow_mod_one h1 i
  refine ⟨⟨hn, fun m hm => ?_⟩, hfer⟩
  rcases Nat.eq_zero_or_pos m with h0 | h0
  · subst h0
    have := Nat.eq_zero_of_zero_dvd hm
    omega
  · have hle := Nat.le_of_dvd (by omega) hm
    by_cases hmn : m = n
    · exact .inr hmn
    · left
      have h2 := hfer m h0 (by omega)
      rw [h1n] at h2
      -- m divides its power and n, so 1
      have h3 : m ∣ m ^ (n - 1) := Nat.dvd_trans (by rw [Nat.pow_one]; exact Nat.dvd_refl m) (Nat.pow_dvd_pow m (show 1 ≤ n - 1 by omega))
      have h4 : m ^ (n - 1) = n * (m ^ (n - 1) / n) + 1 := by
        have := Nat.div_add_mod (m ^ (n - 1)) n
        rw [h2] at this
        exact this.symm
      have h5 : m ∣ n * (m ^ (n - 1) / n) + 1 := h4 ▸ h3
      have h6 : m ∣ n * (m ^ (n - 1) / n) := Nat.dvd_trans hm (Nat.dvd_mul_right _ _)
      exact Nat.dvd_one.1 ((Nat.dvd_add_right h6).1 h5)

/-- The test, by reckoning. -/
def lucasB (f n g : Nat) (fs : List Nat) : Bool :=
  decide (2 ≤ n) && decide (n - 1 < 2 ^ f) && decide (prod fs = n - 1) && decide (pm f g (n - 1) n = 1) && fs.all fun q => decide (pm f g ((n - 1) / q) n ≠ 1)
theorem lucas_of (f n g : Nat) (fs : List Nat) (h : lucasB f n g fs = true) (hp : ∀ q ∈ fs, Pr q) : Pr n ∧ ∀ a, 0 < a → a < n → a ^ (n - 1) % n = 1 % n := by
  unfold lucasB at h
  simp only [Bool.and_eq_true, decide_eq_true_eq, List.all_eq_true] at h
  obtain ⟨⟨⟨⟨h1, h2⟩, h3⟩, h4⟩, h5⟩ := h
  have h1n : 1 % n = 1 := Nat.mod_eq_of_lt (by omega)
  refine lucas n g fs h1 hp h3 ?_ ?_
  · rw [← pm_ok f g (n - 1) n h2, h4, h1n]
  · intro q hq
    rw [← pm_ok f g ((n - 1) / q) n (Nat.lt_of_le_of_lt (Nat.div_le_self _ _) h2), h1n]
    exact h5 q hq
/-- Small ones, by trial. -/
theorem small_pr (n : Nat) (h : (decide (2 ≤ n) && (List.range n).all fun m => decide (m < 2) || decide (n % m ≠ 0)) = true) : Pr n := by
  simp only [Bool.and_eq_true, decide_eq_true_eq, List.all_eq_true, Bool.or_eq_true, List.mem_range] at h
  refine ⟨h.1, fun m hm => ?_⟩
  have hle := Nat.le_of_dvd (by omega) hm
  by_cases hmn : m = n
  · exact .inr hmn
  · rcases h.2 m (by omega) with h2 | h2
    · left
      rcases Nat.eq_zero_or_pos m with h0 | h0
      · subst h0
        have := Nat.eq_zero_of_zero_dvd hm
        omega
      · omega
    · exact absurd (Nat.mod_eq_zero_of_dvd hm) h2

theorem pr2 : Pr 2 := small_pr 2 (by decide +kernel)
theorem pr3 : Pr 3 := small_pr 3 (by decide +kernel)
theorem pr5 : Pr 5 := small_pr 5 (by decide +kernel)
theorem pr7 : Pr 7 := small_pr 7 (by decide +kernel)
theorem pr11 : Pr 11 := small_pr 11 (by decide +kernel)
theorem pr13 : Pr 13 := small_pr 13 (by decide +kernel)
theorem pr17 : Pr 17 := small_pr 17 (by decide +kernel)
theorem pr19 : Pr 19 := small_pr 19 (by decide +kernel)
theorem pr23 : Pr 23 := small_pr 23 (by decide +kernel)
theorem pr29 : Pr 29 := small_pr 29 (by decide +kernel)
theorem pr31 : Pr 31 := small_pr 31 (by decide +kernel)
theorem pr37 : Pr 37 := small_pr 37 (by decide +kernel)
theorem pr41 : Pr 41 := small_pr 41 (by decide +kernel)
theorem pr43 : Pr 43 := small_pr 43 (by decide +kernel)
theorem pr47 : Pr 47 := small_pr 47 (by decide +kernel)
theorem pr53 : Pr 53 := (lucas_of 6 53 2 [2, 2, 13] (by decide +kernel) (by
  intro q hq
  simp only [List.mem_cons, List.not_mem_nil, or_false] at hq
  rcases hq with rfl | rfl | rfl
  · exact pr2
  · exact pr2
  · exact pr13)).1
theorem pr59 : Pr 59 := (lucas_of 6 59 2 [2, 29] (by decide +kernel) (by
  intro q hq
  simp only [List.mem_cons, List.not_mem_nil, or_false] at hq
  rcases hq with rfl | rfl
  · exact pr2
  · exact pr29)).1
theorem pr83 : Pr 83 := (lucas_of 7 83 2 [2, 41] (by decide +kernel) (by
  intro q hq
  simp only [List.mem_cons, List.not_mem_nil, or_false] at hq
  rcases hq with rfl | rfl
  · exact pr2
  · exact pr41)).1
theorem pr97 : Pr 97 := (lucas_of 7 97 5 [2, 2, 2, 2, 2, 3] (by decide +kernel) (by
  intro q hq
  simp only [List.mem_cons, List.not_mem_nil, or_false] at hq
  rcases hq with rfl | rfl | rfl | rfl | rfl | rfl
  · exact pr2
  · exact pr2
  · exact pr2
  · exact pr2
  · exact pr2
  · exact pr3)).1
theorem pr103 : Pr 103 := (lucas_of 7 103 5 [2, 3, 17] (by decide +kernel) (by
  intro q hq
  simp only [List.mem_cons, List.not_mem_nil, or_false] at hq
  rcases hq with rfl | rfl | rfl
  · exact pr2
  · exact pr3
  · exact pr17)).1
theorem pr107 : Pr 107 := (lucas_of 7 107 2 [2, 53] (by decide +kernel) (by
  intro q hq
  simp only [List.mem_cons, List.not_mem_nil, or_false] at hq
  rcases hq with rfl | rfl
  · exact pr2
  · exact pr53)).1
theorem pr127 : Pr 127 := (lucas_of 7 127 3 [2, 3, 3, 7] (by decide +kernel) (by
  intro q hq
  simp only [List.mem_cons, List.not_mem_nil, or_false] at hq
  rcases hq with rfl | rfl | rfl | rfl
  · exact pr2
  · exact pr3
  · exact pr3
  · exact pr7)).1
theorem pr131 : Pr 131 := (lucas_of 8 131 2 [2, 5, 13] (by decide +kernel) (by
  intro q hq
  simp only [List.mem_cons, List.not_mem_nil, or_false] at hq
  rcases hq with rfl | rfl | rfl
  · exact pr2
  · exact pr5
  · exact pr13)).1
theorem pr173 : Pr 173 := (lucas_of 8 173 2 [2, 2, 43] (by decide +kernel) (by
  intro q hq
  simp only [List.mem_cons, List.not_mem_nil, or_false] at hq
  rcases hq with rfl | rfl | rfl
  · exact pr2
  · exact pr2
  · exact pr43)).1
theorem pr223 : Pr 223 := (lucas_of 8 223 3 [2, 3, 37] (by decide +kernel) (by
  intro q hq
  simp only [List.mem_cons, List.not_mem_nil, or_false] at hq
  rcases hq with rfl | rfl | rfl
  · exact pr2
  · exact pr3
  · exact pr37)).1
theorem pr239 : Pr 239 := (lucas_of 8 239 7 [2, 7, 17] (by decide +kernel) (by
  intro q hq
  simp only [List.mem_cons, List.not_mem_nil, or_false] at hq
  rcases hq with rfl | rfl | rfl
  · exact pr2
  · exact pr7
  · exact pr17)).1
theorem pr353 : Pr 353 := (lucas_of 9 353 3 [2, 2, 2, 2, 2, 11] (by decide +kernel) (by
  intro q hq
  simp only [List.mem_cons, List.not_mem_nil, or_false] at hq
  rcases hq with rfl | rfl | rfl | rfl | rfl | rfl
  · exact pr2
  · exact pr2
  · exact pr2
  · exact pr2
  · exact pr2
  · exact pr11)).1
theorem pr419 : Pr 419 := (lucas_of 9 419 2 [2, 11, 19] (by decide +kernel) (by
  intro q hq
  simp only [List.mem_cons, List.not_mem_nil, or_false] at hq
  rcases hq with rfl | rfl | rfl
  · exact pr2
  · exact pr11
  · exact pr19)).1
theorem pr479 : Pr 479 := (lucas_of 9 479 13 [2, 239] (by decide +kernel) (by
  intro q hq
  simp only [List.mem_cons, List.not_mem_nil, or_false] at hq
  rcases hq with rfl | rfl
  · exact pr2
  · exact pr239)).1
theorem pr487 : Pr 487 := (lucas_of 9 487 3 [2, 3, 3, 3, 3, 3] (by decide +kernel) (by
  intro q hq
  simp only [List.mem_cons, List.not_mem_nil, or_false] at hq
  rcases hq with rfl | rfl | rfl | rfl | rfl | rfl
  · exact pr2
  · exact pr3
  · exact pr3
  · exact pr3
  · exact pr3
  · exact pr3)).1
theorem pr991 : Pr 991 := (lucas_of 10 991 6 [2, 3, 3, 5, 11] (by decide +kernel) (by
  intro q hq
  simp only [List.mem_cons, List.not_mem_nil, or_false] at hq
  rcases hq with rfl | rfl | rfl | rfl | rfl
  · exact pr2
  · exact pr3
  · exact pr3
  · exact pr5
  · exact pr11)).1
theorem pr1723 : Pr 1723 := (lucas_of 11 1723 3 [2, 3, 7, 41] (by decide +kernel) (by
  intro q hq
  simp only [List.mem_cons, List.not_mem_nil, or_false] at hq
  rcases hq with rfl | rfl | rfl | rfl
  · exact pr2
  · exact pr3
  · exact pr7
  · exact pr41)).1
theorem pr2437 : Pr 2437 := (lucas_of 12 2437 2 [2, 2, 3, 7, 29] (by decide +kernel) (by
  intro q hq
  simp only [List.mem_cons, List.not_mem_nil, or_false] at hq
  rcases hq with rfl | rfl | rfl | rfl | rfl
  · exact pr2
  · exact pr2
  · exact pr3
  · exact pr7
  · exact pr29)).1
theorem pr3727 : Pr 3727 := (lucas_of 12 3727 3 [2, 3, 3, 3, 3, 23] (by decide +kernel) (by
  intro q hq
  simp only [List.mem_cons, List.not_mem_nil, or_false] at hq
  rcases hq with rfl | rfl | rfl | rfl | rfl | rfl
  · exact pr2
  · exact pr3
  · exact pr3
  · exact pr3
  · exact pr3
  · exact pr23)).1
theorem pr4153 : Pr 4153 := (lucas_of 13 4153 5 [2, 2, 2, 3, 173] (by decide +kernel) (by
  intro q hq
  simp only [List.mem_cons, List.not_mem_nil, or_false] at hq
  rcases hq with rfl | rfl | rfl | rfl | rfl
  · exact pr2
  · exact pr2
  · exact pr2
  · exact pr3
  · exact pr173)).1
theorem pr9463 : Pr 9463 := (lucas_of 14 9463 3 [2, 3, 19, 83] (by decide +kernel) (by
  intro q hq
  simp only [List.mem_cons, List.not_mem_nil, or_false] at hq
  rcases hq with rfl | rfl | rfl | rfl
  · exact pr2
  · exact pr3
  · exact pr19
  · exact pr83)).1
theorem pr32573 : Pr 32573 := (lucas_of 15 32573 2 [2, 2, 17, 479] (by decide +kernel) (by
  intro q hq
  simp only [List.mem_cons, List.not_mem_nil, or_false] at hq
  rcases hq with rfl | rfl | rfl | rfl
  · exact pr2
  · exact pr2
  · exact pr17
  · exact pr479)).1
theorem pr37853 : Pr 37853 := (lucas_of 16 37853 2 [2, 2, 9463] (by decide +kernel) (by
  intro q hq
  simp only [List.mem_cons, List.not_mem_nil, or_false] at hq
  rcases hq with rfl | rfl | rfl
  · exact pr2
  · exact pr2
  · exact pr9463)).1
theorem pr57467 : Pr 57467 := (lucas_of 16 57467 2 [2, 59, 487] (by decide +kernel) (by
  intro q hq
  simp only [List.mem_cons, List.not_mem_nil, or_false] at hq
  rcases hq with rfl | rfl | rfl
  · exact pr2
  · exact pr59
  · exact pr487)).1
theorem pr65147 : Pr 65147 := (lucas_of 16 65147 2 [2, 32573] (by decide +kernel) (by
  intro q hq
  simp only [List.mem_cons, List.not_mem_nil, or_false] at hq
  rcases hq with rfl | rfl
  · exact pr2
  · exact pr32573)).1
theorem pr75707 : Pr 75707 := (lucas_of 17 75707 2 [2, 37853] (by decide +kernel) (by
  intro q hq
  simp only [List.mem_cons, List.not_mem_nil, or_false] at hq
  rcases hq with rfl | rfl
  · exact pr2
  · exact pr37853)).1
theorem pr132049 : Pr 132049 := (lucas_of 18 132049 26 [2, 2, 2, 2, 3, 3, 7, 131] (by decide +kernel) (by
  intro q hq
  simp only [List.mem_cons, List.not_mem_nil, or_false] at hq
  rcases hq with rfl | rfl | rfl | rfl | rfl | rfl | rfl | rfl
  · exact pr2
  · exact pr2
  · exact pr2
  · exact pr2
  · exact pr3
  · exact pr3
  · exact pr7
  · exact pr131)).1
theorem pr430751 : Pr 430751 := (lucas_of 19 430751 17 [2, 5, 5, 5, 1723] (by decide +kernel) (by
  intro q hq
  simp only [List.mem_cons, List.not_mem_nil, or_false] at hq
  rcases hq with rfl | rfl | rfl | rfl | rfl
  · exact pr2
  · exact pr5
  · exact pr5
  · exact pr5
  · exact pr1723)).1
theorem pr569003 : Pr 569003 := (lucas_of 20 569003 2 [2, 7, 97, 419] (by decide +kernel) (by
  intro q hq
  simp only [List.mem_cons, List.not_mem_nil, or_false] at hq
  rcases hq with rfl | rfl | rfl | rfl
  · exact pr2
  · exact pr7
  · exact pr97
  · exact pr419)).1
theorem pr1923133 : Pr 1923133 := (lucas_of 21 1923133 2 [2, 2, 3, 43, 3727] (by decide +kernel) (by
  intro q hq
  simp only [List.mem_cons, List.not_mem_nil, or_false] at hq
  rcases hq with rfl | rfl | rfl | rfl | rfl
  · exact pr2
  · exact pr2
  · exact pr3
  · exact pr43
  · exact pr3727)).1
theorem pr8574133 : Pr 8574133 := (lucas_of 24 8574133 2 [2, 2, 3, 7, 103, 991] (by decide +kernel) (by
  intro q hq
  simp only [List.mem_cons, List.not_mem_nil, or_false] at hq
  rcases hq with rfl | rfl | rfl | rfl | rfl | rfl
  · exact pr2
  · exact pr2
  · exact pr3
  · exact pr7
  · exact pr103
  · exact pr991)).1
theorem pr2773320623 : Pr 2773320623 := (lucas_of 32 2773320623 5 [2, 2437, 569003] (by decide +kernel) (by
  intro q hq
  simp only [List.mem_cons, List.not_mem_nil, or_false] at hq
  rcases hq with rfl | rfl | rfl
  · exact pr2
  · exact pr2437
  · exact pr569003)).1
theorem pr72106336199 : Pr 72106336199 := (lucas_of 37 72106336199 7 [2, 13, 2773320623] (by decide +kernel) (by
  intro q hq
  simp only [List.mem_cons, List.not_mem_nil, or_false] at hq
  rcases hq with rfl | rfl | rfl
  · exact pr2
  · exact pr13
  · exact pr2773320623)).1
theorem pr1919519569386763 : Pr 1919519569386763 := (lucas_of 51 1919519569386763 2 [2, 3, 7, 19, 47, 47, 127, 8574133] (by decide +kernel) (by
  intro q hq
  simp only [List.mem_cons, List.not_mem_nil, or_false] at hq
  rcases hq with rfl | rfl | rfl | rfl | rfl | rfl | rfl | rfl
  · exact pr2
  · exact pr3
  · exact pr7
  · exact pr19
  · exact pr47
  · exact pr47
  · exact pr127
  · exact pr8574133)).1
theorem pr31757755568855353 : Pr 31757755568855353 := (lucas_of 55 31757755568855353 10 [2, 2, 2, 3, 31, 107, 223, 4153, 430751] (by decide +kernel) (by
  intro q hq
  simp only [List.mem_cons, List.not_mem_nil, or_false] at hq
  rcases hq with rfl | rfl | rfl | rfl | rfl | rfl | rfl | rfl | rfl
  · exact pr2
  · exact pr2
  · exact pr2
  · exact pr3
  · exact pr31
  · exact pr107
  · exact pr223
  · exact pr4153
  · exact pr430751)).1
theorem pr75445702479781427272750846543864801 : Pr 75445702479781427272750846543864801 := (lucas_of 116 75445702479781427272750846543864801 7 [2, 2, 2, 2, 2, 3, 3, 5, 5, 75707, 72106336199, 1919519569386763] (by decide +kernel) (by
  intro q hq
  simp only [List.mem_cons, List.not_mem_nil, or_false] at hq
  rcases hq with rfl | rfl | rfl | rfl | rfl | rfl | rfl | rfl | rfl | rfl | rfl | rfl
  · exact pr2
  · exact pr2
  · exact pr2
  · exact pr2
  · exact pr2
  · exact pr3
  · exact pr3
  · exact pr5
  · exact pr5
  · exact pr75707
  · exact pr72106336199
  · exact pr1919519569386763)).1
theorem pr74058212732561358302231226437062788676166966415465897661863160754340907 : Pr 74058212732561358302231226437062788676166966415465897661863160754340907 := (lucas_of 236 74058212732561358302231226437062788676166966415465897661863160754340907 2 [2, 3, 353, 57467, 132049, 1923133, 31757755568855353, 75445702479781427272750846543864801] (by decide +kernel) (by
  intro q hq
  simp only [List.mem_cons, List.not_mem_nil, or_false] at hq
  rcases hq with rfl | rfl | rfl | rfl | rfl | rfl | rfl | rfl
  · exact pr2
  · exact pr3
  · exact pr353
  · exact pr57467
  · exact pr132049
  · exact pr1923133
  · exact pr31757755568855353
  · exact pr75445702479781427272750846543864801)).1
theorem fermat_p : Pr 57896044618658097711785492504343953926634992332820282019728792003956564819949 ∧ ∀ a, 0 < a → a < 57896044618658097711785492504343953926634992332820282019728792003956564819949 → a ^ (57896044618658097711785492504343953926634992332820282019728792003956564819949 - 1) % 57896044618658097711785492504343953926634992332820282019728792003956564819949 = 1 % 57896044618658097711785492504343953926634992332820282019728792003956564819949 := lucas_of 255 57896044618658097711785492504343953926634992332820282019728792003956564819949 2 [2, 2, 3, 65147, 74058212732561358302231226437062788676166966415465897661863160754340907] (by decide +kernel) (by
  intro q hq
  simp only [List.mem_cons, List.not_mem_nil, or_false] at hq
  rcases hq with rfl | rfl | rfl | rfl | rfl
  · exact pr2
  · exact pr2
  · exact pr3
  · exact pr65147
  · exact pr74058212732561358302231226437062788676166966415465897661863160754340907)
end Go.Proofs.Ytbkbodcncjhcmaa
