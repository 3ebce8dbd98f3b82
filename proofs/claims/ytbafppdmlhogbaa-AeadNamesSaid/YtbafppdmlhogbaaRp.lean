/- A product of numbers of seventeen digits, modulo P. Lemmas alone. -/
import Derived.Test.YtbafppdmlhogbaaRc
import Derived.Test.YtbafppdmlhogbaaSp
namespace Go.Proofs.Ytbafppdmlhogbaa
set_option linter.unusedSimpArgs false
set_option linter.unusedVariables false
open Go.RowKit

set_option linter.unusedSectionVars false
/-- One product more. -/
def stp (A B O : List Int) (i k : Nat) : List Int :=
  if i + k < 17 then O.set (i + k) (O.getD (i + k) 0 + A.getD i 0 * B.getD k 0) else O.set (i + k - 17) (O.getD (i + k - 17) 0 + 320 * A.getD i 0 * B.getD k 0)
def inn (A B O : List Int) (i : Nat) : Nat → List Int
  | 0 => O
  | k + 1 => stp A B (inn A B O i k) i k
def prd (A B : List Int) : Nat → List Int
  | 0 => List.replicate 17 0
  | i + 1 => inn A B (prd A B i) i 17
theorem inn_zero (A B O : List Int) (i : Nat) : inn A B O i 0 = O := rfl
theorem inn_succ (A B O : List Int) (i k : Nat) : inn A B O i (k + 1) = stp A B (inn A B O i k) i k := rfl
theorem prd_zero (A B : List Int) : prd A B 0 = List.replicate 17 0 := rfl
theorem prd_succ (A B : List Int) (i : Nat) : prd A B (i + 1) = inn A B (prd A B i) i 17 := rfl
theorem vl_set (L : List Int) (j : Nat) (d : Int) (h : j < L.length) : vl (L.set j (L.getD j 0 + d)) = vl L + 256 ^ j * d := by
  induction L generalizing j with
  | nil => simp at h
  | cons a L ih =>
    cases j with
    | zero => simp [vl]; omega
    | succ j =>
      have e := ih j (by simpa using h)
      simp only [List.set_cons_succ, List.getD_cons_succ, vl, e, Int.pow_succ]
      rw [Int.mul_add, Int.mul_comm (256 ^ j) 256, Int.mul_assoc]
      omega
theorem stp_length (A B O : List Int) (i k : Nat) : (stp A B O i k).length = O.length := by
  unfold stp
  split <;> simp
theorem inn_length (A B O : List Int) (i : Nat) : ∀ k, (inn A B O i k).length = O.length := by
  intro k
  induction k with
  | zero => rfl
  | succ k ih => rw [inn, stp_length, ih]
theorem prd_length (A B : List Int) : ∀ i, (prd A B i).length = 17 := by
  intro i
  induction i with
  | zero => rfl
  | succ i ih => rw [prd, inn_length, ih]
section
variable {A B : List Int} (hA : A.length = 17) (hB : B.length = 17) (dA : Dg 256 A) (dB : Dg 256 B)
include hA hB dA dB
theorem stp_dg {O : List Int} {m : Int} {i k : Nat} (hO : O.length = 17) (dO : Dg m O) (hi : i < 17) (hk : k < 17) : Dg (m + 20808000) (stp A B O i k) := by
  have ha := dA.getD (i := i) (by omega)
  have hb := dB.getD (i := k) (by omega)
  have hp := mul_bd ha.1 (Int.le_of_lt_add_one (by omega : A.getD i 0 < 255 + 1)) hb.1 (Int.le_of_lt_add_one (by omega : B.getD k 0 < 255 + 1))
  intro x hx
  unfold stp at hx
  split at hx
  · rename_i h
    have ho := dO.getD (i := i + k) (by omega)
    rcases List.mem_or_eq_of_mem_set hx with hx | rfl
    · have := dO x hx; omega
    · omega
  · rename_i h
    have ho := dO.getD (i := i + k - 17) (by omega)
    rcases List.mem_or_eq_of_mem_set hx with hx | rfl
    · have := dO x hx; omega
    · rw [Int.mul_assoc]; omega
theorem inn_dg {O : List Int} {m : Int} {i : Nat} (hO : O.length = 17) (dO : Dg m O) (hi : i < 17) : ∀ k : Nat, k ≤ 17 → Dg (m + 20808000 * k) (inn A B O i k) := by
  intro k
  induction k with
  | zero => intro _; rw [show m + 20808000 * ((0 : Nat) : Int) = m by omega]; exact dO
  | succ k ih =>
    intro hk
    have := stp_dg hA hB dA dB (i := i) (k := k) (by rw [inn_length, hO]) (ih (by omega)) hi (by omega)
    rw [show m + 20808000 * ((k + 1 : Nat) : Int) = m + 20808000 * k + 20808000 by omega]
    exact this
theorem prd_dg : ∀ i : Nat, i ≤ 17 → Dg (1 + 353736000 * i) (prd A B i) := by
  intro i
  induction i with
  | zero =>
    intro _ x hx
    rw [List.eq_of_mem_replicate hx]
    omega
  | succ i ih =>
    intro hi
    have := inn_dg hA hB dA dB (i := i) (prd_length A B i) (ih (by omega)) (by omega) 17 (Nat.le_refl _)
    rw [show (1 : Int) + 353736000 * ((i + 1 : Nat) : Int) = 1 + 353736000 * i + 20808000 * ((17 : Nat) : Int) by omega]
    exact this
theorem stp_vl {O : List Int} {i k : Nat} (hO : O.length = 17) (hi : i < 17) (hk : k < 17) : vl (stp A B O i k) % pp = (vl O + 256 ^ (i + k) * (A.getD i 0 * B.getD k 0)) % pp := by
  unfold stp
  split
  · rename_i h
    rw [vl_set _ _ _ (by omega)]
  · rename_i h
    rw [vl_set _ _ _ (by omega)]
    obtain ⟨d, hd⟩ : ∃ d, i + k = 17 + d := ⟨i + k - 17, by omega⟩
    rw [hd, Nat.add_sub_cancel_left, Int.pow_add]
    have e2 : (320 : Int) * A.getD i 0 * B.getD k 0 = 320 * (A.getD i 0 * B.getD k 0) := Int.mul_assoc _ _ _
    rw [e2]
    generalize A.getD i 0 * B.getD k 0 = x
    generalize (256 : Int) ^ d = p
    have e : (256 : Int) ^ 17 * p * x = p * (320 * x) + pp * (64 * (p * x)) := by
      unfold pp
      simp only [Int.reducePow]
      grind
    rw [e, ← Int.add_assoc, Int.add_mul_emod_self_left]
theorem inn_vl {O : List Int} {i : Nat} (hO : O.length = 17) (hi : i < 17) : ∀ k, k ≤ 17 → vl (inn A B O i k) % pp = (vl O + 256 ^ i * (A.getD i 0 * vl (B.take k))) % pp := by
  intro k
  induction k with
  | zero => intro _; simp [inn, vl]
  | succ k ih =>
    intro hk
    rw [inn, stp_vl hA hB dA dB (by rw [inn_length, hO]) hi (by omega), Int.add_emod, ih (by omega), ← Int.add_emod, vl_take_succ B k (by omega), Int.pow_add]
    congr 1
    generalize (256 : Int) ^ i = p
    generalize (256 : Int) ^ k = q
    grind
theorem prd_vl : ∀ i, i ≤ 17 → vl (prd A B i) % pp = (vl (A.take i) * vl B) % pp := by
  intro i
  induction i with
  | zero => intro _; simp [prd, vl, vl_zeros]
  | succ i ih =>
    intro hi
    rw [prd, inn_vl hA hB dA dB (prd_length A B i) (by omega) 17 (Nat.le_refl _), Int.add_emod, ih (by omega), ← Int.add_emod, List.take_of_length_le (by omega : B.length ≤ 17), vl_take_succ A i (by omega)]
    congr 1
    generalize (256 : Int) ^ i = p
    grind
end
end Go.Proofs.Ytbafppdmlhogbaa

/- The reference's times: contract. Conditions: seventeen digits below 256, both. -/
namespace Go.Proofs.Ytbafppdmlhogbaa
set_option linter.unusedSimpArgs false
set_option linter.unusedVariables false
open Go.RowKit

set_option maxRecDepth 100000 in
set_option maxHeartbeats 16000000 in
theorem rtimes_is (A B : List Int) (w : World) (hA : A.length = 17) (hB : B.length = 17) (dA : Dg 256 A) (dB : Dg 256 B) :
    Calls Try.prog 57 #[.agg (vs .i64 A), .agg (vs .i64 B)] w fun e w' => e = .returned (.agg (vs .i64 (les 17 (rnd (rnd (rnd (vl (prd A B 17)))))))) ∧ Fr (fun _ => False) w w' := by
  have C28 : ∀ V : World, Calls Try.prog 58 #[.agg (vs .i64 (prd A B 17))] V fun e w' => e = .returned (.agg (vs .i64 (les 17 (rnd (rnd (rnd (vl (prd A B 17)))))))) ∧ Fr (fun _ => False) V w' := fun V =>
    rcarry_is _ V (prd_length A B 17) (fun x hx => by have := prd_dg hA hB dA dB 17 (Nat.le_refl _) x hx; omega)
  obtain ⟨R, hR⟩ : ∃ R, R = les 17 (rnd (rnd (rnd (vl (prd A B 17))))) := ⟨_, rfl⟩
  have HR := Lib.hid hR
  have lR : R.length = 17 := by rw [hR, les_length]
  rw [← hR] at C28
  have HD := Lib.hid (And.intro hA (And.intro hB (And.intro dA dB)))
  have s50 : Hid ((Try.prog.info? 91).map (·.size) = some (vs .i64 R).size) := by show _ = _; rw [vs_size, lR]; exact info50
  obtain ⟨Z, hZ⟩ : ∃ Z, Z = List.replicate 17 (0 : Int) := ⟨_, rfl⟩
  have HZ := Lib.hid hZ
  have eZ : Hid ((vs .i64 Z).size = (vs .i64 R).size) := by show _ = _; rw [vs_size, vs_size, lR, hZ]; rfl
  have hz : ∀ W : World, (zeroValue 91).run Try.prog W = .ok (.agg (vs .i64 Z)) W := fun W => by rw [hZ]; exact zero50 W
  obtain ⟨IN, hIN⟩ : ∃ f : Nat → Nat → List Int, f = fun i k => inn A B (prd A B i) i k := ⟨_, rfl⟩
  have N0 : Hid (IN 0 0 = Z) := by show _ = _; rw [hIN, hZ]; show inn A B (prd A B 0) 0 0 = _; rw [inn_zero, prd_zero]
  have N1 : Hid (∀ i, IN (i + 1) 0 = IN i 17) := by show ∀ _, _; intro i; rw [hIN]; show inn A B (prd A B (i + 1)) (i + 1) 0 = inn A B (prd A B i) i 17; rw [inn_zero, prd_succ]
  have N2 : Hid (∀ i k, IN i (k + 1) = stp A B (IN i k) i k) := by show ∀ _ _, _; intro i k; rw [hIN]; show inn A B (prd A B i) i (k + 1) = stp A B (inn A B (prd A B i) i k) i k; rw [inn_succ]
  have N3 : Hid (∀ i k, (IN i k).length = 17) := by show ∀ _ _, _; intro i k; rw [hIN]; show (inn A B (prd A B i) i k).length = 17; rw [inn_length, prd_length]
  have N4 : Hid (∀ i k : Nat, i < 17 → k ≤ 17 → Dg 6014000000 (IN i k)) := by
    show ∀ _ _, _
    intro i k hi hk x hx
    rw [hIN] at hx
    have := inn_dg hA hB dA dB (prd_length A B i) (prd_dg hA hB dA dB i (by omega)) hi k hk x hx
    omega
  have N5 : Hid (IN 17 0 = prd A B 17) := by show _ = _; rw [hIN]; show inn A B (prd A B 17) 17 0 = prd A B 17; rw [inn_zero]
  rw [← N5.out] at C28
  clear hR lR hA hB dA dB hZ hIN
  go_enter Try.func57, Try.ntmps57
  go_upto_region 2 with (fail)
  generalize hW0 : (((w.alloc (.cells (vs .i64 A) 91)).alloc (.cells (vs .i64 B) 91)).alloc (.cells (vs .i64 Z) 91)).alloc (.cells (vs .i64 Z) 91) = W0
  have HW := Lib.hid (calm4P hW0)
  have X0 : Hid (Ar W0 w.heap.size 91 .i64 A) := HW.out.1
  have X1 : Hid (Ar W0 (w.heap.size + 1) 91 .i64 B) := HW.out.2.1
  have X2 : Hid (Ar W0 (w.heap.size + 1 + 1) 91 .i64 Z) := HW.out.2.2.1
  have X3 : Hid (Ar W0 (w.heap.size + 1 + 1 + 1) 91 .i64 Z) := HW.out.2.2.2.1
  have F0 : Hid (Fr (fun _ => False) w W0) := HW.out.2.2.2.2
  clear hW0 HW hz
  go_wp2
  go_loopw [6, 7] (fun u6 _ wr => ∃ i : Nat, u6 = .int .i64 i ∧ i ≤ 17 ∧ Hid (Ar wr w.heap.size 91 .i64 A) ∧ Hid (Ar wr (w.heap.size + 1) 91 .i64 B) ∧ Hid (Ar wr (w.heap.size + 1 + 1) 91 .i64 Z) ∧ Hid (Ar wr (w.heap.size + 1 + 1 + 1) 91 .i64 (IN i 0)) ∧ Hid (Fr (fun _ => False) w wr))
    (fun u6 _ _ => 17 - (intOf u6).toNat)
  case atStart => exact ⟨0, rfl, by omega, X0, X1, X2, by rw [N0.out]; exact X3, F0⟩
  case round =>
    clear X0 X1 X2 X3 F0
    obtain ⟨i, rfl, hi, h0, h1, h2, h3, hF⟩ := hrel
    by_cases hil : i < 17
    · go_wp2
      try generalize decide ((i : Int) < 17) = bt
      go_loopw [7] (fun u7 wr => ∃ k : Nat, u7 = .int .i64 k ∧ k ≤ 17 ∧ Hid (Ar wr w.heap.size 91 .i64 A) ∧ Hid (Ar wr (w.heap.size + 1) 91 .i64 B) ∧ Hid (Ar wr (w.heap.size + 1 + 1) 91 .i64 Z) ∧ Hid (Ar wr (w.heap.size + 1 + 1 + 1) 91 .i64 (IN i k)) ∧ Hid (Fr (fun _ => False) w wr))
        (fun u7 _ => 17 - (intOf u7).toNat)
      case atStart => exact ⟨0, rfl, by omega, h0, h1, h2, h3, hF⟩
      case round =>
        clear h0 h1 h2 h3 hF
        obtain ⟨k, rfl, hk, h0, h1, h2, h3, hF⟩ := hrel
        by_cases hkl : k < 17
        · have v1 : IntKind.i64.wrap ((i : Int) + (k : Int)) = i + k := by rw [IntKind.wrap_i64]; omega
          obtain ⟨O, hO⟩ : ∃ O, O = IN i k := ⟨_, rfl⟩
          have lO : O.length = 17 := by rw [hO]; exact N3.out i k
          have dO : Dg 6014000000 O := by rw [hO]; exact N4.out i k hil hk
          have hS : Unit → stp A B O i k = IN i (k + 1) := fun _ => by rw [hO]; exact (N2.out i k).symm
          rw [← hO] at h3
          clear hO
          have ga := getD_some (l := A) (i := i) (by rw [HD.out.1]; exact hil)
          have gb := getD_some (l := B) (i := k) (by rw [HD.out.2.1]; exact hkl)
          have ba := HD.out.2.2.1.getD (i := i) (by rw [HD.out.1]; exact hil)
          have bb := HD.out.2.2.2.getD (i := k) (by rw [HD.out.2.1]; exact hkl)
          obtain ⟨p, hp⟩ : ∃ p, A.getD i 0 = p := ⟨_, rfl⟩
          obtain ⟨r, hr⟩ : ∃ p, B.getD k 0 = p := ⟨_, rfl⟩
          rw [hp] at ga ba
          rw [hr] at gb bb
          have bpr := mul_bd ba.1 (Int.le_of_lt_add_one (by omega : p < 255 + 1)) bb.1 (Int.le_of_lt_add_one (by omega : r < 255 + 1))
          have i1 : ((i : Int)).toNat = i := by omega
          have i2 : 0 ≤ (i : Int) := by omega
          have i3 : (i : Int) < 17 := by omega
          have k1 : ((k : Int)).toNat = k := by omega
          have k2 : 0 ≤ (k : Int) := by omega
          have k3 : (k : Int) < 17 := by omega
          by_cases hs : i + k < 17
          · have go := getD_some (l := O) (i := i + k) (by omega)
            have bo := dO.getD (i := i + k) (by omega)
            obtain ⟨y, hy⟩ : ∃ y, O.getD (i + k) 0 = y := ⟨_, rfl⟩
            rw [hy] at go bo
            have hset : Unit → O.set (i + k) (y + p * r) = IN i (k + 1) := fun _ => by rw [← hS (), stp, if_pos hs, hy, hp, hr]
            have e1 : IntKind.i64.wrap (p * r) = p * r := by rw [IntKind.wrap_i64]; omega
            have e2 : IntKind.i64.wrap (y + p * r) = y + p * r := by rw [IntKind.wrap_i64]; omega
            have s1 : ((i : Int) + (k : Int)).toNat = i + k := by omega
            have s2 : 0 ≤ (i : Int) + (k : Int) := by omega
            have s3 : (i : Int) + (k : Int) < 17 := by omega
            clear hS hp hr hy ba bb bpr bo dO
            go_upto_region 9 with (fail)
            refine wp_region_quiet_tail (C := Calm wr) 17 (by kernel_rfl) (by kernel_rfl) (Calm.start _ _ (Fr.refl _ _)) ?_
            simp only [List.take_succ_cons, List.take_zero, List.drop_succ_cons, List.drop_zero]
            refine BigFrame.wpQuiet_want rfl fun K hK => ?_
            try simp only [Act.put, List.setIfInBounds_toArray, List.set_cons_succ, List.set_cons_zero]
            go_big_quiet_op
            refine hK _ ?_
            refine BigFrame.wpQuiet_want rfl fun K hK => ?_
            try simp only [Act.put, List.setIfInBounds_toArray, List.set_cons_succ, List.set_cons_zero]
            go_big_quiet_op
            refine hK _ ?_
            refine BigFrame.wpQuiet_want rfl fun K hK => ?_
            try simp only [Act.put, List.setIfInBounds_toArray, List.set_cons_succ, List.set_cons_zero]
            go_big_quiet_op
            first
              | refine ⟨_, fun _ _ => rfl, hK _ ?_⟩
              | refine hK _ ?_
            refine BigFrame.wpQuiet_want rfl fun K hK => ?_
            try simp only [Act.put, List.setIfInBounds_toArray, List.set_cons_succ, List.set_cons_zero]
            go_big_quiet_op
            refine hK _ ?_
            refine BigFrame.wpQuiet_want rfl fun K hK => ?_
            try simp only [Act.put, List.setIfInBounds_toArray, List.set_cons_succ, List.set_cons_zero]
            go_big_quiet_op
            refine hK _ ?_
            refine BigFrame.wpQuiet_want rfl fun K hK => ?_
            try simp only [Act.put, List.setIfInBounds_toArray, List.set_cons_succ, List.set_cons_zero]
            go_big_quiet_op
            first
              | refine ⟨_, fun _ _ => rfl, hK _ ?_⟩
              | refine hK _ ?_
            refine BigFrame.wpQuiet_want rfl fun K hK => ?_
            try simp only [Act.put, List.setIfInBounds_toArray, List.set_cons_succ, List.set_cons_zero]
            go_big_quiet_op
            first
              | refine ⟨_, fun _ _ => rfl, hK _ ?_⟩
              | refine hK _ ?_
            refine BigFrame.wpQuiet_want rfl fun K hK => quiet_oneP 3 .i64 (.tmp 26) rfl (w.heap.size + 1 + 1 + 1) (i + k) rfl (y) Try.underlying3 (fun _ h => (Ar.fr h3.out h (fun x => x)).cell go) (hK _ ?_)
            refine BigFrame.wpQuiet_want rfl fun K hK => ?_
            try simp only [Act.put, List.setIfInBounds_toArray, List.set_cons_succ, List.set_cons_zero]
            go_big_quiet_op
            refine hK _ ?_
            refine BigFrame.wpQuiet_want rfl fun K hK => ?_
            try simp only [Act.put, List.setIfInBounds_toArray, List.set_cons_succ, List.set_cons_zero]
            go_big_quiet_op
            first
              | refine ⟨_, fun _ _ => rfl, hK _ ?_⟩
              | refine hK _ ?_
            refine BigFrame.wpQuiet_want rfl fun K hK => quiet_oneP 3 .i64 (.tmp 29) rfl (w.heap.size) (i) rfl (p) Try.underlying3 (fun _ h => (Ar.fr h0.out h (fun x => x)).cell ga) (hK _ ?_)
            refine BigFrame.wpQuiet_want rfl fun K hK => ?_
            try simp only [Act.put, List.setIfInBounds_toArray, List.set_cons_succ, List.set_cons_zero]
            go_big_quiet_op
            refine hK _ ?_
            refine BigFrame.wpQuiet_want rfl fun K hK => ?_
            try simp only [Act.put, List.setIfInBounds_toArray, List.set_cons_succ, List.set_cons_zero]
            go_big_quiet_op
            first
              | refine ⟨_, fun _ _ => rfl, hK _ ?_⟩
              | refine hK _ ?_
            refine BigFrame.wpQuiet_want rfl fun K hK => quiet_oneP 3 .i64 (.tmp 32) rfl (w.heap.size + 1) (k) rfl (r) Try.underlying3 (fun _ h => (Ar.fr h1.out h (fun x => x)).cell gb) (hK _ ?_)
            refine BigFrame.wpQuiet_want rfl fun K hK => ?_
            try simp only [Act.put, List.setIfInBounds_toArray, List.set_cons_succ, List.set_cons_zero]
            go_big_quiet_op
            first
              | refine ⟨_, fun _ _ => rfl, hK _ ?_⟩
              | refine hK _ ?_
            refine BigFrame.wpQuiet_want rfl fun K hK => ?_
            try simp only [Act.put, List.setIfInBounds_toArray, List.set_cons_succ, List.set_cons_zero]
            go_big_quiet_op
            first
              | refine ⟨_, fun _ _ => rfl, hK _ ?_⟩
              | refine hK _ ?_
            refine BigFrame.wpQuiet_want rfl fun K hK => ?_
            try simp only [Act.put, List.setIfInBounds_toArray, List.set_cons_succ, List.set_cons_zero]
            go_big_quiet_op
            first
              | refine ⟨_, fun _ _ => rfl, hK _ ?_⟩
              | refine hK _ ?_
            refine wpQuiet_nil ?_
            intro w9 hw9
            have F9 : Hid (Fr (fun _ => False) w w9) := hF.out.trans hw9
            have G9 := Lib.hid hw9
            clear hw9
            try simp only [Act.put, List.setIfInBounds_toArray, List.set_cons_succ, List.set_cons_zero]
            replace h0 := Lib.hid (Ar.fr h0.out G9.out (fun x => x))
            replace h1 := Lib.hid (Ar.fr h1.out G9.out (fun x => x))
            replace h2 := Lib.hid (Ar.fr h2.out G9.out (fun x => x))
            replace h3 := Lib.hid (Ar.fr h3.out G9.out (fun x => x))
            have ck := h3.out.cell go
            have fk := h3.out.frozen (i + k)
            have A9 : Hid (Ar (w9.setCell ⟨w.heap.size + 1 + 1 + 1, i + k, none⟩ (.int .i64 (y + p * r))) (w.heap.size + 1 + 1 + 1) 91 .i64 (IN i (k + 1))) := by
              rw [← hset ()]
              exact h3.out.set (i + k) _
            clear hset G9 h3 hF go
            go_wp2
            go_roundw
            case rel => exact ⟨k + 1, by go_num, by omega, h0.out.far (by simp <;> omega) _, h1.out.far (by simp <;> omega) _, h2.out.far (by simp) _, A9, F9.out.setCell _ (.inr (by simp <;> omega))⟩
            case measure => simp [intOf]; omega
          · have go := getD_some (l := O) (i := i + k - 17) (by omega)
            have bo := dO.getD (i := i + k - 17) (by omega)
            obtain ⟨y, hy⟩ : ∃ y, O.getD (i + k - 17) 0 = y := ⟨_, rfl⟩
            rw [hy] at go bo
            obtain ⟨z, hz⟩ : ∃ z, 320 * p = z := ⟨_, rfl⟩
            have bzr := mul_bd (show 0 ≤ z by omega) (show z ≤ 81600 by omega) bb.1 (Int.le_of_lt_add_one (by omega : r < 255 + 1))
            have hset : Unit → O.set (i + k - 17) (y + z * r) = IN i (k + 1) := fun _ => by rw [← hS (), stp, if_neg hs, hy, hp, hr, hz]
            obtain ⟨d, hd⟩ : ∃ d, i + k - 17 = d := ⟨_, rfl⟩
            rw [hd] at go hset
            have e0 : IntKind.i64.wrap (320 * p) = z := by rw [IntKind.wrap_i64]; omega
            have e1 : IntKind.i64.wrap (z * r) = z * r := by rw [IntKind.wrap_i64]; omega
            have e2 : IntKind.i64.wrap (y + z * r) = y + z * r := by rw [IntKind.wrap_i64]; omega
            have v2 : IntKind.i64.wrap ((i : Int) + (k : Int) - 17) = d := by rw [IntKind.wrap_i64]; omega
            have s0 : ¬ (i : Int) + (k : Int) < 17 := by omega
            have s1 : ((d : Int)).toNat = d := by omega
            have s2 : 0 ≤ (d : Int) := by omega
            have s3 : (d : Int) < 17 := by omega
            clear hS hp hr hy hz ba bb bpr bzr bo dO hd
            go_upto_region 10 with (fail)
            refine wp_region_quiet_tail (C := Calm wr) 20 (by kernel_rfl) (by kernel_rfl) (Calm.start _ _ (Fr.refl _ _)) ?_
            simp only [List.take_succ_cons, List.take_zero, List.drop_succ_cons, List.drop_zero]
            refine BigFrame.wpQuiet_want rfl fun K hK => ?_
            try simp only [Act.put, List.setIfInBounds_toArray, List.set_cons_succ, List.set_cons_zero]
            go_big_quiet_op
            refine hK _ ?_
            refine BigFrame.wpQuiet_want rfl fun K hK => ?_
            try simp only [Act.put, List.setIfInBounds_toArray, List.set_cons_succ, List.set_cons_zero]
            go_big_quiet_op
            refine hK _ ?_
            refine BigFrame.wpQuiet_want rfl fun K hK => ?_
            try simp only [Act.put, List.setIfInBounds_toArray, List.set_cons_succ, List.set_cons_zero]
            go_big_quiet_op
            first
              | refine ⟨_, fun _ _ => rfl, hK _ ?_⟩
              | refine hK _ ?_
            refine BigFrame.wpQuiet_want rfl fun K hK => ?_
            try simp only [Act.put, List.setIfInBounds_toArray, List.set_cons_succ, List.set_cons_zero]
            go_big_quiet_op
            first
              | refine ⟨_, fun _ _ => rfl, hK _ ?_⟩
              | refine hK _ ?_
            refine BigFrame.wpQuiet_want rfl fun K hK => ?_
            try simp only [Act.put, List.setIfInBounds_toArray, List.set_cons_succ, List.set_cons_zero]
            go_big_quiet_op
            refine hK _ ?_
            refine BigFrame.wpQuiet_want rfl fun K hK => ?_
            try simp only [Act.put, List.setIfInBounds_toArray, List.set_cons_succ, List.set_cons_zero]
            go_big_quiet_op
            refine hK _ ?_
            refine BigFrame.wpQuiet_want rfl fun K hK => ?_
            try simp only [Act.put, List.setIfInBounds_toArray, List.set_cons_succ, List.set_cons_zero]
            go_big_quiet_op
            first
              | refine ⟨_, fun _ _ => rfl, hK _ ?_⟩
              | refine hK _ ?_
            refine BigFrame.wpQuiet_want rfl fun K hK => ?_
            try simp only [Act.put, List.setIfInBounds_toArray, List.set_cons_succ, List.set_cons_zero]
            go_big_quiet_op
            first
              | refine ⟨_, fun _ _ => rfl, hK _ ?_⟩
              | refine hK _ ?_
            refine BigFrame.wpQuiet_want rfl fun K hK => ?_
            try simp only [Act.put, List.setIfInBounds_toArray, List.set_cons_succ, List.set_cons_zero]
            go_big_quiet_op
            first
              | refine ⟨_, fun _ _ => rfl, hK _ ?_⟩
              | refine hK _ ?_
            refine BigFrame.wpQuiet_want rfl fun K hK => quiet_oneP 3 .i64 (.tmp 45) rfl (w.heap.size + 1 + 1 + 1) (d) rfl (y) Try.underlying3 (fun _ h => (Ar.fr h3.out h (fun x => x)).cell go) (hK _ ?_)
            refine BigFrame.wpQuiet_want rfl fun K hK => ?_
            try simp only [Act.put, List.setIfInBounds_toArray, List.set_cons_succ, List.set_cons_zero]
            go_big_quiet_op
            refine hK _ ?_
            refine BigFrame.wpQuiet_want rfl fun K hK => ?_
            try simp only [Act.put, List.setIfInBounds_toArray, List.set_cons_succ, List.set_cons_zero]
            go_big_quiet_op
            first
              | refine ⟨_, fun _ _ => rfl, hK _ ?_⟩
              | refine hK _ ?_
            refine BigFrame.wpQuiet_want rfl fun K hK => quiet_oneP 3 .i64 (.tmp 48) rfl (w.heap.size) (i) rfl (p) Try.underlying3 (fun _ h => (Ar.fr h0.out h (fun x => x)).cell ga) (hK _ ?_)
            refine BigFrame.wpQuiet_want rfl fun K hK => ?_
            try simp only [Act.put, List.setIfInBounds_toArray, List.set_cons_succ, List.set_cons_zero]
            go_big_quiet_op
            first
              | refine ⟨_, fun _ _ => rfl, hK _ ?_⟩
              | refine hK _ ?_
            refine BigFrame.wpQuiet_want rfl fun K hK => ?_
            try simp only [Act.put, List.setIfInBounds_toArray, List.set_cons_succ, List.set_cons_zero]
            go_big_quiet_op
            refine hK _ ?_
            refine BigFrame.wpQuiet_want rfl fun K hK => ?_
            try simp only [Act.put, List.setIfInBounds_toArray, List.set_cons_succ, List.set_cons_zero]
            go_big_quiet_op
            first
              | refine ⟨_, fun _ _ => rfl, hK _ ?_⟩
              | refine hK _ ?_
            refine BigFrame.wpQuiet_want rfl fun K hK => quiet_oneP 3 .i64 (.tmp 52) rfl (w.heap.size + 1) (k) rfl (r) Try.underlying3 (fun _ h => (Ar.fr h1.out h (fun x => x)).cell gb) (hK _ ?_)
            refine BigFrame.wpQuiet_want rfl fun K hK => ?_
            try simp only [Act.put, List.setIfInBounds_toArray, List.set_cons_succ, List.set_cons_zero]
            go_big_quiet_op
            first
              | refine ⟨_, fun _ _ => rfl, hK _ ?_⟩
              | refine hK _ ?_
            refine BigFrame.wpQuiet_want rfl fun K hK => ?_
            try simp only [Act.put, List.setIfInBounds_toArray, List.set_cons_succ, List.set_cons_zero]
            go_big_quiet_op
            first
              | refine ⟨_, fun _ _ => rfl, hK _ ?_⟩
              | refine hK _ ?_
            refine BigFrame.wpQuiet_want rfl fun K hK => ?_
            try simp only [Act.put, List.setIfInBounds_toArray, List.set_cons_succ, List.set_cons_zero]
            go_big_quiet_op
            first
              | refine ⟨_, fun _ _ => rfl, hK _ ?_⟩
              | refine hK _ ?_
            refine wpQuiet_nil ?_
            intro w9 hw9
            have F9 : Hid (Fr (fun _ => False) w w9) := hF.out.trans hw9
            have G9 := Lib.hid hw9
            clear hw9
            try simp only [Act.put, List.setIfInBounds_toArray, List.set_cons_succ, List.set_cons_zero]
            replace h0 := Lib.hid (Ar.fr h0.out G9.out (fun x => x))
            replace h1 := Lib.hid (Ar.fr h1.out G9.out (fun x => x))
            replace h2 := Lib.hid (Ar.fr h2.out G9.out (fun x => x))
            replace h3 := Lib.hid (Ar.fr h3.out G9.out (fun x => x))
            have ck := h3.out.cell go
            have fk := h3.out.frozen (d)
            have A9 : Hid (Ar (w9.setCell ⟨w.heap.size + 1 + 1 + 1, d, none⟩ (.int .i64 (y + z * r))) (w.heap.size + 1 + 1 + 1) 91 .i64 (IN i (k + 1))) := by
              rw [← hset ()]
              exact h3.out.set (d) _
            clear hset G9 h3 hF go
            go_wp2
            go_roundw
            case rel => exact ⟨k + 1, by go_num, by omega, h0.out.far (by simp <;> omega) _, h1.out.far (by simp <;> omega) _, h2.out.far (by simp) _, A9, F9.out.setCell _ (.inr (by simp <;> omega))⟩
            case measure => simp [intOf]; omega
        · have hk17 : k = 17 := by omega
          subst hk17
          have A9 : Hid (Ar wr (w.heap.size + 1 + 1 + 1) 91 .i64 (IN (i + 1) 0)) := by rw [N1.out i]; exact h3.out
          clear h3
          go_wp2
          go_roundw
          case rel => exact ⟨i + 1, by go_num, by omega, h0, h1, h2, A9, hF⟩
          case measure => simp [intOf]; omega
    · have hi17 : i = 17 := by omega
      subst hi17
      obtain ⟨P, hP⟩ : ∃ P, P = IN 17 0 := ⟨_, rfl⟩
      have lP : P.length = 17 := by rw [hP]; exact N3.out 17 0
      rw [← hP] at h3 C28
      have sP : Hid ((Try.prog.info? 91).map (·.size) = some (vs .i64 P).size) := by show _ = _; rw [vs_size, lP]; exact info50
      clear hP lP
      go_wp2_with (first
        | (go_at_call 58; refine (C28 _).mono ?_; rintro e v1 ⟨rfl, hf⟩)
        | refine wpList_load_row rfl 91 (.tmp 5) rfl (w.heap.size + 1 + 1 + 1) rfl 91 (vs .i64 P) (0, 0) _ h3.out Try.underlying91 rfl sP.out ?_
        | refine wpList_store_row rfl 91 (.tmp 4) (.tmp 58) rfl (w.heap.size + 1 + 1) (vs .i64 R) rfl rfl 91 _ (Ar.fr h2.out hf (fun x => x)) s50.out eZ.out (vs_all _ _) ?_)
      refine bodyPost_ret (results_cell_row Try.results57 _ _ _ 91 _ (0, 0) _ rfl (setRow_heap _ _ _ _ _ _ (Ar.fr h2.out hf (fun x => x))) Try.underlying91 rfl s50.out) rfl ⟨by rw [HR.out], (hF.out.trans hf).setRow _ (.inr (by omega))⟩
end Go.Proofs.Ytbafppdmlhogbaa
