/- field.Inv: an element to the power p - 2. Its condition: an element below p. -/
import Derived.Test.YtbkbodcncjhcmaaMul
import Derived.Test.YtbkbodcncjhcmaaRefE
import Derived.Test.YtbkbodcncjhcmaaCalm
namespace Go.Proofs.Ytbkbodcncjhcmaa
open Go.RowKit

/-- A power modulo p. -/
def pwr (a : Int) (n : Nat) : Int := a ^ n % pp
theorem pwr_el (a : Int) (n : Nat) : El (pwr a n) := El.mod _
theorem pwr_one {a : Int} (h : El a) : pwr a 1 = a := by
  unfold pwr
  rw [Int.pow_succ, Int.pow_zero, Int.one_mul]
  exact Int.emod_eq_of_lt h.1 h.2
theorem pwr_twice (a : Int) (n : Nat) : pwr a (n + n) = (pwr a n * pwr a n) % pp := by
  unfold pwr
  rw [Int.pow_add, ← Int.mul_emod]
theorem pwr_next {a : Int} (n : Nat) : pwr a (n + 1) = (pwr a n * a) % pp := by
  unfold pwr
  rw [Int.pow_succ, Int.mul_emod, Int.mul_emod (a ^ n % pp) a, Int.emod_emod_of_dvd _ (Int.dvd_refl pp)]
/-- The first bits of p - 2, all but n. -/
def ex (n : Nat) : Nat := 57896044618658097711785492504343953926634992332820282019728792003956564819947 / 2 ^ n
theorem ex_bit : ∀ n, n < 255 → ex n % 2 = if n = 2 ∨ n = 4 then 0 else 1 := by
  have h : (List.range 255).all (fun n => ex n % 2 == if n = 2 ∨ n = 4 then 0 else 1) = true := by decide +kernel
  intro n hn
  rw [List.all_eq_true] at h
  simpa using h n (by simpa using hn)
theorem ex_next (n : Nat) : ex n = ex (n + 1) + ex (n + 1) + ex n % 2 := by
  unfold ex
  rw [Nat.pow_succ, ← Nat.div_div_eq_div_mul]
  omega
theorem ex_254 : ex 254 = 1 := by decide +kernel

theorem calm3 {w : World} {A B C : Obj} {W0 : World} (h : ((w.alloc A).alloc B).alloc C = W0) : W0.heap[w.heap.size]? = some A ∧ W0.heap[w.heap.size + 1]? = some B ∧ W0.heap[w.heap.size + 1 + 1]? = some C ∧ Fr (fun _ => False) w W0 := by
  subst h
  obtain ⟨e1, e2, e3⟩ := alloc3 w A B C
  exact ⟨e1, e2, e3, (((Fr.refl _ _).alloc _).alloc _).alloc _⟩
/-- A block of four words. -/
def B4 (w : World) (g : Nat) (a b c d : Int) : Prop := w.heap[g]? = some (.cells #[.int .u64 a, .int .u64 b, .int .u64 c, .int .u64 d] 37 (0, 0))
section
variable {w w' : World} {g : Nat} {a b c d : Int}
theorem B4.c0 (h : B4 w g a b c d) : w.cell? ⟨g, 0, none⟩ = some (.int .u64 a) := by rw [cell_of_row w _ 0 _ _ _ h]; rfl
theorem B4.c1 (h : B4 w g a b c d) : w.cell? ⟨g, 1, none⟩ = some (.int .u64 b) := by rw [cell_of_row w _ 1 _ _ _ h]; rfl
theorem B4.c2 (h : B4 w g a b c d) : w.cell? ⟨g, 2, none⟩ = some (.int .u64 c) := by rw [cell_of_row w _ 2 _ _ _ h]; rfl
theorem B4.c3 (h : B4 w g a b c d) : w.cell? ⟨g, 3, none⟩ = some (.int .u64 d) := by rw [cell_of_row w _ 3 _ _ _ h]; rfl
theorem B4.fz (h : B4 w g a b c d) (j : Nat) : w.frozen? ⟨g, j, none⟩ = false := frozen_of_row _ _ _ _ _ h
theorem B4.fr {S : Nat → Prop} (h : B4 w g a b c d) (hf : Fr S w w') (hs : ¬ S g) : B4 w' g a b c d := (hf.block _ (heap_lt h) hs).trans h
theorem B4.set (h : B4 w g a b c d) (x y z u : Int) : B4 ((((w.setCell ⟨g, 0, none⟩ (.int .u64 x)).setCell ⟨g, 1, none⟩ (.int .u64 y)).setCell ⟨g, 2, none⟩ (.int .u64 z)).setCell ⟨g, 3, none⟩ (.int .u64 u)) g x y z u := set4 _ _ _ _ h
theorem B4.far (h : B4 w g a b c d) {q : Nat} (hq : g ≠ q) (x y z u : Value) : B4 ((((w.setCell ⟨q, 0, none⟩ x).setCell ⟨q, 1, none⟩ y).setCell ⟨q, 2, none⟩ z).setCell ⟨q, 3, none⟩ u) g a b c d :=
  (heap_setCell_other _ _ _ _ hq).trans ((heap_setCell_other _ _ _ _ hq).trans ((heap_setCell_other _ _ _ _ hq).trans ((heap_setCell_other _ _ _ _ hq).trans h)))
end

/-- The words of an element, at hand. -/
structure Ws (v a b c d : Int) : Prop where
  el : El v
  eq : Ytbkbodcncjhcmaa.el v = .agg #[.int .u64 a, .int .u64 b, .int .u64 c, .int .u64 d]
theorem ws_of {v : Int} (h : El v) : ∃ a b c d, Ws v a b c d := by
  obtain ⟨a, b, c, d, he, -⟩ := el_words h.1 h.2
  exact ⟨a, b, c, d, h, he⟩
theorem mul_ws {u v r : Int} {a b c d a' b' c' d' x y z t : Int} (h : Ws u a b c d) (h' : Ws v a' b' c' d') (hr : Ws r x y z t) (e : (u * v) % pp = r) (w : World) :
    Calls Try.prog 52 #[.agg #[.int .u64 a, .int .u64 b, .int .u64 c, .int .u64 d], .agg #[.int .u64 a', .int .u64 b', .int .u64 c', .int .u64 d']] w fun e w' => e = .returned (.agg #[.int .u64 x, .int .u64 y, .int .u64 z, .int .u64 t]) ∧ Fr (fun _ => False) w w' := by
  rw [← h.eq, ← h'.eq, ← hr.eq]
  exact mul_is u v r w h.el h'.el e

set_option maxRecDepth 100000 in
set_option maxHeartbeats 4000000 in
theorem inv_is (a : Int) (w : World) (ha : El a) :
    Calls Try.prog 53 #[el a] w fun e w' => e = .returned (el (pwr a (ex 0))) ∧ Fr (fun _ => False) w w' := by
  obtain ⟨a0, a1, a2, a3, hA⟩ := ws_of ha
  have HA := Lib.hid hA
  have hP : ∀ n, ∃ b c d e, Ws (pwr a n) b c d e := fun n => ws_of (pwr_el a n)
  have HP := Lib.hid hP
  rw [hA.eq]
  clear hA ha hP
  go_enter Try.func53, Try.ntmps53
  go_wp2
  go_loopw [4, 5, 7] (fun u4 u5 u7 wr => ∃ (k : Nat) (r0 r1 r2 r3 : Int), u7 = .int .i64 k ∧ k ≤ 254 ∧ Hid (Ws (pwr a (ex (254 - k))) r0 r1 r2 r3) ∧ Hid (B4 wr w.heap.size a0 a1 a2 a3) ∧ Hid (B4 wr (w.heap.size + 1) 0 0 0 0) ∧ Hid (B4 wr (w.heap.size + 1 + 1) r0 r1 r2 r3) ∧ Hid (Fr (fun _ => False) w wr))
    (fun _ _ u7 _ => 254 - (intOf u7).toNat)
  case atStart =>
    obtain ⟨e1, e2, e3⟩ := alloc3 w (.cells #[.int .u64 a0, .int .u64 a1, .int .u64 a2, .int .u64 a3] 37) (.cells #[.int .u64 0, .int .u64 0, .int .u64 0, .int .u64 0] 37) (.cells #[.int .u64 a0, .int .u64 a1, .int .u64 a2, .int .u64 a3] 37)
    refine ⟨0, a0, a1, a2, a3, rfl, by omega, ?_, e1, e2, e3, (((Fr.refl _ _).alloc _).alloc _).alloc _⟩
    show Ws _ _ _ _ _
    rw [show 254 - 0 = 254 by omega, ex_254, pwr_one HA.out.el]
    exact HA.out
  case round =>
    obtain ⟨k, r0, r1, r2, r3, rfl, hk, hM, hB, hR, hX, hF⟩ := hrel
    have x0 := hX.out.c0
    have x1 := hX.out.c1
    have x2 := hX.out.c2
    have x3 := hX.out.c3
    by_cases hlt : k < 254
    · obtain ⟨s0, s1, s2, s3, hS⟩ := HP.out (ex (254 - k) + ex (254 - k))
      have C1 := fun W => mul_ws hM.out hM.out hS (pwr_twice a _).symm W
      have HS := Lib.hid hS
      clear hS
      by_cases hb : 253 - k = 2 ∨ 253 - k = 4
      · have HN : Hid (Ws (pwr a (ex (254 - (k + 1)))) s0 s1 s2 s3) := by
          have h1 := ex_next (253 - k)
          have h2 := ex_bit (253 - k) (by omega)
          rw [if_pos hb] at h2
          show Ws _ _ _ _ _
          rw [show 254 - (k + 1) = 253 - k by omega, h1, h2, Nat.add_zero, show 253 - k + 1 = 254 - k by omega]
          exact HS.out
        have hk2 : k = 251 ∨ k = 249 := by omega
        clear hb
        rcases hk2 with rfl | rfl
        all_goals
          go_wp2_with fail
          refine (C1 _).mono ?_
          rintro e w1 ⟨rfl, hf⟩
          have B1 : Hid (B4 w1 w.heap.size a0 a1 a2 a3) := hB.out.fr hf (fun x => x)
          have R1 : Hid (B4 w1 (w.heap.size + 1) 0 0 0 0) := hR.out.fr hf (fun x => x)
          have X1 : Hid (B4 w1 (w.heap.size + 1 + 1) r0 r1 r2 r3) := hX.out.fr hf (fun x => x)
          have F1 : Hid (Fr (fun _ => False) w w1) := hF.out.trans hf
          clear hf C1
          have y0 := X1.out.c0
          have y1 := X1.out.c1
          have y2 := X1.out.c2
          have y3 := X1.out.c3
          have yf := X1.out.fz
          go_wp2
          go_roundw
          case rel => exact ⟨_, s0, s1, s2, s3, by go_num, by omega, HN, B1.out.far (by omega) _ _ _ _, R1.out.far (by omega) _ _ _ _, X1.out.set _ _ _ _, F1.out.set4 _ _ _ _ (by omega)⟩
          case measure => simp [intOf]
      · obtain ⟨t0, t1, t2, t3, hT⟩ := HP.out (ex (254 - k) + ex (254 - k) + 1)
        have C2 := fun W => mul_ws HS.out HA.out hT (pwr_next _).symm W
        have HN : Hid (Ws (pwr a (ex (254 - (k + 1)))) t0 t1 t2 t3) := by
          have h1 := ex_next (253 - k)
          have h2 := ex_bit (253 - k) (by omega)
          rw [if_neg hb] at h2
          show Ws _ _ _ _ _
          rw [show 254 - (k + 1) = 253 - k by omega, h1, h2, show 253 - k + 1 = 254 - k by omega]
          exact hT
        have n1 : (253 - (k : Int) != 2) = true := by simp; omega
        have n2 : (253 - (k : Int) != 4) = true := by simp; omega
        clear hb hT
        go_wp2_with fail
        refine (C1 _).mono ?_
        rintro e w1 ⟨rfl, hf⟩
        have B1 : Hid (B4 w1 w.heap.size a0 a1 a2 a3) := hB.out.fr hf (fun x => x)
        have R1 : Hid (B4 w1 (w.heap.size + 1) 0 0 0 0) := hR.out.fr hf (fun x => x)
        have X1 : Hid (B4 w1 (w.heap.size + 1 + 1) r0 r1 r2 r3) := hX.out.fr hf (fun x => x)
        have F1 : Hid (Fr (fun _ => False) w w1) := hF.out.trans hf
        clear hf C1
        have y0 := X1.out.c0
        have y1 := X1.out.c1
        have y2 := X1.out.c2
        have y3 := X1.out.c3
        have yf := X1.out.fz
        have b0 := B1.out.c0
        have b1 := B1.out.c1
        have b2 := B1.out.c2
        have b3 := B1.out.c3
        go_wp2_with fail
        refine (C2 _).mono ?_
        rintro e w2 ⟨rfl, hf⟩
        have B2 : Hid (B4 w2 w.heap.size a0 a1 a2 a3) := (B1.out.far (by omega) _ _ _ _).fr hf (fun x => x)
        have R2 : Hid (B4 w2 (w.heap.size + 1) 0 0 0 0) := (R1.out.far (by omega) _ _ _ _).fr hf (fun x => x)
        have X2 : Hid (B4 w2 (w.heap.size + 1 + 1) s0 s1 s2 s3) := (X1.out.set _ _ _ _).fr hf (fun x => x)
        have F2 : Hid (Fr (fun _ => False) w w2) := (F1.out.set4 _ _ _ _ (by omega)).trans hf
        clear hf C2
        have z0 := X2.out.c0
        have z1 := X2.out.c1
        have z2 := X2.out.c2
        have z3 := X2.out.c3
        have zf := X2.out.fz
        go_wp2
        go_roundw
        case rel => exact ⟨k + 1, t0, t1, t2, t3, by go_num, by omega, HN, B2.out.far (by omega) _ _ _ _, R2.out.far (by omega) _ _ _ _, X2.out.set _ _ _ _, F2.out.set4 _ _ _ _ (by omega)⟩
        case measure => simp [intOf]; omega
    · obtain rfl : k = 254 := by omega
      have y0 := hR.out.c0
      have y1 := hR.out.c1
      have y2 := hR.out.c2
      have y3 := hR.out.c3
      have yf := hR.out.fz
      go_wp2
      exact bodyPost_ret (results_cell_row Try.results53 _ _ _ 37 _ (0, 0) _ rfl (hR.out.set _ _ _ _) Try.underlying37 rfl size28) rfl ⟨congrArg Ending.returned hM.out.eq.symm, hF.out.set4 _ _ _ _ (by omega)⟩
end Go.Proofs.Ytbkbodcncjhcmaa
