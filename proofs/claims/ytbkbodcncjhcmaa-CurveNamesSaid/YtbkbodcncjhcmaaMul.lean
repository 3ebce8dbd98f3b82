/- field.Mul: the product of two elements. Its condition: elements below p. -/
import Derived.Test.YtbkbodcncjhcmaaFold
import Derived.Test.YtbkbodcncjhcmaaRefD
namespace Go.Proofs.Ytbkbodcncjhcmaa
open Go.RowKit

/-- The words of an element, as a list. -/
theorem el_list {v : Int} (h : El v) : ∃ A, el v = .agg (vs .u64 A) ∧ A.length = 4 ∧ Wds A ∧ vx A = v := by
  obtain ⟨a, b, c, d, he, ha, hb, hc, hd, hw⟩ := el_words h.1 h.2
  refine ⟨[a, b, c, d], he, rfl, ?_, ?_⟩
  · intro x hx
    simp only [List.mem_cons, List.not_mem_nil, or_false] at hx
    rcases hx with rfl | rfl | rfl | rfl
    · exact ha
    · exact hb
    · exact hc
    · exact ⟨hd.1, by omega⟩
  · rw [hw.out]
    simp only [vx]
    unfold wv
    omega
theorem rw_zero : Rw 0 (List.replicate 8 0) 0 := ⟨rfl, by intro b hb; rw [List.eq_of_mem_replicate hb]; exact ⟨by decide, by decide⟩, by decide, fun k _ => by
  rw [List.getD_eq_getElem?_getD, List.getElem?_replicate]
  split <;> rfl⟩

set_option maxHeartbeats 4000000 in
theorem mul_is (u v r : Int) (w : World) (hu : El u) (hv : El v) (hr : Hid ((u * v) % pp = r)) :
    Calls Try.prog 52 #[el u, el v] w fun e w' => e = .returned (el r) ∧ Fr (fun _ => False) w w' := by
  obtain ⟨A, hA, lA, wA, vA⟩ := el_list hu
  obtain ⟨B, hB, lB, wB, vB⟩ := el_list hv
  obtain ⟨r0, r1, r2, r3, her, -, -, -, -, -⟩ := el_words (El.of hr.out).1 (El.of hr.out).2
  have HG := Lib.hid (And.intro hA (And.intro lA (And.intro wA (And.intro vA (And.intro hB (And.intro lB (And.intro wB (And.intro vB (And.intro hu (And.intro hv hr))))))))))
  have HE : Hid (el r = .agg #[.int .u64 r0, .int .u64 r1, .int .u64 r2, .int .u64 r3]) := her
  rw [hA, hB]
  clear hA lA wA vA hB lB wB vB her hu hv hr
  go_enter Try.func52, Try.ntmps52
  go_wp2
  go_loopw [6, 7] (fun u6 u7 wr => ∃ (i : Nat) (M : List Int), u7 = .int .i64 i ∧ i ≤ 4 ∧ Hid (Rw i M (vx A * vx (B.take i))) ∧ Hid (Ar wr w.heap.size 37 .u64 A) ∧ Hid (Ar wr (w.heap.size + 1) 37 .u64 B) ∧ Hid (Ar wr (w.heap.size + 1 + 1) 37 .u64 [0, 0, 0, 0]) ∧ Hid (Ar wr (w.heap.size + 1 + 1 + 1) 77 .u64 M) ∧ Hid (Fr (fun _ => False) w wr))
    (fun _ u7 _ => 4 - (intOf u7).toNat)
  case atStart =>
    have e := alloc4 w (.cells (vs .u64 A) 37) (.cells (vs .u64 B) 37) (.cells (vs .u64 [0, 0, 0, 0]) 37) (.cells (vs .u64 (List.replicate 8 0)) 77)
    exact ⟨0, List.replicate 8 0, rfl, by omega, by show Rw _ _ _; rw [List.take_zero]; simpa [vx] using rw_zero, e.1, e.2.1, e.2.2.1, e.2.2.2, ((((Fr.refl _ _).alloc _).alloc _).alloc _).alloc _⟩
  case round =>
    obtain ⟨i, M, rfl, hi, hM, hA, hB, hR, hP, hF⟩ := hrel
    by_cases hlt : i < 4
    · obtain ⟨-, lA, wA, vA, -, lB, wB, vB, -, -, -⟩ := HG.out
      obtain ⟨b, hb⟩ : ∃ b, b = B.getD i 0 := ⟨_, rfl⟩
      have gb := getD_some (l := B) (i := i) (by omega)
      rw [← hb] at gb
      have wb := wB b (List.mem_of_getElem? gb)
      have cb := hB.out.cell gb
      have HV : Hid (vx A * vx (B.take i) + 18446744073709551616 ^ i * (b * vx A) = vx A * vx (B.take (i + 1))) := by
        show _ = _
        rw [vx_take_succ B i (by omega), ← hb]
        generalize (18446744073709551616 : Int) ^ i = P
        grind
      have HW := Lib.hid (And.intro lA (And.intro wA wb))
      clear hb gb wb lA wA vA lB wB vB
      go_wp2_with fail
      refine (row_is _ _ i b _ M A _ hlt hP.out hA.out (by omega) hM.out ⟨HW.out.1, HW.out.2.1⟩ HW.out.2.2).mono ?_
      rintro e w1 ⟨rfl, ⟨M1, hM1, hP1⟩, hf⟩
      have M2 : Hid (Rw (i + 1) M1 (vx A * vx (B.take (i + 1)))) := by show Rw _ _ _; rw [← HV.out]; exact hM1
      have P2 := Lib.hid hP1
      have A2 : Hid (Ar w1 w.heap.size 37 .u64 A) := hA.out.fr hf (by omega)
      have B2 : Hid (Ar w1 (w.heap.size + 1) 37 .u64 B) := hB.out.fr hf (by omega)
      have R2 : Hid (Ar w1 (w.heap.size + 1 + 1) 37 .u64 [0, 0, 0, 0]) := hR.out.fr hf (by omega)
      have F2 : Hid (Fr (fun _ => False) w w1) := hF.out.trans' hf (fun k hk e => by omega)
      clear hM1 hP1 hf
      go_wp2
      go_roundw
      case rel => exact ⟨i + 1, M1, by go_num, by omega, M2, A2, B2, R2, P2, F2⟩
      case measure => simp [intOf]; omega
    · obtain rfl : i = 4 := by omega
      have HQ : Hid (vx M = u * v ∧ u * v < 3351951982485649274893506249551461531869841455148098344430890360930441007518386744200468574541725856922507964546621512713438470702986642486608412251521024 ∧ (u * v) % pp = r) := by
        obtain ⟨-, lA, wA, vA, -, lB, wB, vB, hu, hv, hr⟩ := HG.out
        refine ⟨?_, ?_, hr.out⟩
        · rw [hM.out.val, List.take_of_length_le (by omega), vA, vB]
        · have : u * v ≤ (pp - 1) * (pp - 1) := Int.mul_le_mul (by have := hu.2; omega) (by have := hv.2; omega) hv.1 (by decide)
          refine Int.lt_of_le_of_lt this (by decide)
      have C := fun W hq => folded_is (w.heap.size + 1 + 1 + 1) M (u * v) r W hq hM.out.len hM.out.wds HQ
      rw [HE.out] at C
      go_wp2_with fail
      refine (C _ hP.out).mono ?_
      rintro e w5 ⟨rfl, hf5⟩
      have R5 : Hid (Ar w5 (w.heap.size + 1 + 1) 37 .u64 [0, 0, 0, 0]) := hR.out.fr hf5 (fun x => x)
      have F5 : Hid (Fr (fun _ => False) w w5) := hF.out.trans hf5
      clear hf5 C
      have z0 := R5.out.cell (i := 0) (x := 0) rfl
      have z1 := R5.out.cell (i := 1) (x := 0) rfl
      have z2 := R5.out.cell (i := 2) (x := 0) rfl
      have z3 := R5.out.cell (i := 3) (x := 0) rfl
      have zf := R5.out.frozen
      go_wp2
      exact bodyPost_ret (results_cell_row Try.results52 _ _ _ 37 _ (0, 0) _ rfl (set4 _ _ _ _ R5.out) Try.underlying37 rfl size28) rfl ⟨by rw [HE.out], F5.out.set4 _ _ _ _ (by omega)⟩
end Go.Proofs.Ytbkbodcncjhcmaa
