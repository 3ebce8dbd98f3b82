/- The reference's least: contract. Condition: a number below 2^130. -/
import Derived.Test.YtbafppdmlhogbaaRr
import Derived.Test.YtbafppdmlhogbaaSp
namespace Go.Proofs.Ytbafppdmlhogbaa
set_option linter.unusedSimpArgs false
set_option linter.unusedVariables false
open Go.RowKit

theorem lst_step (v s p : Int) (hp : 0 < p) : (v / p % 256 + (v % p + s) / p) % 256 = (v + s) / p % 256 ∧ (v / p % 256 + (v % p + s) / p) / 256 = (v % (p * 256) + s) / (p * 256) := by
  obtain ⟨q, hq⟩ : ∃ q, q = v / p := ⟨_, rfl⟩
  obtain ⟨r, hr⟩ : ∃ r, r = v % p := ⟨_, rfl⟩
  have hv : v = r + p * q := by rw [hq, hr]; exact (Int.emod_add_mul_ediv v p).symm
  have r0 : 0 ≤ r := by rw [hr]; exact Int.emod_nonneg _ (by omega)
  have r1 : r < p := by rw [hr]; exact Int.emod_lt_of_pos _ hp
  obtain ⟨c, hc⟩ : ∃ c, c = (r + s) / p := ⟨_, rfl⟩
  rw [← hq, ← hr, ← hc]
  have e1 : (v + s) / p = q + c := by
    rw [hv, show r + p * q + s = (r + s) + p * q by omega, Int.add_mul_ediv_left _ _ (by omega), ← hc]
    omega
  have hm : v % (p * 256) = r + p * (q % 256) := by
    have e : v = (r + p * (q % 256)) + (p * 256) * (q / 256) := by
      have h := Int.emod_add_mul_ediv q 256
      rw [hv]
      have : p * 256 * (q / 256) = p * (256 * (q / 256)) := Int.mul_assoc _ _ _
      rw [this, Int.add_assoc, ← Int.mul_add, h]
    have b0 : 0 ≤ p * (q % 256) := Int.mul_nonneg (by omega) (by omega)
    have b1 : p * (q % 256) ≤ p * 255 := Int.mul_le_mul_of_nonneg_left (by omega) (by omega)
    have : v % (p * 256) = (r + p * (q % 256)) % (p * 256) := by
      conv => lhs; rw [e]
      exact Int.add_mul_emod_self_left _ _ _
    rw [this]
    exact Int.emod_eq_of_lt (by omega) (by omega)
  have e2 : (v % (p * 256) + s) / (p * 256) = (q % 256 + c) / 256 := by
    rw [hm, ← Int.ediv_ediv_of_nonneg (by omega), show r + p * (q % 256) + s = (r + s) + p * (q % 256) by omega, Int.add_mul_ediv_left _ _ (by omega), ← hc, Int.add_comm]
  rw [e1, e2]
  omega
set_option maxRecDepth 100000 in
set_option maxHeartbeats 16000000 in
theorem rleast_is (v : Int) (w : World) (h0 : 0 ≤ v) (h1 : v < 1361129467683753853853498429727072845824) :
    Calls Try.prog 59 #[.agg (vs .i64 (les 17 v))] w fun e w' => e = .returned (.agg (vs .i64 (les 17 (v % pp)))) ∧ Fr (fun _ => False) w w' := by
  obtain ⟨L, hL⟩ : ∃ L, L = les 17 v := ⟨_, rfl⟩
  obtain ⟨D, hD⟩ : ∃ D, D = les 17 (v + 5) := ⟨_, rfl⟩
  obtain ⟨R, hR⟩ : ∃ R, R = les 17 (v % pp) := ⟨_, rfl⟩
  have lL : L.length = 17 := by rw [hL, les_length]
  have lD : D.length = 17 := by rw [hD, les_length]
  have lR : R.length = 17 := by rw [hR, les_length]
  obtain ⟨y, hy⟩ : ∃ y, (v + 5) / 340282366920938463463374607431768211456 = y := ⟨_, rfl⟩
  have by_ : 0 ≤ y ∧ y ≤ 4 := by omega
  have g16 : D[16]? = some y := by
    rw [hD, getD_les 17 16 _ (by omega)]
    simp only [Int.reducePow]
    rw [hy]
    congr 1
    omega
  have hlow : y < 4 → L = R := fun h => by
    rw [hL, hR]
    have : v % pp = v := by unfold pp; omega
    rw [this]
  have hhigh : 4 ≤ y → D.set 16 (y - 4) = R := fun h => by
    have y4 : y = 4 := by omega
    have e : v % pp = v + 5 - 1361129467683753853853498429727072845824 := by unfold pp; omega
    rw [hD, hR, e, les_succ 16, les_succ 16, List.set_append_right _ _ (by rw [les_length]; omega), les_length, Nat.sub_self, List.set_cons_zero]
    have e2 := les_add 16 4 (v + 5 - 1361129467683753853853498429727072845824)
    simp only [Int.reducePow, Int.reduceMul] at e2
    rw [show v + 5 - 1361129467683753853853498429727072845824 + 1361129467683753853853498429727072845824 = v + 5 by omega] at e2
    rw [e2]
    congr 2
    simp only [Int.reducePow]
    omega
  have HS : Hid (∀ i, i < 17 → ∃ x, L[i]? = some x ∧ 0 ≤ x ∧ x ≤ 255 ∧ D[i]? = some ((x + (v % 256 ^ i + 5) / 256 ^ i) % 256) ∧ (x + (v % 256 ^ i + 5) / 256 ^ i) / 256 = (v % 256 ^ (i + 1) + 5) / 256 ^ (i + 1)) := by
    show ∀ _, _
    intro i hi
    have hp : (0 : Int) < 256 ^ i := Int.pow_pos (by decide)
    have h := lst_step v 5 (256 ^ i) hp
    refine ⟨v / 256 ^ i % 256, by rw [hL, getD_les 17 i _ hi], by omega, by omega, ?_, ?_⟩
    · rw [hD, getD_les 17 i _ hi, h.1]
    · rw [h.2, Int.pow_succ]
  have HL := Lib.hid lL
  have HD := Lib.hid lD
  have HR := Lib.hid hR
  have HG := Lib.hid g16
  have Hlow := Lib.hid hlow
  have Hhigh := Lib.hid hhigh
  obtain ⟨Z, hZ⟩ : ∃ Z, Z = List.replicate 17 (0 : Int) := ⟨_, rfl⟩
  have HZ : Hid (Z = fil D 0 0) := by show _ = _; rw [hZ, fil_zero, lD]
  have s50 : Hid ((Try.prog.info? 91).map (·.size) = some (vs .i64 R).size) := by show _ = _; rw [vs_size, lR]; exact info50
  have eZ : Hid ((vs .i64 Z).size = (vs .i64 R).size) := by show _ = _; rw [vs_size, vs_size, lR, hZ]; rfl
  have hz : ∀ W : World, (zeroValue 91).run Try.prog W = .ok (.agg (vs .i64 Z)) W := fun W => by rw [hZ]; exact zero50 W
  rw [← hL]
  clear hL hD hR lL lD lR hy g16 hlow hhigh hZ
  go_enter Try.func59, Try.ntmps59
  go_upto_region 2 with (fail)
  generalize hW0 : ((w.alloc (.cells (vs .i64 L) 91)).alloc (.cells (vs .i64 Z) 91)).alloc (.cells (vs .i64 Z) 91) = W0
  have HW := Lib.hid (calm3P hW0)
  have X0 : Hid (Ar W0 w.heap.size 91 .i64 L) := HW.out.1
  have X1 : Hid (Ar W0 (w.heap.size + 1) 91 .i64 Z) := HW.out.2.1
  have X2 : Hid (Ar W0 (w.heap.size + 1 + 1) 91 .i64 (fil D 0 0)) := by rw [← HZ.out]; exact HW.out.2.2.1
  have F0 : Hid (Fr (fun _ => False) w W0) := HW.out.2.2.2
  clear hW0 HW hz
  go_wp2
  go_loopw [4, 5, 6] (fun u4 u5 _ wr => ∃ (i : Nat) (c : Int), u5 = .int .i64 i ∧ u4 = .int .i64 c ∧ i ≤ 17 ∧ Hid (c = (v % 256 ^ i + 5) / 256 ^ i) ∧ 0 ≤ c ∧ c ≤ 5 ∧ Hid (Ar wr w.heap.size 91 .i64 L) ∧ Hid (Ar wr (w.heap.size + 1) 91 .i64 Z) ∧ Hid (Ar wr (w.heap.size + 1 + 1) 91 .i64 (fil D i 0)) ∧ Hid (Fr (fun _ => False) w wr))
    (fun _ u5 _ _ => 17 - (intOf u5).toNat)
  case atStart => exact ⟨0, 5, rfl, rfl, by omega, by show _ = _; simp, by omega, by omega, X0, X1, X2, F0⟩
  case round =>
    clear X0 X1 X2 F0
    obtain ⟨i, c, rfl, rfl, hi, hc, hc0, hc1, h0, h1, h2, hF⟩ := hrel
    by_cases hil : i < 17
    · obtain ⟨x, gx, bx0, bx1, gD, hn⟩ := HS.out i hil
      rw [← hc.out] at gD hn
      have k0 := h0.out.cell gx
      have k2 := h2.out.cell (fil_get' D i 0 (by have := HD.out; omega))
      have f2 := h2.out.frozen i
      have e1 : IntKind.i64.wrap (x + c) = x + c := by rw [IntKind.wrap_i64]; omega
      have e2 : (x + c).tmod 256 = (x + c) % 256 := by rw [Int.tmod_eq_emod_of_nonneg (by omega)]
      have e3 : (x + c).tdiv 256 = (x + c) / 256 := by rw [Int.tdiv_eq_ediv_of_nonneg (by omega)]
      have e4 : IntKind.i64.wrap ((x + c) % 256) = (x + c) % 256 := by rw [IntKind.wrap_i64]; omega
      have e5 : IntKind.i64.wrap ((x + c) / 256) = (x + c) / 256 := by rw [IntKind.wrap_i64]; omega
      have A9 := Lib.hid (h2.out.set i ((x + c) % 256))
      rw [fil_set D i 0 _ gD] at A9
      have hcn := Lib.hid hn
      have j1 : ((i : Int)).toNat = i := by omega
      have j2 : 0 ≤ (i : Int) := by omega
      have j3 : (i : Int) < 17 := by omega
      have b1 : 0 ≤ (x + c) / 256 := by omega
      have b2 : (x + c) / 256 ≤ 5 := by omega
      clear hn gx gD bx0 bx1 hc h2
      go_wp2
      go_roundw
      case rel => exact ⟨i + 1, (x + c) / 256, by go_num, rfl, by omega, hcn, b1, b2, h0.out.far (by simp <;> omega) _, h1.out.far (by simp) _, A9, hF.out.setCell _ (.inr (by simp <;> omega))⟩
      case measure => simp [intOf]; omega
    · have hi17 : i = 17 := by omega
      have A9 : Hid (Ar wr (w.heap.size + 1 + 1) 91 .i64 D) := by
        have h := h2.out
        have e := fil_all D (0 : Int)
        rw [HD.out] at e
        rwa [hi17, e] at h
      have k16 := A9.out.cell HG.out
      have f16 := A9.out.frozen 16
      clear h2
      by_cases hy4 : y < 4
      · have eq := Hlow.out hy4
        rw [eq] at h0
        clear A9 eq
        go_wp2_with (first
          | refine wpList_load_row rfl 91 (.tmp 1) rfl (w.heap.size) rfl 91 (vs .i64 R) (0, 0) _ h0.out Try.underlying91 rfl s50.out ?_
          | refine wpList_store_row rfl 91 (.tmp 2) (.tmp 25) rfl (w.heap.size + 1) (vs .i64 R) rfl rfl 91 _ h1.out s50.out eZ.out (vs_all _ _) ?_)
        refine bodyPost_ret (results_cell_row Try.results59 _ _ _ 91 _ (0, 0) _ rfl (setRow_heap _ _ _ _ _ _ h1.out) Try.underlying91 rfl s50.out) rfl ⟨by rw [HR.out], hF.out.setRow _ (.inr (by omega))⟩
      · have A8 := Lib.hid (A9.out.set 16 (y - 4))
        rw [Hhigh.out (by omega)] at A8
        have e1 : IntKind.i64.wrap (y - 4) = y - 4 := by rw [IntKind.wrap_i64]; omega
        go_upto_region 12 with (fail)
        replace h1 := Lib.hid (h1.out.far (a := ⟨w.heap.size + 1 + 1, 16, none⟩) (by simp) (.int .i64 (y - 4)))
        replace hF := Lib.hid (hF.out.setCell (p := ⟨w.heap.size + 1 + 1, 16, none⟩) (.int .i64 (y - 4)) (.inr (by simp <;> omega)))
        clear A9 k16 f16
        generalize wr.setCell ⟨w.heap.size + 1 + 1, 16, none⟩ (.int .i64 (y - 4)) = W1 at *
        go_wp2_with (first
          | refine wpList_load_row rfl 91 (.tmp 3) rfl (w.heap.size + 1 + 1) rfl 91 (vs .i64 R) (0, 0) _ A8.out Try.underlying91 rfl s50.out ?_
          | refine wpList_store_row rfl 91 (.tmp 2) (.tmp 30) rfl (w.heap.size + 1) (vs .i64 R) rfl rfl 91 _ h1.out s50.out eZ.out (vs_all _ _) ?_)
        refine bodyPost_ret (results_cell_row Try.results59 _ _ _ 91 _ (0, 0) _ rfl (setRow_heap _ _ _ _ _ _ h1.out) Try.underlying91 rfl s50.out) rfl ⟨by rw [HR.out], hF.out.setRow _ (.inr (by omega))⟩
end Go.Proofs.Ytbafppdmlhogbaa
