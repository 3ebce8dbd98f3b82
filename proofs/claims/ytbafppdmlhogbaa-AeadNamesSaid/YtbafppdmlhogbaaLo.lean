/- The reference's long and filled: contracts. Conditions: lengths below 2^47. -/
import Derived.Test.YtbafppdmlhogbaaAv
import Derived.Great.BuildSlice
import Derived.Laws.Shifts
namespace Go.Proofs.Ytbafppdmlhogbaa
set_option linter.unusedSimpArgs false
set_option linter.unusedVariables false
open Go.ChangeShapes Go.WideShapes Go.ChangeAt Go.RowKit


theorem pow8' (i : Nat) : (2 : Int) ^ (8 * i) = 256 ^ i := by rw [Int.pow_mul]; rfl
theorem Nw.app {W0 w w' : World} {v v' : Value} {l k : List Int} (h : Nw W0 w v l) (hf : Fr (fun _ => False) W0 w) {w1 : World} (h1 : Fr (fun _ => False) w w1) (ha : Ap2 w1 v l k v' w') : Nw W0 w' v' (l ++ k) ∧ Fr (fun _ => False) W0 w' := by
  obtain ⟨a, b, c⟩ := ha.next (hf.trans h1) h.2
  exact ⟨⟨a, c⟩, b⟩
set_option maxHeartbeats 2000000 in
theorem rlong_is (W0 : World) (v : Value) (l : List Int) (x : Int) (w : World) (h : Nw W0 w v l) (hf : Fr (fun _ => False) W0 w) (hx : 0 ≤ x ∧ x ≤ 9223372036854775807) (hl : l.length + 8 ≤ 140737488355328) :
    Calls Try.prog 44 #[v, .int .i64 x] w fun e w' => ∃ v', e = .returned v' ∧ Nw W0 w' v' (l ++ les 8 x) ∧ Fr (fun _ => False) W0 w' := by
  obtain ⟨A, c, rfl⟩ := h.shape
  obtain ⟨X, hX⟩ : ∃ X, X = les 8 x := ⟨_, rfl⟩
  have lX : Hid (X.length = 8) := by show _ = _; rw [hX, les_length]
  have tX : Hid (∀ i, i < 8 → X.take i ++ [x / 256 ^ i % 256] = X.take (i + 1)) := by show ∀ _, _; rw [hX]; exact les_take 8 x
  rw [← hX]
  have H0 := Lib.hid h
  have F0 := Lib.hid hf
  clear h hf hX
  go_enter Try.func44, Try.ntmps44
  go_wp2
  go_loopw [0, 5] (fun u0 u5 wr => ∃ (i n cc : Nat) (B : Option Addr), u5 = .int .i64 i ∧ i ≤ 8 ∧ u0 = .slice B n cc ∧ Hid (Nw W0 wr (.slice B n cc) (l ++ X.take i)) ∧ Hid (Fr (fun _ => False) W0 wr)) (fun _ u5 _ => 8 - (intOf u5).toNat)
  case atStart => exact ⟨0, _, _, _, rfl, by omega, rfl, (by show Nw _ _ _ _; rw [List.take_zero, List.append_nil]; exact H0.out), F0⟩
  case round =>
  clear H0 F0
  obtain ⟨i, n, cc, B, rfl, hi, rfl, hO, hF⟩ := hrel
  by_cases hil : i < 8
  · have j3 : (i : Int) < 8 := by omega
    have j4 : IntKind.i64.wrap (8 * (i : Int)) = 8 * i := by rw [IntKind.wrap_i64]; omega
    have ht := tX.out i hil
    rw [← pow8' i] at ht
    obtain ⟨y, hy⟩ : ∃ y : Int, x / 2 ^ (8 * i) % 256 = y := ⟨_, rfl⟩
    rw [hy] at ht
    have hyb : Hid (0 ≤ y ∧ y ≤ 255) := by show _ ∧ _; omega
    have HT := Lib.hid ht
    clear ht
    go_wp2_with (at_builtin; refine wpList_own rfl (.tmp 10) (.tmp 16) rfl (hO.out.1.keep (S := fun _ => False) ((Fr.refl _ _).alloc (.cells #[.int .u8 y] 5)) (fun _ _ x => x)) rfl rfl (lit_sl wr y hyb.out) (by simp only [List.length_append, List.length_take, lX.out]; omega) ?_; intro A2 N2 c2 w2 hap hN; have HA := Lib.hid hap; clear hap hN)
    obtain ⟨r1, r2⟩ := hO.out.app hF.out ((Fr.refl _ _).alloc _) HA.out
    rw [List.append_assoc, HT.out] at r1
    have R1 := Lib.hid r1
    have R2 := Lib.hid r2
    clear r1 r2 HA hy
    go_roundw
    case rel => exact ⟨i + 1, N2, c2, A2, by go_num, by omega, rfl, R1, R2⟩
    case measure => simp [intOf]; omega
  obtain rfl : i = 8 := by omega
  have hO2 : Hid (Nw W0 wr (.slice B n cc) (l ++ X)) := by
    have h := hO.out
    rwa [List.take_of_length_le (by rw [lX.out]; exact Nat.le_refl _)] at h
  clear hO
  go_wp2
  go_ret
  exact ⟨_, rfl, hO2.out, hF.out⟩
end Go.Proofs.Ytbafppdmlhogbaa

/- The reference's filled: contract. Condition: lengths below 2^47. -/
namespace Go.Proofs.Ytbafppdmlhogbaa
set_option linter.unusedSimpArgs false
set_option linter.unusedVariables false
open Go.ChangeShapes Go.WideShapes Go.ChangeAt Go.RowKit


theorem gap_end (m i : Nat) (h1 : m ≤ i) (h2 : i ≤ m + gap m) : i % 16 = 0 ↔ i = m + gap m := by
  unfold gap at *
  omega
set_option maxHeartbeats 2000000 in
theorem rfilled_is (W0 : World) (v : Value) (l : List Int) (gb : Nat) (A : Option Addr) (m cap : Nat) (b : List Int) (w : World) (h : Nw W0 w v l) (hf : Fr (fun _ => False) W0 w) (hs : Sl w gb (.slice A m cap) b) (hl : l.length + m + 16 ≤ 140737488355328) :
    Calls Try.prog 43 #[v, .slice A m cap] w fun e w' => ∃ v', e = .returned v' ∧ Nw W0 w' v' (l ++ pad b) ∧ Fr (fun _ => False) W0 w' := by
  obtain ⟨A0, c0, rfl⟩ := h.shape
  have lb := Lib.hid hs.len
  have HP : Hid (pad b = b ++ List.replicate (gap m) 0) := by show _ = _; rw [pad, lb.out]
  have HE := Lib.hid (gap_end m)
  have HG := Lib.hid (gap_lt m)
  obtain ⟨M, hM⟩ : ∃ M, M = m + gap m := ⟨_, rfl⟩
  have HMM := Lib.hid hM
  have HM1 : M < m + 16 := by have := HG.out; omega
  have HM2 : m ≤ M := by omega
  clear hM
  have H0 := Lib.hid h
  have F0 := Lib.hid hf
  have HS := Lib.hid hs
  clear h hf hs
  go_enter Try.func43, Try.ntmps43
  go_upto_region 2 with (at_builtin; refine wpList_own rfl (.tmp 6) (.tmp 7) rfl H0.out.1 rfl rfl HS.out (by omega) ?_; intro A2 N2 c2 w2 hap hN; have HA := Lib.hid hap; clear hap hN)
  obtain ⟨r1, r2⟩ := H0.out.app F0.out (Fr.refl _ _) HA.out
  have R1 := Lib.hid r1
  have R2 := Lib.hid r2
  clear r1 r2 HA H0 F0 HS
  go_upto_region 3 with (fail)
  go_loopw [0, 5] (fun u0 u5 wr => ∃ (i n cc : Nat) (B : Option Addr), u5 = .int .i64 i ∧ m ≤ i ∧ i ≤ M ∧ u0 = .slice B n cc ∧ Hid (Nw W0 wr (.slice B n cc) ((l ++ b) ++ List.replicate (i - m) 0)) ∧ Hid (Fr (fun _ => False) W0 wr)) (fun _ u5 _ => m + 16 - (intOf u5).toNat)
  case atStart => exact ⟨m, _, _, _, rfl, by omega, by omega, rfl, (by show Nw _ _ _ _; rw [Nat.sub_self, List.replicate_zero, List.append_nil]; exact R1.out), R2⟩
  case round =>
  clear R1 R2
  obtain ⟨i, n, cc, B, rfl, hi0, hi, rfl, hO, hF⟩ := hrel
  have t1 : (i : Int).tmod 16 = ((i % 16 : Nat) : Int) := by rw [Int.tmod_eq_emod_of_nonneg (by omega)]; omega
  by_cases hil : i < M
  · have he : ¬ i % 16 = 0 := fun e => by
      have h1 := HMM.out
      have h2 := (HE.out i hi0 (by omega)).1 e
      omega
    obtain ⟨q, hq⟩ : ∃ q, q = i % 16 := ⟨_, rfl⟩
    rw [← hq] at t1 he
    have HQ := Lib.hid hq
    clear hq
    have hqd : ¬ (q : Int) = 0 := by omega
    go_wp2_with (at_builtin; refine wpList_own rfl (.tmp 16) (.tmp 17) rfl (hO.out.1.keep (S := fun _ => False) ((Fr.refl _ _).alloc (.cells #[.int .u8 0] 5)) (fun _ _ x => x)) rfl rfl (lit_sl wr 0 (by omega)) (by simp only [List.length_append, lb.out, List.length_replicate]; omega) ?_; intro A2 N2 c2 w2 hap hN; have HA := Lib.hid hap; clear hap hN)
    obtain ⟨r1, r2⟩ := hO.out.app hF.out ((Fr.refl _ _).alloc _) HA.out
    rw [List.append_assoc _ (List.replicate (i - m) 0), ← List.replicate_succ', show i - m + 1 = i + 1 - m by omega] at r1
    have R1 := Lib.hid r1
    have R2 := Lib.hid r2
    clear r1 r2 HA t1 hqd he
    go_roundw
    case rel => exact ⟨i + 1, N2, c2, A2, by go_num, by omega, by omega, rfl, R1, R2⟩
    case measure => simp [intOf]; omega
  have h16 : i % 16 = 0 := (HE.out i hi0 (by have := HMM.out; omega)).2 (by have := HMM.out; omega)
  rw [h16] at t1
  have hO2 : Hid (Nw W0 wr (.slice B n cc) (l ++ pad b)) := by
    have h := hO.out
    rw [show i - m = gap m by have := HMM.out; omega, List.append_assoc, ← HP.out] at h
    exact h
  clear hO h16
  go_wp2
  go_ret
  exact ⟨_, rfl, hO2.out, hF.out⟩
end Go.Proofs.Ytbafppdmlhogbaa
