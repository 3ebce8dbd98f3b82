/- The walk of WireNext where the number fits and is not the greatest: the loop that counts up. -/
import Derived.Test.YtkkicekhkidhjaaNextW
namespace Go.Proofs.Ytkkicekhkidhjaa
set_option linter.unusedSimpArgs false
set_option linter.unusedVariables false
open Go.RowKit

theorem Sl.whole {w : World} {q : Nat} {l : List Int} (N : Nat) (h : w.heap[q]? = some (.cells (bs l).toArray 5 (0, 0))) (hb : Bys l) (hN : l.length = N) (hm : N ≤ maxLen) : Sl w q (.slice (some ⟨q, 0, none⟩) N N) l := by
  subst hN
  exact Sl.block hb h (fun j _ => by simp) (Nat.le_refl _) hm
theorem eqBytes_true (g1 g2 : Nat) (A B : Option Addr) (n m c d : Nat) (l k : List Int) (w : World) (h1 : Sl w g1 (.slice A n c) l) (h2 : Sl w g2 (.slice B m d) k) (h : l = k) :
    Calls Try.prog 22 #[.slice A n c, .slice B m d] w fun e w' => e = .returned (.bool true) ∧ Fr (fun _ => False) w w' := by
  refine (eqBytes_fr g1 g2 A B n m c d l k w h1 h2).mono ?_
  rintro e w' ⟨rfl, r⟩
  exact ⟨by rw [decide_eq_true h], r⟩

set_option maxHeartbeats 4000000 in
theorem next_main (n size : Int) (k : Nat) (w : World) (h0 : -9223372036854775808 ≤ size) (h1 : size ≤ 9223372036854775807) (hk : size % 8 = k) (hn0 : 0 ≤ n) (hn : n < (256 : Int) ^ (k + 1)) (hn2 : n ≤ 9223372036854775806) :
    Calls Try.prog 7 #[.int .i64 n, .int .i64 size] w fun e w' => e = .returned (.bool true) ∧ Fr (fun _ => False) w w' := by
  have hk7 : k ≤ 7 := by omega
  have HK := Lib.hid hk
  have HN := Lib.hid hn
  have HP : Hid (pl n (1 + (k : Int)) = beN n (k + 1)) := by
    have := pl_ok (n := n) (k := k + 1) (by omega) (by omega) hn0 (fun _ => hn)
    rwa [show ((k + 1 : Nat) : Int) = 1 + (k : Int) by omega] at this
  have d1 : ((k : Int) + 1 == 0) = false := by simp; omega
  have d1' : (1 + (k : Int) == 0) = false := by simp; omega
  have d2 : (n == 9223372036854775807) = false := by simp; omega
  have d3 : (1 + (k : Int) != 1 + (k : Int)) = false := by simp
  clear hk hn
  go_enter Try.func7, Try.ntmps7
  go_wp2_with fail
  refine (works_any _).mono ?_
  rintro e w1 ⟨rfl, r1⟩
  have F1 := Lib.hid r1
  clear r1
  go_wp2_with fail
  refine (bring_eq size 8 k _ (by decide) (by decide) h0 h1 HK.out).mono ?_
  rintro e w2 ⟨rfl, rfl⟩
  go_wp2_with fail
  refine (lput_whole n (1 + k) (1 + k) _ _ (by omega) HP.out (by rw [beN_length _ _ (by omega)]; omega)).mono ?_
  rintro e w3 ⟨q, rfl, r1, r2, r3⟩
  have F3 : Hid (Fr (fun _ => False) w w3) := F1.out.trans r3
  have hq : w.heap.size ≤ q := Nat.le_trans F1.out.size r2
  have B3 := Lib.hid r1
  clear r1 r2 r3
  go_wp2_with fail
  go_loopw [6] (fun i wr => ∃ (m t : Nat) (n' x : Int), i = .int .i64 x ∧ Hid (x = (m : Int) - 1) ∧ Hid (m + t = k + 1) ∧ 0 ≤ n' ∧ n' ≤ 9223372036854775806 ∧ Hid (n' < (256 : Int) ^ m) ∧
      Hid (wr.heap[q]? = some (.cells (bs (beN n' m ++ List.replicate t 0)).toArray 5 (0, 0))) ∧ Hid (beN (n + 1) (k + 1) = beN (n' + 1) m ++ List.replicate t 0) ∧ Hid (n + 1 < (256 : Int) ^ (k + 1) ↔ n' + 1 < (256 : Int) ^ m) ∧ Hid (Fr (fun _ => False) w wr))
    (fun i _ => (intOf i + 1).toNat)
  case atStart =>
    exact ⟨k + 1, 0, n, _, rfl, by show (1 + (k : Int) - 1) = _; omega, rfl, hn0, hn2, HN.out, by show _ = _; rw [B3.out]; simp, by show _ = _; simp, Iff.rfl, F3.out⟩
  case round =>
    obtain ⟨m, t, n', x, rfl, hx, hmt, g0, g1, hf, hB, hE, hI, hF⟩ := hrel
    rcases m with _ | m
    · obtain rfl : x = -1 := by have := hx.out; omega
      have hz : n' = 0 := by have := hf.out; simp at this; omega
      have hno : ¬ (n + 1 < (256 : Int) ^ (k + 1)) := by
        intro h
        have := hI.out.1 h
        rw [hz] at this
        exact absurd this (by decide)
      clear hz
      have hk8 : k < 7 := by
        rcases Nat.lt_or_ge k 7 with h | h
        · exact h
        · obtain rfl : k = 7 := by omega
          exact absurd (show n + 1 < (256 : Int) ^ (7 + 1) by omega) hno
      have HP2 : Hid (pl (n + 1) (1 + (k : Int)) = []) := by
        have := pl_no (n := n + 1) (k := k + 1) (by omega) (by omega) (.inr ⟨by omega, by omega⟩)
        rwa [show ((k + 1 : Nat) : Int) = 1 + (k : Int) by omega] at this
      have HNO := Lib.hid hno
      clear hno
      go_wp2_with fail
      refine (lput_whole (n + 1) (1 + k) 0 [] _ (by omega) HP2.out rfl).mono ?_
      rintro e w5 ⟨q2, rfl, r1, r2, r3⟩
      have F5 : Hid (Fr (fun _ => False) w w5) := hF.out.trans r3
      clear r1 r2 r3
      go_wp2_with fail
      go_ret
      exact ⟨rfl, F5.out⟩
    · obtain rfl : x = (m : Int) := by have := hx.out; omega
      have hmk : m ≤ k := by have := hmt.out; omega
      obtain ⟨b, hb⟩ : ∃ b, b = n' % 256 := ⟨_, rfl⟩
      have b0 : 0 ≤ b := by omega
      have b1 : b ≤ 255 := by omega
      have hB2 : Hid (wr.heap[q]? = some (.cells (bs (beN (n' / 256) m ++ b :: List.replicate t 0)).toArray 5 (0, 0))) := by
        show _ = _
        rw [hB.out, beN_succ n' m (by omega) g0 (by omega), hb, List.append_assoc]
        rfl
      have hc : wr.cell? ⟨q, m, none⟩ = some (.int .u8 b) := by
        have := cell_bs hB2.out
        rwa [beN_length _ _ (by omega)] at this
      have hfz : wr.frozen? ⟨q, m, none⟩ = false := frozen_of_row _ _ _ _ _ hB2.out
      have HB := Lib.hid hb
      clear hb
      by_cases h255 : b = 255
      · subst h255
        go_wp2
        go_roundw
        case rel =>
          obtain ⟨e1, e2, e3, _⟩ := next_step (n := n) (k := k + 1) (m := m) (t := t) (n' := n') (by have := hmt.out; omega) g0 g1 (by omega) hf.out HB.out.symm hE.out hI.out
          refine ⟨m, t + 1, n' / 256, _, rfl, rfl, by show m + (t + 1) = k + 1; have := hmt.out; omega, by omega, by omega, e1, ?_, e2, e3, Fr.setCell hF.out _ (.inr hq)⟩
          have := set_bs (c := 0) hB2.out
          rw [beN_length _ _ (by omega)] at this
          exact this
        case measure => simp [intOf]
      · have hne : (b == 255) = false := by simp [h255]
        have b2 : b ≤ 254 := by omega
        have H255 := Lib.hid h255
        clear h255
        have hfit : n + 1 < (256 : Int) ^ (k + 1) := hI.out.2 (by
          have h1 := hf.out
          have h2 := HB.out
          rw [Int.pow_succ] at h1 ⊢
          omega)
        have HP2 : Hid (pl (n + 1) (1 + (k : Int)) = beN (n + 1) (k + 1)) := by
          have := pl_ok (n := n + 1) (k := k + 1) (by omega) (by omega) (by omega) (fun _ => hfit)
          rwa [show ((k + 1 : Nat) : Int) = 1 + (k : Int) by omega] at this
        have HE2 : Hid (beN (n + 1) (k + 1) = beN (n' / 256) m ++ (b + 1) :: List.replicate t 0) := by
          show _ = _
          have h2 := HB.out
          rw [hE.out, beN_succ (n' + 1) m (by omega) (by omega) (by omega), show (n' + 1) / 256 = n' / 256 by omega, show (n' + 1) % 256 = b + 1 by omega, List.append_assoc]
          rfl
        clear hfit
        go_wp2_with fail
        refine (lput_whole (n + 1) (1 + k) (1 + k) _ _ (by omega) HP2.out (by rw [beN_length _ _ (by omega)]; omega)).mono ?_
        rintro e w5 ⟨q2, rfl, r1, r2, r3⟩
        have F5 : Hid (Fr (fun _ => False) w w5) := hF.out.trans r3
        have B5 := Lib.hid r1
        have hB5 : Hid (w5.heap[q]? = some (.cells (bs (beN (n' / 256) m ++ b :: List.replicate t 0)).toArray 5 (0, 0))) := (r3.block q (heap_lt hB2.out) (fun x => x)).trans hB2.out
        have hc5 : w5.cell? ⟨q, m, none⟩ = some (.int .u8 b) := by
          have := cell_bs hB5.out
          rwa [beN_length _ _ (by omega)] at this
        have hfz5 : w5.frozen? ⟨q, m, none⟩ = false := frozen_of_row _ _ _ _ _ hB5.out
        have hne5 : q2 ≠ q := by have := heap_lt hB2.out; omega
        clear r1 r2 r3
        go_wp2_with fail
        have hby : Bys (beN (n + 1) (k + 1)) := beN_bys _ _ (by omega) (by omega)
        have S1 : Sl (w5.setCell ⟨q, m, none⟩ (.int .u8 (b + 1))) q2 (.slice (some ⟨q2, 0, none⟩) (1 + k) (1 + k)) (beN (n + 1) (k + 1)) :=
          Sl.whole _ ((heap_setCell_other _ _ _ _ hne5).trans B5.out) hby (by rw [beN_length _ _ (by omega)]; omega) (by simp only [maxLen]; omega)
        have S2 : Sl (w5.setCell ⟨q, m, none⟩ (.int .u8 (b + 1))) q (.slice (some ⟨q, 0, none⟩) (1 + k) (1 + k)) (beN (n' / 256) m ++ (b + 1) :: List.replicate t 0) := by
          have := set_bs (c := b + 1) hB5.out
          rw [beN_length _ _ (by omega)] at this
          refine Sl.whole _ this (by rw [← HE2.out]; exact hby) ?_ (by simp only [maxLen]; omega)
          rw [← HE2.out, beN_length _ _ (by omega)]; omega
        refine (eqBytes_true q2 q _ _ _ _ _ _ _ _ _ S1 S2 HE2.out).mono ?_
        rintro e w6 ⟨rfl, r1⟩
        have F6 : Hid (Fr (fun _ => False) w w6) := (Fr.setCell F5.out _ (.inr hq)).trans r1
        clear r1 S1 S2 hby
        go_wp2_with fail
        go_ret
        exact ⟨rfl, F6.out⟩
end Go.Proofs.Ytkkicekhkidhjaa
