/- The walk of WireNext: whatever the number and the size, the law answers true and turns nothing that was there. -/
import Derived.Test.YtkkicekhkidhjaaNext
namespace Go.Proofs.Ytkkicekhkidhjaa
set_option linter.unusedSimpArgs false
set_option linter.unusedVariables false
open Go.RowKit

set_option maxHeartbeats 2000000 in
theorem next_neg (n size : Int) (w : World) (h0 : -9223372036854775808 ≤ size) (h1 : size ≤ 9223372036854775807) (hn : n < 0) (hn2 : -9223372036854775808 ≤ n) :
    Calls Try.prog 7 #[.int .i64 n, .int .i64 size] w fun e w' => e = .returned (.bool true) ∧ Fr (fun _ => False) w w' := by
  have s0 : 0 ≤ size % 8 := by omega
  have s1 : size % 8 < 8 := by omega
  have HP : Hid (pl n (1 + size % 8) = []) := by
    have := pl_no (n := n) (k := (1 + size % 8).toNat) (by omega) (by omega) (.inl hn)
    rwa [Int.toNat_of_nonneg (by omega)] at this
  go_enter Try.func7, Try.ntmps7
  go_wp2_with fail
  refine (works_any _).mono ?_
  rintro e w1 ⟨rfl, r1⟩
  have F1 := Lib.hid r1
  clear r1
  go_wp2_with fail
  refine (bring_any size 8 _ (by decide) (by decide) h0 h1).mono ?_
  rintro e w2 ⟨rfl, rfl⟩
  go_wp2_with fail
  refine (lput_whole n (1 + size % 8) 0 [] _ (by omega) HP.out rfl).mono ?_
  rintro e w3 ⟨q, rfl, r1, r2, r3⟩
  have F3 : Hid (Fr (fun _ => False) w w3) := F1.out.trans r3
  clear r1 r2 r3
  go_wp2_with fail
  go_ret
  exact ⟨rfl, F3.out⟩

theorem bring_eq (x m r : Int) (w : World) (hm : 0 < m) (hm2 : m ≤ 9223372036854775807) (h0 : -9223372036854775808 ≤ x) (h1 : x ≤ 9223372036854775807) (hr : x % m = r) :
    Calls Try.prog 14 #[.int .i64 x, .int .i64 m] w fun e w' => e = .returned (.int .i64 r) ∧ w = w' := by
  subst hr
  exact bring_any x m w hm hm2 h0 h1

set_option maxHeartbeats 4000000 in
theorem next_big (n size : Int) (k : Nat) (w : World) (h0 : -9223372036854775808 ≤ size) (h1 : size ≤ 9223372036854775807) (hk : size % 8 = k) (hk7 : k < 7) (hn : (256 : Int) ^ (k + 1) ≤ n) (hn2 : n ≤ 9223372036854775807) :
    Calls Try.prog 7 #[.int .i64 n, .int .i64 size] w fun e w' => e = .returned (.bool true) ∧ Fr (fun _ => False) w w' := by
  have hcases : k = 0 ∨ k = 1 ∨ k = 2 ∨ k = 3 ∨ k = 4 ∨ k = 5 ∨ k = 6 := by omega
  rcases hcases with rfl | rfl | rfl | rfl | rfl | rfl | rfl
  · have HK := Lib.hid hk
    have HP : Hid (pl n 1 = []) := pl_no (n := n) (k := 1) (by decide) (by decide) (.inr ⟨by decide, hn⟩)
    have hn3 : 256 ≤ n := hn
    have hd : decide (0 < n / 256) = true := by simp; omega
    have hneg : decide (n < 0) = false := by simp; omega
    clear hk hn
    go_enter Try.func7, Try.ntmps7
    go_wp2_with fail
    refine (works_any _).mono ?_
    rintro e w1 ⟨rfl, r1⟩
    have F1 := Lib.hid r1
    clear r1
    go_wp2_with fail
    refine (bring_eq size 8 0 _ (by decide) (by decide) h0 h1 HK.out).mono ?_
    rintro e w2 ⟨rfl, rfl⟩
    go_wp2_with fail
    refine (lput_whole n 1 0 [] _ (by omega) HP.out rfl).mono ?_
    rintro e w3 ⟨q, rfl, r1, r2, r3⟩
    have F3 : Hid (Fr (fun _ => False) w w3) := F1.out.trans r3
    clear r1 r2 r3
    go_wp2_with fail
    go_ret
    exact ⟨rfl, F3.out⟩
  · have HK := Lib.hid hk
    have HP : Hid (pl n 2 = []) := pl_no (n := n) (k := 2) (by decide) (by decide) (.inr ⟨by decide, hn⟩)
    have hn3 : 65536 ≤ n := hn
    have hd : decide (0 < n / 65536) = true := by simp; omega
    have hneg : decide (n < 0) = false := by simp; omega
    clear hk hn
    go_enter Try.func7, Try.ntmps7
    go_wp2_with fail
    refine (works_any _).mono ?_
    rintro e w1 ⟨rfl, r1⟩
    have F1 := Lib.hid r1
    clear r1
    go_wp2_with fail
    refine (bring_eq size 8 1 _ (by decide) (by decide) h0 h1 HK.out).mono ?_
    rintro e w2 ⟨rfl, rfl⟩
    go_wp2_with fail
    refine (lput_whole n 2 0 [] _ (by omega) HP.out rfl).mono ?_
    rintro e w3 ⟨q, rfl, r1, r2, r3⟩
    have F3 : Hid (Fr (fun _ => False) w w3) := F1.out.trans r3
    clear r1 r2 r3
    go_wp2_with fail
    go_ret
    exact ⟨rfl, F3.out⟩
  · have HK := Lib.hid hk
    have HP : Hid (pl n 3 = []) := pl_no (n := n) (k := 3) (by decide) (by decide) (.inr ⟨by decide, hn⟩)
    have hn3 : 16777216 ≤ n := hn
    have hd : decide (0 < n / 16777216) = true := by simp; omega
    have hneg : decide (n < 0) = false := by simp; omega
    clear hk hn
    go_enter Try.func7, Try.ntmps7
    go_wp2_with fail
    refine (works_any _).mono ?_
    rintro e w1 ⟨rfl, r1⟩
    have F1 := Lib.hid r1
    clear r1
    go_wp2_with fail
    refine (bring_eq size 8 2 _ (by decide) (by decide) h0 h1 HK.out).mono ?_
    rintro e w2 ⟨rfl, rfl⟩
    go_wp2_with fail
    refine (lput_whole n 3 0 [] _ (by omega) HP.out rfl).mono ?_
    rintro e w3 ⟨q, rfl, r1, r2, r3⟩
    have F3 : Hid (Fr (fun _ => False) w w3) := F1.out.trans r3
    clear r1 r2 r3
    go_wp2_with fail
    go_ret
    exact ⟨rfl, F3.out⟩
  · have HK := Lib.hid hk
    have HP : Hid (pl n 4 = []) := pl_no (n := n) (k := 4) (by decide) (by decide) (.inr ⟨by decide, hn⟩)
    have hn3 : 4294967296 ≤ n := hn
    have hd : decide (0 < n / 4294967296) = true := by simp; omega
    have hneg : decide (n < 0) = false := by simp; omega
    clear hk hn
    go_enter Try.func7, Try.ntmps7
    go_wp2_with fail
    refine (works_any _).mono ?_
    rintro e w1 ⟨rfl, r1⟩
    have F1 := Lib.hid r1
    clear r1
    go_wp2_with fail
    refine (bring_eq size 8 3 _ (by decide) (by decide) h0 h1 HK.out).mono ?_
    rintro e w2 ⟨rfl, rfl⟩
    go_wp2_with fail
    refine (lput_whole n 4 0 [] _ (by omega) HP.out rfl).mono ?_
    rintro e w3 ⟨q, rfl, r1, r2, r3⟩
    have F3 : Hid (Fr (fun _ => False) w w3) := F1.out.trans r3
    clear r1 r2 r3
    go_wp2_with fail
    go_ret
    exact ⟨rfl, F3.out⟩
  · have HK := Lib.hid hk
    have HP : Hid (pl n 5 = []) := pl_no (n := n) (k := 5) (by decide) (by decide) (.inr ⟨by decide, hn⟩)
    have hn3 : 1099511627776 ≤ n := hn
    have hd : decide (0 < n / 1099511627776) = true := by simp; omega
    have hneg : decide (n < 0) = false := by simp; omega
    clear hk hn
    go_enter Try.func7, Try.ntmps7
    go_wp2_with fail
    refine (works_any _).mono ?_
    rintro e w1 ⟨rfl, r1⟩
    have F1 := Lib.hid r1
    clear r1
    go_wp2_with fail
    refine (bring_eq size 8 4 _ (by decide) (by decide) h0 h1 HK.out).mono ?_
    rintro e w2 ⟨rfl, rfl⟩
    go_wp2_with fail
    refine (lput_whole n 5 0 [] _ (by omega) HP.out rfl).mono ?_
    rintro e w3 ⟨q, rfl, r1, r2, r3⟩
    have F3 : Hid (Fr (fun _ => False) w w3) := F1.out.trans r3
    clear r1 r2 r3
    go_wp2_with fail
    go_ret
    exact ⟨rfl, F3.out⟩
  · have HK := Lib.hid hk
    have HP : Hid (pl n 6 = []) := pl_no (n := n) (k := 6) (by decide) (by decide) (.inr ⟨by decide, hn⟩)
    have hn3 : 281474976710656 ≤ n := hn
    have hd : decide (0 < n / 281474976710656) = true := by simp; omega
    have hneg : decide (n < 0) = false := by simp; omega
    clear hk hn
    go_enter Try.func7, Try.ntmps7
    go_wp2_with fail
    refine (works_any _).mono ?_
    rintro e w1 ⟨rfl, r1⟩
    have F1 := Lib.hid r1
    clear r1
    go_wp2_with fail
    refine (bring_eq size 8 5 _ (by decide) (by decide) h0 h1 HK.out).mono ?_
    rintro e w2 ⟨rfl, rfl⟩
    go_wp2_with fail
    refine (lput_whole n 6 0 [] _ (by omega) HP.out rfl).mono ?_
    rintro e w3 ⟨q, rfl, r1, r2, r3⟩
    have F3 : Hid (Fr (fun _ => False) w w3) := F1.out.trans r3
    clear r1 r2 r3
    go_wp2_with fail
    go_ret
    exact ⟨rfl, F3.out⟩
  · have HK := Lib.hid hk
    have HP : Hid (pl n 7 = []) := pl_no (n := n) (k := 7) (by decide) (by decide) (.inr ⟨by decide, hn⟩)
    have hn3 : 72057594037927936 ≤ n := hn
    have hd : decide (0 < n / 72057594037927936) = true := by simp; omega
    have hneg : decide (n < 0) = false := by simp; omega
    clear hk hn
    go_enter Try.func7, Try.ntmps7
    go_wp2_with fail
    refine (works_any _).mono ?_
    rintro e w1 ⟨rfl, r1⟩
    have F1 := Lib.hid r1
    clear r1
    go_wp2_with fail
    refine (bring_eq size 8 6 _ (by decide) (by decide) h0 h1 HK.out).mono ?_
    rintro e w2 ⟨rfl, rfl⟩
    go_wp2_with fail
    refine (lput_whole n 7 0 [] _ (by omega) HP.out rfl).mono ?_
    rintro e w3 ⟨q, rfl, r1, r2, r3⟩
    have F3 : Hid (Fr (fun _ => False) w w3) := F1.out.trans r3
    clear r1 r2 r3
    go_wp2_with fail
    go_ret
    exact ⟨rfl, F3.out⟩

set_option maxHeartbeats 2000000 in
theorem next_max (size : Int) (w : World) (h0 : -9223372036854775808 ≤ size) (h1 : size ≤ 9223372036854775807) (hk : size % 8 = 7) :
    Calls Try.prog 7 #[.int .i64 9223372036854775807, .int .i64 size] w fun e w' => e = .returned (.bool true) ∧ Fr (fun _ => False) w w' := by
  have HK := Lib.hid hk
  have HP : Hid (pl 9223372036854775807 8 = beN 9223372036854775807 8) := pl_ok (k := 8) (by decide) (by decide) (by decide) (fun h => absurd h (by decide))
  clear hk
  go_enter Try.func7, Try.ntmps7
  go_wp2_with fail
  refine (works_any _).mono ?_
  rintro e w1 ⟨rfl, r1⟩
  have F1 := Lib.hid r1
  clear r1
  go_wp2_with fail
  refine (bring_eq size 8 7 _ (by decide) (by decide) h0 h1 HK.out).mono ?_
  rintro e w2 ⟨rfl, rfl⟩
  go_wp2_with fail
  refine (lput_whole 9223372036854775807 8 8 _ _ (by decide) HP.out (beN_length _ 8 (by decide))).mono ?_
  rintro e w3 ⟨q, rfl, r1, r2, r3⟩
  have F3 : Hid (Fr (fun _ => False) w w3) := F1.out.trans r3
  clear r1 r2 r3
  go_wp2_with fail
  go_ret
  exact ⟨rfl, F3.out⟩
end Go.Proofs.Ytkkicekhkidhjaa
