/- The walk of WireTwo: two readers and two writers do not touch one another. Condition: the slice is no longer than a machine's memory. -/
import Derived.Test.YtkkicekhkidhjaaExtra
namespace Go.Proofs.Ytkkicekhkidhjaa
open Go.RowKit

set_option maxHeartbeats 4000000 in
theorem two_any (A : Option Addr) (n c g : Nat) (l : List Int) (far m : Int) (w : World) (hs : Sl w g (.slice A n c) l) (hn : n ≤ 140737488355328)
    (f0 : -9223372036854775808 ≤ far) (f1 : far ≤ 9223372036854775807) (hm : m ≤ 9223372036854775807) :
    Calls Try.prog 9 #[.slice A n c, .int .i64 far, .int .i64 m] w fun e w' => e = .returned (.bool true) ∧ Fr (fun _ => False) w w' := by
  obtain ⟨k, hk⟩ := Int.eq_ofNat_of_zero_le (Int.emod_nonneg far (show ((n : Int) + 1) ≠ 0 by omega))
  have hkn : k ≤ n := by
    have := Int.emod_lt_of_pos far (show (0 : Int) < (n : Int) + 1 by omega)
    omega
  have hcap := hs.cap
  have hsl := slice_to A n c k (by omega)
  have hl : l.length = n := hs.len
  have HK := Lib.hid hk
  have HL := Lib.hid hl
  have HS := Lib.hid hs
  obtain ⟨N, hN⟩ : ∃ N, (pl m 8).length = N := ⟨_, rfl⟩
  have hN8 : N ≤ 8 := by rw [← hN]; exact pl_length m 8
  have HN := Lib.hid hN
  clear hk hl hs hcap hN
  go_enter Try.func9, Try.ntmps9
  go_wp2_with fail
  refine (works_any _).mono ?_
  rintro e w1 ⟨rfl, r1⟩
  have F1 := Lib.hid r1
  clear r1
  go_wp2_with fail
  refine (new_any2 g A n c l w1 (HS.out.fr F1.out (fun _ x => x)) hn).mono ?_
  rintro e w2 ⟨p1, q1, rfl, r1, r2, r3, r4, b1, b2⟩
  have R2 : Hid (Rd w2 p1 q1 l) := r1
  have F2 : Hid (Fr (fun _ => False) w w2) := F1.out.trans r4
  have s1 : w.heap.size ≤ w1.heap.size := F1.out.size
  clear r1 r4 F1
  go_wp2_with fail
  refine (new_any2 g A n c l w2 (HS.out.fr F2.out (fun _ x => x)) hn).mono ?_
  rintro e w3 ⟨p2, q2, rfl, r1, c2, c3, r4, b3, b4⟩
  have S3 : Hid (Rd w3 p2 q2 l) := r1
  have R3 : Hid (Rd w3 p1 q1 l) := R2.out.keep r4 (fun x => x) (fun _ x => x)
  have F3 : Hid (Fr (fun _ => False) w w3) := F2.out.trans r4
  clear r1 r4 F2 R2
  go_wp2_with fail
  refine (bring_eq far (n + 1) k _ (by omega) (by omega) f0 f1 HK.out).mono ?_
  rintro e w4 ⟨rfl, rfl⟩
  go_wp2_with fail
  refine (rbytes_ok2 p1 q1 l k w3 R3.out (by rw [HL.out]; exact hkn) (by rw [HL.out]; exact hn)).mono ?_
  rintro e w5 ⟨q5, rfl, r1, d1, r2, r3, b5, r4⟩
  clear r4
  have X5 := Lib.hid r1
  have R5 := Lib.hid r2
  have S5 : Hid (Rd w5 p2 q2 l) := S3.out.keep r3 (fun e => by omega) (fun _ e => by omega)
  have F5 : Hid (Fr (fun _ => False) w w5) := F3.out.trans' r3 (fun i hi e => by omega)
  have s5 : w3.heap.size ≤ w5.heap.size := r3.size
  clear r1 r2 r3 F3 S3 R3
  go_wp2_with fail
  refine (write_any _).mono ?_
  rintro e w6 ⟨rfl, r1, r2⟩
  have V6 := Lib.hid r1
  have X6 := Lib.hid (X5.out.fr r2 (fun _ x => x))
  have R6 := Lib.hid (R5.out.keep r2 (fun x => x) (fun _ x => x))
  have S6 := Lib.hid (S5.out.keep r2 (fun x => x) (fun _ x => x))
  have F6 := Lib.hid (F5.out.trans r2)
  have s6 : w5.heap.size < w6.heap.size := heap_lt r1.1
  clear r1 r2 X5 R5 S5 F5
  go_wp2_with fail
  refine (write_any _).mono ?_
  rintro e w7 ⟨rfl, r1, r2⟩
  have W7 := Lib.hid r1
  have V7 := Lib.hid (V6.out.keep r2 (fun x => x) (fun _ _ x => x))
  have X7 := Lib.hid (X6.out.fr r2 (fun _ x => x))
  have R7 := Lib.hid (R6.out.keep r2 (fun x => x) (fun _ x => x))
  have S7 := Lib.hid (S6.out.keep r2 (fun x => x) (fun _ x => x))
  have F7 := Lib.hid (F6.out.trans r2)
  have s7 : w6.heap.size < w7.heap.size := heap_lt r1.1
  clear r1 r2 X6 R6 S6 F6 V6
  go_wp2_with fail
  refine (put_any w5.heap.size _ [] m 8 w7 V7.out hm (by decide)).mono ?_
  rintro e w8 ⟨rfl, v8, r1, r2, r3⟩
  have V8 : Hid (Wr w8 w5.heap.size v8 (pl m 8)) := r1
  have n8 : Hid (∀ k, v8.ownBlock = some k → w7.heap.size ≤ k) := fun k hk => (r3 k hk).elim (fun h => by cases h) id
  have T8 : Hid (∀ i, Tw w5.heap.size (.slice none 0 0) i → i = w5.heap.size) := fun i h => h.elim id (fun h => by cases h)
  have W8 := Lib.hid (W7.out.keep r2 (fun h => by have := T8.out _ h; omega) (fun k hk => by cases hk))
  have X8 := Lib.hid (X7.out.fr r2 (fun _ h => by have := T8.out _ h; omega))
  have R8 := Lib.hid (R7.out.keep r2 (fun h => by have := T8.out _ h; omega) (fun _ h => by have := T8.out _ h; omega))
  have S8 := Lib.hid (S7.out.keep r2 (fun h => by have := T8.out _ h; omega) (fun _ h => by have := T8.out _ h; omega))
  have F8 : Hid (Fr (fun _ => False) w w8) := F7.out.trans' r2 (fun i hi h => by have := T8.out _ h; omega)
  have s8 : w7.heap.size ≤ w8.heap.size := r2.size
  clear r1 r2 r3 T8 W7 V7 X7 R7 S7 F7
  go_wp2_with fail
  refine (wbytes_any w6.heap.size g _ [] l A n c w8 W8.out (HS.out.fr F8.out (fun _ x => x)) (by simpa using hn)).mono ?_
  rintro e w9 ⟨rfl, v9, r1, r2, r3⟩
  have W9 : Hid (Wr w9 w6.heap.size v9 l) := r1
  have n9 : Hid (∀ k, v9.ownBlock = some k → w8.heap.size ≤ k) := fun k hk => (r3 k hk).elim (fun h => by cases h) id
  have T9 : Hid (∀ i, Tw w6.heap.size (.slice none 0 0) i → i = w6.heap.size) := fun i h => h.elim id (fun h => by cases h)
  have V9 := Lib.hid (V8.out.keep r2 (fun h => by have := T9.out _ h; omega) (fun k hk h => by have := T9.out _ h; have := n8.out _ hk; omega))
  have X9 := Lib.hid (X8.out.fr r2 (fun _ h => by have := T9.out _ h; omega))
  have R9 := Lib.hid (R8.out.keep r2 (fun h => by have := T9.out _ h; omega) (fun _ h => by have := T9.out _ h; omega))
  have S9 := Lib.hid (S8.out.keep r2 (fun h => by have := T9.out _ h; omega) (fun _ h => by have := T9.out _ h; omega))
  have F9 : Hid (Fr (fun _ => False) w w9) := F8.out.trans' r2 (fun i hi h => by have := T9.out _ h; omega)
  have s9 : w8.heap.size ≤ w9.heap.size := r2.size
  clear r1 r2 r3 T9 W8 V8 X8 R8 S8 F8
  go_wp2_with fail
  refine (rbytes_ok2 p2 q2 l n w9 S9.out (by rw [HL.out]; exact Nat.le_refl _) (by rw [HL.out]; exact hn)).mono ?_
  rintro e w10 ⟨q10, rfl, r1, d2, r2, r3, b10, r4⟩
  have Y10 : Hid (Sl w10 q10 (.slice (some ⟨q10, 0, none⟩) n n) l) := by rwa [List.take_of_length_le (by rw [HL.out]; exact Nat.le_refl _)] at r1
  have S10 : Hid (Rd w10 p2 q2 []) := by rwa [List.drop_of_length_le (by rw [HL.out]; exact Nat.le_refl _)] at r2
  have V10 := Lib.hid (V9.out.keep r3 (fun e => by omega) (fun k hk e => by have := n8.out _ hk; omega))
  have W10 := Lib.hid (W9.out.keep r3 (fun e => by omega) (fun k hk e => by have := n9.out _ hk; omega))
  have X10 := Lib.hid (X9.out.fr r3 (fun _ e => by omega))
  have R10 := Lib.hid (R9.out.keep r3 (fun e => by omega) (fun _ e => by omega))
  have F10 : Hid (Fr (fun _ => False) w w10) := F9.out.trans' r3 (fun i hi e => by omega)
  clear r1 r2 r3 r4 W9 V9 X9 R9 S9 F9
  go_wp2_with fail
  refine (eqBytes_true q5 g _ _ _ _ _ _ _ _ w10 X10.out ((HS.out.take k (by rw [HL.out]; exact hkn)).fr F10.out (fun _ x => x)) rfl).mono ?_
  rintro e w11 ⟨rfl, r1⟩
  have F11 := Lib.hid (F10.out.trans r1)
  have E11 := Lib.hid r1
  clear r1 X10
  go_wp2_with fail
  refine (eqBytes_true q10 g _ _ _ _ _ _ _ _ w11 (Y10.out.fr E11.out (fun _ x => x)) (HS.out.fr F11.out (fun _ x => x)) rfl).mono ?_
  rintro e w12 ⟨rfl, r1⟩
  have F12 := Lib.hid (F11.out.trans r1)
  have E12 := Lib.hid (E11.out.trans r1)
  clear r1 Y10 F11 E11
  go_wp2_with fail
  refine (left_any p1 q1 _ _ (R10.out.keep E12.out (fun x => x) (fun _ x => x))).mono ?_
  rintro e w13 ⟨rfl, rfl⟩
  have hlk : Hid ((l.drop k).length = n - k) := by show _ = _; rw [List.length_drop, HL.out]
  rw [hlk.out]
  have d1 : ((n - k : Nat) : Int) = (n : Int) - (k : Int) := by omega
  rw [d1]
  have d2 : ((n : Int) - (k : Int) == (n : Int) - (k : Int)) = true := by simp
  clear d1 hlk
  go_wp2_with fail
  refine (left_any p2 q2 _ _ (S10.out.keep E12.out (fun x => x) (fun _ x => x))).mono ?_
  rintro e w13 ⟨rfl, rfl⟩
  go_wp2_with fail
  refine (wout_any w6.heap.size v9 l _ (W10.out.keep E12.out (fun x => x) (fun _ _ x => x)) (by rw [HL.out]; exact hn)).mono ?_
  rintro e w14 ⟨rfl, r1, r2⟩
  have O14 : Hid (Sl w14 w12.heap.size (.slice (some ⟨w12.heap.size, 0, none⟩) l.length l.length) l) := r1
  have F14 := Lib.hid (F12.out.trans r2)
  have E14 := Lib.hid (E12.out.trans r2)
  clear r1 r2 F12
  go_wp2_with fail
  refine (eqBytes_true w12.heap.size g _ _ _ _ _ _ _ _ w14 O14.out (HS.out.fr F14.out (fun _ x => x)) rfl).mono ?_
  rintro e w15 ⟨rfl, r1⟩
  have F15 := Lib.hid (F14.out.trans r1)
  have E15 := Lib.hid (E14.out.trans r1)
  clear r1 O14 F14 E14 E12
  go_wp2_with fail
  refine (wout_any w5.heap.size v8 (pl m 8) _ (V10.out.keep E15.out (fun x => x) (fun _ _ x => x)) (by rw [HN.out]; omega)).mono ?_
  rintro e w16 ⟨rfl, r1, r2⟩
  have O16 := Lib.hid r1
  have F16 := Lib.hid (F15.out.trans r2)
  clear r1 r2 F15 E15
  go_wp2_with fail
  refine (lput_any m 8 w16 hm).mono ?_
  rintro e w17 ⟨q17, rfl, r1, r2, r3⟩
  have P17 := Lib.hid r1
  have O17 := Lib.hid (O16.out.fr r3 (fun _ x => x))
  have F17 := Lib.hid (F16.out.trans r3)
  clear r1 r2 r3 O16 F16
  go_wp2_with fail
  refine (eqBytes_true w15.heap.size q17 _ _ _ _ _ _ _ _ w17 O17.out P17.out rfl).mono ?_
  rintro e w18 ⟨rfl, r1⟩
  have F18 := Lib.hid (F17.out.trans r1)
  clear r1
  go_wp2_with fail
  go_ret
  exact ⟨rfl, F18.out⟩
end Go.Proofs.Ytkkicekhkidhjaa
