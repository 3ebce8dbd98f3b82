/- The law's helper 'eats': a reader takes all these bytes off. Conditions: the bytes are those of a number, bytes, or octets, and no more than a machine has. -/
import Derived.Test.YtkkicekhkidhjaaOwn
namespace Go.Proofs.Ytkkicekhkidhjaa
set_option linter.unusedSimpArgs false
set_option linter.unusedVariables false
open Go.RowKit

set_option maxHeartbeats 2000000 in
theorem eats_0 (g : Nat) (A : Option Addr) (n c : Nat) (l : List Int) (w : World) (hs : Sl w g (.slice A n c) l) (h1 : 1 ≤ n) (h8 : n ≤ 8) (hx : num l ≤ 9223372036854775807) :
    Calls Try.prog 38 #[.slice A n c, .int .i64 0, .int .i64 n] w fun e w' => e = .returned (.bool true) ∧ Fr (fun _ => False) w w' := by
  have HS := Lib.hid hs
  have HN := Lib.hid hs.len
  have HX := Lib.hid hx
  clear hx
  clear hs
  go_enter Try.func38, Try.ntmps38
  go_wp2_with fail
  refine (copyBytes_any g A n c l w HS.out (by omega)).mono ?_
  rintro e w1 ⟨A1, c1, rfl, r1, r2, r3⟩
  have O1 := Lib.hid r1
  have N1 := Lib.hid r2
  have F1 := Lib.hid r3
  clear r1 r2 r3
  have O2 : Hid (Ow (w1.alloc (.cells #[.int .u8 1, .int .u8 2, .int .u8 3] 5)) (.slice A1 n c1) l) := O1.out.keep ((Fr.refl (fun _ => False) w1).alloc _) (fun _ _ x => x)
  have L2 : Hid (Sl (w1.alloc (.cells #[.int .u8 1, .int .u8 2, .int .u8 3] 5)) w1.heap.size (.slice (some ⟨w1.heap.size, 0, none⟩) 3 3) [1, 2, 3]) := Sl.lit w1 [1, 2, 3] (Bys.of_all (by decide)) (by decide) #[.int .u8 1, .int .u8 2, .int .u8 3] rfl
  go_wp2_with (at_builtin; refine wpList_own rfl (.tmp 10) (.tmp 11) rfl O2.out rfl rfl L2.out (by rw [HN.out]; omega) ?_; intro A2 N2 c2 w2 hap hN2; have HN2 := Lib.hid hN2; clear hN2)
  have hN3 : N2 = n + 3 := by rw [HN2.out, List.length_append, HN.out]; rfl
  have F2 : Hid (Fr (fun _ => False) w w2) := ((F1.out.alloc _).grown hap.grown (fun k hk => .inr (N1.out k hk)))
  have S2 : Hid (Sl w2 _ (.slice A2 N2 c2) (l ++ [1, 2, 3])) := hap.own.sl
  have hN4 : N2 ≤ 140737488355328 := by omega
  clear hap hN3
  refine (new_any _ _ _ _ (l ++ [1, 2, 3]) _ S2.out hN4).mono ?_
  rintro e w3 ⟨p, q, rfl, r1, r2, r3, r4⟩
  have R3 : Hid (Read w p q (l ++ [1, 2, 3]) w3) := ⟨r1, F2.out.trans r4, Nat.le_trans F2.out.size r2, Nat.le_trans F2.out.size r3⟩
  clear r1 r2 r3 r4 F2 S2
  go_wp2_with fail
  refine (get_ok p q _ n w3 R3.out.rd h1 h8 (by rw [List.length_append, HN.out]; omega) (fun e => ?_)).mono ?_
  · have h := (num_eight l HS.out.1 (by rw [HN.out]; exact e)).1 HX.out
    match l, HN.out with
    | [], h0 => rw [List.length_nil] at h0; omega
    | a :: l, _ => exact h
  rintro e w4 ⟨rfl, r1, r2⟩
  have R4 : Hid (Read w p q [1, 2, 3] w4) := R3.out.step (by rwa [List.drop_append_of_le_length (by rw [HN.out]; exact Nat.le_refl _), List.drop_of_length_le (by rw [HN.out]; exact Nat.le_refl _), List.nil_append] at r1) r2
  clear r1 r2 R3
  go_wp2_with fail
  refine (left_any p q [1, 2, 3] _ R4.out.rd).mono ?_
  rintro e w5 ⟨rfl, rfl⟩
  go_wp2_with fail
  go_ret
  exact ⟨rfl, R4.out.fr⟩

set_option maxHeartbeats 2000000 in
theorem eats_1 (g : Nat) (A : Option Addr) (n c : Nat) (l : List Int) (w : World) (hs : Sl w g (.slice A n c) l) (hb : n ≤ 140737488355000) :
    Calls Try.prog 38 #[.slice A n c, .int .i64 1, .int .i64 n] w fun e w' => e = .returned (.bool true) ∧ Fr (fun _ => False) w w' := by
  have HS := Lib.hid hs
  have HN := Lib.hid hs.len
  clear hs
  go_enter Try.func38, Try.ntmps38
  go_wp2_with fail
  refine (copyBytes_any g A n c l w HS.out (by omega)).mono ?_
  rintro e w1 ⟨A1, c1, rfl, r1, r2, r3⟩
  have O1 := Lib.hid r1
  have N1 := Lib.hid r2
  have F1 := Lib.hid r3
  clear r1 r2 r3
  have O2 : Hid (Ow (w1.alloc (.cells #[.int .u8 1, .int .u8 2, .int .u8 3] 5)) (.slice A1 n c1) l) := O1.out.keep ((Fr.refl (fun _ => False) w1).alloc _) (fun _ _ x => x)
  have L2 : Hid (Sl (w1.alloc (.cells #[.int .u8 1, .int .u8 2, .int .u8 3] 5)) w1.heap.size (.slice (some ⟨w1.heap.size, 0, none⟩) 3 3) [1, 2, 3]) := Sl.lit w1 [1, 2, 3] (Bys.of_all (by decide)) (by decide) #[.int .u8 1, .int .u8 2, .int .u8 3] rfl
  go_wp2_with (at_builtin; refine wpList_own rfl (.tmp 10) (.tmp 11) rfl O2.out rfl rfl L2.out (by rw [HN.out]; omega) ?_; intro A2 N2 c2 w2 hap hN2; have HN2 := Lib.hid hN2; clear hN2)
  have hN3 : N2 = n + 3 := by rw [HN2.out, List.length_append, HN.out]; rfl
  have F2 : Hid (Fr (fun _ => False) w w2) := ((F1.out.alloc _).grown hap.grown (fun k hk => .inr (N1.out k hk)))
  have S2 : Hid (Sl w2 _ (.slice A2 N2 c2) (l ++ [1, 2, 3])) := hap.own.sl
  have hN4 : N2 ≤ 140737488355328 := by omega
  clear hap hN3
  refine (new_any _ _ _ _ (l ++ [1, 2, 3]) _ S2.out hN4).mono ?_
  rintro e w3 ⟨p, q, rfl, r1, r2, r3, r4⟩
  have R3 : Hid (Read w p q (l ++ [1, 2, 3]) w3) := ⟨r1, F2.out.trans r4, Nat.le_trans F2.out.size r2, Nat.le_trans F2.out.size r3⟩
  clear r1 r2 r3 r4 F2 S2
  go_wp2_with fail
  refine (rbytes_ok p q _ n w3 R3.out.rd (by rw [List.length_append, HN.out]; omega) (by rw [List.length_append, HN.out]; show n + 3 ≤ _; omega)).mono ?_
  rintro e w4 ⟨q4, rfl, _, _, r1, r2⟩
  have R4 : Hid (Read w p q [1, 2, 3] w4) := R3.out.step (by rwa [List.drop_append_of_le_length (by rw [HN.out]; exact Nat.le_refl _), List.drop_of_length_le (by rw [HN.out]; exact Nat.le_refl _), List.nil_append] at r1) r2
  clear r1 r2 R3
  go_wp2_with fail
  refine (left_any p q [1, 2, 3] _ R4.out.rd).mono ?_
  rintro e w5 ⟨rfl, rfl⟩
  go_wp2_with fail
  go_ret
  exact ⟨rfl, R4.out.fr⟩

set_option maxHeartbeats 2000000 in
theorem eats_2 (g : Nat) (A : Option Addr) (n c : Nat) (l : List Int) (d : List Int) (M : Nat) (w : World) (hs : Sl w g (.slice A n c) l) (hl : l = beN M 2 ++ d) (hd : d.length = M) (hM : M ≤ 65535) :
    Calls Try.prog 38 #[.slice A n c, .int .i64 2, .int .i64 ((M : Int) + 2)] w fun e w' => e = .returned (.bool true) ∧ Fr (fun _ => False) w w' := by
  have HS := Lib.hid hs
  have HN := Lib.hid hs.len
  have HL := Lib.hid hl
  have HD := Lib.hid hd
  have hn2 : n = M + 2 := by
    have h := hs.len
    rw [hl, List.length_append, hd, beN_length _ _ (by decide)] at h
    omega
  have hb : n ≤ 140737488355000 := by omega
  clear hl hd hn2
  clear hs
  go_enter Try.func38, Try.ntmps38
  go_wp2_with fail
  refine (copyBytes_any g A n c l w HS.out (by omega)).mono ?_
  rintro e w1 ⟨A1, c1, rfl, r1, r2, r3⟩
  have O1 := Lib.hid r1
  have N1 := Lib.hid r2
  have F1 := Lib.hid r3
  clear r1 r2 r3
  have O2 : Hid (Ow (w1.alloc (.cells #[.int .u8 1, .int .u8 2, .int .u8 3] 5)) (.slice A1 n c1) l) := O1.out.keep ((Fr.refl (fun _ => False) w1).alloc _) (fun _ _ x => x)
  have L2 : Hid (Sl (w1.alloc (.cells #[.int .u8 1, .int .u8 2, .int .u8 3] 5)) w1.heap.size (.slice (some ⟨w1.heap.size, 0, none⟩) 3 3) [1, 2, 3]) := Sl.lit w1 [1, 2, 3] (Bys.of_all (by decide)) (by decide) #[.int .u8 1, .int .u8 2, .int .u8 3] rfl
  go_wp2_with (at_builtin; refine wpList_own rfl (.tmp 10) (.tmp 11) rfl O2.out rfl rfl L2.out (by rw [HN.out]; omega) ?_; intro A2 N2 c2 w2 hap hN2; have HN2 := Lib.hid hN2; clear hN2)
  have hN3 : N2 = n + 3 := by rw [HN2.out, List.length_append, HN.out]; rfl
  have F2 : Hid (Fr (fun _ => False) w w2) := ((F1.out.alloc _).grown hap.grown (fun k hk => .inr (N1.out k hk)))
  have S2 : Hid (Sl w2 _ (.slice A2 N2 c2) (l ++ [1, 2, 3])) := hap.own.sl
  have hN4 : N2 ≤ 140737488355328 := by omega
  clear hap hN3
  refine (new_any _ _ _ _ (l ++ [1, 2, 3]) _ S2.out hN4).mono ?_
  rintro e w3 ⟨p, q, rfl, r1, r2, r3, r4⟩
  have R3 : Hid (Read w p q (l ++ [1, 2, 3]) w3) := ⟨r1, F2.out.trans r4, Nat.le_trans F2.out.size r2, Nat.le_trans F2.out.size r3⟩
  clear r1 r2 r3 r4 F2 S2
  go_wp2_with fail
  have hl2 : l ++ [1, 2, 3] = ((M : Int) / 256 % 256) :: ((M : Int) % 256) :: (d ++ [1, 2, 3]) := by rw [HL.out]; rfl
  have R3' : Hid (Read w p q (((M : Int) / 256 % 256) :: ((M : Int) % 256) :: (d ++ [1, 2, 3])) w3) := by
    have := R3.out
    rwa [hl2] at this
  clear hl2
  refine (roct_ok M p q _ _ _ M w3 R3'.out.rd (by simp only [num, List.foldl]; omega) (by omega) (by rw [List.length_append, HD.out]; omega) (by rw [List.length_append, HD.out]; show M + 3 ≤ _; omega) hM).mono ?_
  rintro e w4 ⟨q4, rfl, _, _, r1, r2⟩
  have R4 : Hid (Read w p q [1, 2, 3] w4) := R3'.out.step (by rwa [List.drop_append_of_le_length (by rw [HD.out]; exact Nat.le_refl _), List.drop_of_length_le (by rw [HD.out]; exact Nat.le_refl _), List.nil_append] at r1) r2
  clear r1 r2 R3 R3'
  go_wp2_with fail
  refine (left_any p q [1, 2, 3] _ R4.out.rd).mono ?_
  rintro e w5 ⟨rfl, rfl⟩
  go_wp2_with fail
  go_ret
  exact ⟨rfl, R4.out.fr⟩
end Go.Proofs.Ytkkicekhkidhjaa
