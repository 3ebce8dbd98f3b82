/- The walk of WireHolds: whatever the bytes and the other number, the law answers true and turns nothing that was there. -/
import Derived.Test.YtkkicekhkidhjaaGet
namespace Go.Proofs.Ytkkicekhkidhjaa
open Go.RowKit

theorem get_whole (p g : Nat) (l : List Int) (k : Nat) (N : Int) (w : World) (h : Rd w p g l) (h1 : 1 ≤ k) (h8 : k ≤ 8) (hl : l.length = k) (hx : N ≤ 9223372036854775807) (hN : num l = N) :
    Calls Try.prog 28 #[.pointer (some ⟨p, 0, none⟩), .int .i64 k] w fun e w' => e = .returned (.tuple #[.int .i64 N, .int .i64 0]) ∧ Rd w' p g [] ∧ Fr (· = p) w w' := by
  have hb : Bys l := by obtain ⟨v, _, h2, _⟩ := h; exact h2.1
  subst hl
  have := get_ok p g l l.length w h h1 h8 (Nat.le_refl _) (fun e => (num_eight l hb e).1 (by rw [hN]; exact hx))
  rw [List.take_length, List.drop_length, hN] at this
  exact this

/-- Against the bytes of N: just N's are. -/
theorem put_eq (q g : Nat) (A : Option Addr) (c k : Nat) (n N : Int) (w : World) (l : List Int) (h1 : w.heap[q]? = some (.cells (bs (pl n k)).toArray 5 (0, 0))) (M : Nat) (hM : (pl n k).length = M) (h2 : Sl w g (.slice A k c) l) (hl : l = beN N k) (hk1 : 1 ≤ k) (hk8 : k ≤ 8)
    (hN0 : 0 ≤ N) (hN1 : N ≤ 9223372036854775807) (hNf : N < (256 : Int) ^ k) (hn : n ≤ 9223372036854775807) (r : Bool) (hr : (n = N) = (r = true)) :
    Calls Try.prog 22 #[.slice (some ⟨q, 0, none⟩) M M, .slice A k c] w fun e w' => e = .returned (.bool r) ∧ Fr (fun _ => False) w w' := by
  have hb : Bys (pl n k) := by
    by_cases h : putE n k = 0
    · unfold pl
      rw [if_pos h]
      refine beN_bys _ _ ?_ hn
      rcases Int.lt_or_le n 0 with h' | h'
      · rw [putE_no hk1 hk8 (.inl h')] at h; cases h
      · exact h'
    · unfold pl
      rw [if_neg h]
      exact Bys.nil
  have hlen := pl_length n k
  refine (eqBytes_fr q g _ _ _ _ _ _ _ _ w (Sl.whole M h1 hb hM (by simp only [maxLen]; omega)) h2).mono ?_
  rintro e w' ⟨rfl, r1⟩
  refine ⟨?_, r1⟩
  have : decide (pl n k = l) = r := by
    rw [hl]
    have hi := pl_eq_iff (n := n) hk1 hk8 hN0 hN1 hNf hn
    rcases r with _ | _
    · rw [decide_eq_false_iff_not, hi, hr]; decide
    · rw [decide_eq_true_iff, hi, hr]
  rw [this]

set_option maxHeartbeats 4000000 in
theorem holds_lt_same (A : Option Addr) (n c g : Nat) (l : List Int) (other N : Int) (w : World) (hs : Sl w g (.slice A n c) l) (h1 : 1 ≤ n) (h8 : n < 8) (ho : other ≤ 9223372036854775807) (hN : num l = N) (hm : N ≤ 9223372036854775807) (hother : other = N) :
    Calls Try.prog 6 #[.slice A n c, .int .i64 other] w fun e w' => e = .returned (.bool true) ∧ Fr (fun _ => False) w w' := by
  have hcap := hs.cap
  unfold maxLen at hcap
  have hsl := slice_to A n c n (by omega)
  have hlen : (l).length = n := by exact hs.len
  have HL : Hid (Sl w g (.slice A n c) l) := by
    have := hs.take n (by rw [hs.len]; omega)
    rwa [List.take_of_length_le (by omega)] at this
  have hb : Bys l := HL.out.1
  have g0 : 0 ≤ N := by rw [← hN]; exact num_nonneg _ hb
  have hlt : N < (256 : Int) ^ n := by have := num_lt _ hb; rwa [hlen, hN] at this
  have hbe : beN N n = l := by have := (beN_num _ hb (by omega) (by omega)).1; rwa [hlen, hN] at this
  have HN := Lib.hid hN
  have HLEN := Lib.hid hlen
  have HLT := Lib.hid hlt
  have HBE := Lib.hid hbe
  have d1 : ((n : Int) == 0) = false := by simp; omega
  have d2 : ((n : Int) == 8) = false := by simp; omega
  subst hother
  have dN : (other == other) = true := by simp
  clear hs hN hlen hb hlt hbe
  go_enter Try.func6, Try.ntmps6
  go_wp2_with fail
  refine (works_any _).mono ?_
  rintro e w1 ⟨rfl, r1⟩
  have F1 := Lib.hid r1
  clear r1
  go_wp2_with fail
  refine (new_any g _ n c l w1 (HL.out.fr F1.out (fun _ x => x)) (by omega)).mono ?_
  rintro e w2 ⟨p, q, rfl, r1, r2, r3, r4⟩
  have R2 : Hid (Read w p q l w2) := ⟨r1, F1.out.trans r4, Nat.le_trans F1.out.size r2, Nat.le_trans F1.out.size r3⟩
  clear r1 r2 r3 r4 F1
  go_wp2_with fail
  refine (get_whole p q l n other w2 R2.out.rd (by omega) (by omega) HLEN.out hm HN.out).mono ?_
  rintro e w3 ⟨rfl, r1, r2⟩
  have R3 : Hid (Read w p q [] w3) := R2.out.step r1 r2
  clear r1 r2 R2
  go_wp2_with fail
  refine (end_any p q [] _ R3.out.rd).mono ?_
  rintro e w4 ⟨rfl, rfl⟩
  go_wp2_with fail
  refine (lput_whole other n n _ _ hm (pl_ok (k := n) (by omega) (by omega) g0 (fun _ => HLT.out)) (beN_length _ _ (by omega))).mono ?_
  rintro e w5 ⟨q5, rfl, r1, r2, r3⟩
  have F5 : Hid (Fr (fun _ => False) w w5) := R3.out.fr.trans r3
  have B5 : Hid (w5.heap[q5]? = some (.cells (bs (pl other (n : Nat))).toArray 5 (0, 0))) := by
    show _ = _
    rw [r1, pl_ok (k := n) (by omega) (by omega) g0 (fun _ => HLT.out)]
  clear r1 r2 r3
  go_wp2_with fail
  refine (put_eq q5 g _ c n other other w5 _ B5.out n (by rw [pl_ok (k := n) (by omega) (by omega) g0 (fun _ => HLT.out)]; exact beN_length _ _ (by omega)) (HL.out.fr F5.out (fun _ x => x)) HBE.out.symm (by omega) (by omega) g0 hm HLT.out hm true (by simp)).mono ?_
  rintro e w6 ⟨rfl, r1⟩
  have F6 : Hid (Fr (fun _ => False) w w6) := F5.out.trans r1
  clear r1 B5 F5
  obtain ⟨M, hM⟩ : ∃ M, (pl other (n : Nat)).length = M := ⟨_, rfl⟩
  have HM := Lib.hid hM
  clear hM
  go_wp2_with fail
  refine (lput_whole other n M _ _ ho rfl HM.out).mono ?_
  rintro e w7 ⟨q7, rfl, r1, r2, r3⟩
  have F7 : Hid (Fr (fun _ => False) w w7) := F6.out.trans r3
  have B7 := Lib.hid r1
  clear r1 r2 r3 F6
  go_wp2_with fail
  refine (put_eq q7 g _ c n other other w7 _ B7.out M HM.out (HL.out.fr F7.out (fun _ x => x)) HBE.out.symm (by omega) (by omega) g0 hm HLT.out ho true (by simp)).mono ?_
  rintro e w8 ⟨rfl, r1⟩
  have F8 : Hid (Fr (fun _ => False) w w8) := F7.out.trans r1
  clear r1 B7 F7
  go_wp2_with fail
  go_ret
  exact ⟨rfl, F8.out⟩

set_option maxHeartbeats 4000000 in
theorem holds_lt_other (A : Option Addr) (n c g : Nat) (l : List Int) (other N : Int) (w : World) (hs : Sl w g (.slice A n c) l) (h1 : 1 ≤ n) (h8 : n < 8) (ho : other ≤ 9223372036854775807) (hN : num l = N) (hm : N ≤ 9223372036854775807) (hother : other ≠ N) :
    Calls Try.prog 6 #[.slice A n c, .int .i64 other] w fun e w' => e = .returned (.bool true) ∧ Fr (fun _ => False) w w' := by
  have hcap := hs.cap
  unfold maxLen at hcap
  have hsl := slice_to A n c n (by omega)
  have hlen : (l).length = n := by exact hs.len
  have HL : Hid (Sl w g (.slice A n c) l) := by
    have := hs.take n (by rw [hs.len]; omega)
    rwa [List.take_of_length_le (by omega)] at this
  have hb : Bys l := HL.out.1
  have g0 : 0 ≤ N := by rw [← hN]; exact num_nonneg _ hb
  have hlt : N < (256 : Int) ^ n := by have := num_lt _ hb; rwa [hlen, hN] at this
  have hbe : beN N n = l := by have := (beN_num _ hb (by omega) (by omega)).1; rwa [hlen, hN] at this
  have HN := Lib.hid hN
  have HLEN := Lib.hid hlen
  have HLT := Lib.hid hlt
  have HBE := Lib.hid hbe
  have d1 : ((n : Int) == 0) = false := by simp; omega
  have d2 : ((n : Int) == 8) = false := by simp; omega
  have dN : (other == N) = false := by simp [hother]
  have HO := Lib.hid hother
  clear hother
  clear hs hN hlen hb hlt hbe
  go_enter Try.func6, Try.ntmps6
  go_wp2_with fail
  refine (works_any _).mono ?_
  rintro e w1 ⟨rfl, r1⟩
  have F1 := Lib.hid r1
  clear r1
  go_wp2_with fail
  refine (new_any g _ n c l w1 (HL.out.fr F1.out (fun _ x => x)) (by omega)).mono ?_
  rintro e w2 ⟨p, q, rfl, r1, r2, r3, r4⟩
  have R2 : Hid (Read w p q l w2) := ⟨r1, F1.out.trans r4, Nat.le_trans F1.out.size r2, Nat.le_trans F1.out.size r3⟩
  clear r1 r2 r3 r4 F1
  go_wp2_with fail
  refine (get_whole p q l n N w2 R2.out.rd (by omega) (by omega) HLEN.out hm HN.out).mono ?_
  rintro e w3 ⟨rfl, r1, r2⟩
  have R3 : Hid (Read w p q [] w3) := R2.out.step r1 r2
  clear r1 r2 R2
  go_wp2_with fail
  refine (end_any p q [] _ R3.out.rd).mono ?_
  rintro e w4 ⟨rfl, rfl⟩
  go_wp2_with fail
  refine (lput_whole N n n _ _ hm (pl_ok (k := n) (by omega) (by omega) g0 (fun _ => HLT.out)) (beN_length _ _ (by omega))).mono ?_
  rintro e w5 ⟨q5, rfl, r1, r2, r3⟩
  have F5 : Hid (Fr (fun _ => False) w w5) := R3.out.fr.trans r3
  have B5 : Hid (w5.heap[q5]? = some (.cells (bs (pl N (n : Nat))).toArray 5 (0, 0))) := by
    show _ = _
    rw [r1, pl_ok (k := n) (by omega) (by omega) g0 (fun _ => HLT.out)]
  clear r1 r2 r3
  go_wp2_with fail
  refine (put_eq q5 g _ c n N N w5 _ B5.out n (by rw [pl_ok (k := n) (by omega) (by omega) g0 (fun _ => HLT.out)]; exact beN_length _ _ (by omega)) (HL.out.fr F5.out (fun _ x => x)) HBE.out.symm (by omega) (by omega) g0 hm HLT.out hm true (by simp)).mono ?_
  rintro e w6 ⟨rfl, r1⟩
  have F6 : Hid (Fr (fun _ => False) w w6) := F5.out.trans r1
  clear r1 B5 F5
  obtain ⟨M, hM⟩ : ∃ M, (pl other (n : Nat)).length = M := ⟨_, rfl⟩
  have HM := Lib.hid hM
  clear hM
  go_wp2_with fail
  refine (lput_whole other n M _ _ ho rfl HM.out).mono ?_
  rintro e w7 ⟨q7, rfl, r1, r2, r3⟩
  have F7 : Hid (Fr (fun _ => False) w w7) := F6.out.trans r3
  have B7 := Lib.hid r1
  clear r1 r2 r3 F6
  go_wp2_with fail
  refine (put_eq q7 g _ c n other N w7 _ B7.out M HM.out (HL.out.fr F7.out (fun _ x => x)) HBE.out.symm (by omega) (by omega) g0 hm HLT.out ho false (by simp [HO.out])).mono ?_
  rintro e w8 ⟨rfl, r1⟩
  have F8 : Hid (Fr (fun _ => False) w w8) := F7.out.trans r1
  clear r1 B7 F7
  go_wp2_with fail
  go_ret
  exact ⟨rfl, F8.out⟩

set_option maxHeartbeats 4000000 in
theorem holds_gt_same (A : Option Addr) (n c g : Nat) (l : List Int) (other N : Int) (w : World) (hs : Sl w g (.slice A n c) l) (h8 : 8 < n) (ho : other ≤ 9223372036854775807) (hN : num (l.take 8) = N) (hm : N ≤ 9223372036854775807) (hother : other = N) :
    Calls Try.prog 6 #[.slice A n c, .int .i64 other] w fun e w' => e = .returned (.bool true) ∧ Fr (fun _ => False) w w' := by
  have hcap := hs.cap
  unfold maxLen at hcap
  have hsl := slice_to A n c 8 (by omega)
  have hlen : ((l.take 8)).length = 8 := by rw [List.length_take, hs.len]; omega
  have HL : Hid (Sl w g (.slice A 8 c) (l.take 8)) := by
    have := hs.take 8 (by rw [hs.len]; omega)
    exact this
  have hb : Bys (l.take 8) := HL.out.1
  have g0 : 0 ≤ N := by rw [← hN]; exact num_nonneg _ hb
  have hlt : N < (256 : Int) ^ 8 := by have := num_lt _ hb; rwa [hlen, hN] at this
  have hbe : beN N 8 = (l.take 8) := by have := (beN_num _ hb (by omega) (by omega)).1; rwa [hlen, hN] at this
  have HN := Lib.hid hN
  have HLEN := Lib.hid hlen
  have HLT := Lib.hid hlt
  have HBE := Lib.hid hbe
  obtain ⟨o, rfl, hcell⟩ := hs.at_ (by omega)
  obtain ⟨x, hx⟩ : ∃ x, x = l.getD 0 0 := ⟨_, rfl⟩
  have hc0 : w.cell? ⟨g, o, none⟩ = some (.int .u8 x) := by have := hcell 0 (by omega); rw [hx]; simpa using this
  have hgw : g < w.heap.size := World.block_lt_of_cell? _ _ hc0
  have hx2 : decide (127 < x) = false := by
    have e := (num_eight _ hb hlen).1 (by rw [hN]; exact hm)
    have e2 : (l.take 8).headD 0 = x := by
      rw [hx]
      match l, hs.len with
      | [], h0 => exfalso; rw [List.length_nil] at h0; omega
      | a :: l, _ => rfl
    rw [e2] at e
    simp; omega
  have hi0 : (0 : Int) < n := by omega
  have hi8 : (8 : Int) < n := by omega
  clear hcell hx
  subst hother
  have dN : (other == other) = true := by simp
  clear hs hN hlen hb hlt hbe
  go_enter Try.func6, Try.ntmps6
  go_wp2_with fail
  refine (works_any _).mono ?_
  rintro e w1 ⟨rfl, r1⟩
  have F1 := Lib.hid r1
  clear r1
  go_wp2_with fail
  refine (new_any g _ 8 c (l.take 8) w1 (HL.out.fr F1.out (fun _ x => x)) (by omega)).mono ?_
  rintro e w2 ⟨p, q, rfl, r1, r2, r3, r4⟩
  have R2 : Hid (Read w p q (l.take 8) w2) := ⟨r1, F1.out.trans r4, Nat.le_trans F1.out.size r2, Nat.le_trans F1.out.size r3⟩
  clear r1 r2 r3 r4 F1
  go_wp2_with fail
  refine (get_whole p q (l.take 8) 8 other w2 R2.out.rd (by omega) (by omega) HLEN.out hm HN.out).mono ?_
  rintro e w3 ⟨rfl, r1, r2⟩
  have R3 : Hid (Read w p q [] w3) := R2.out.step r1 r2
  clear r1 r2 R2
  have hc3 : w3.cell? ⟨g, o, none⟩ = some (.int .u8 x) := (World.cell?_of_block (w := w) (R3.out.fr.block g hgw (fun x => x))).trans hc0
  go_wp2_with fail
  refine (end_any p q [] _ R3.out.rd).mono ?_
  rintro e w4 ⟨rfl, rfl⟩
  go_wp2_with fail
  refine (lput_whole other 8 8 _ _ hm (pl_ok (k := 8) (by omega) (by omega) g0 (fun _ => HLT.out)) (beN_length _ _ (by omega))).mono ?_
  rintro e w5 ⟨q5, rfl, r1, r2, r3⟩
  have F5 : Hid (Fr (fun _ => False) w w5) := R3.out.fr.trans r3
  have B5 : Hid (w5.heap[q5]? = some (.cells (bs (pl other (8 : Nat))).toArray 5 (0, 0))) := by
    show _ = _
    rw [r1, pl_ok (k := 8) (by omega) (by omega) g0 (fun _ => HLT.out)]
  clear r1 r2 r3
  go_wp2_with fail
  refine (put_eq q5 g _ c 8 other other w5 _ B5.out 8 (by rw [pl_ok (k := 8) (by omega) (by omega) g0 (fun _ => HLT.out)]; exact beN_length _ _ (by omega)) (HL.out.fr F5.out (fun _ x => x)) HBE.out.symm (by omega) (by omega) g0 hm HLT.out hm true (by simp)).mono ?_
  rintro e w6 ⟨rfl, r1⟩
  have F6 : Hid (Fr (fun _ => False) w w6) := F5.out.trans r1
  clear r1 B5 F5
  obtain ⟨M, hM⟩ : ∃ M, (pl other (8 : Nat)).length = M := ⟨_, rfl⟩
  have HM := Lib.hid hM
  clear hM
  go_wp2_with fail
  refine (lput_whole other 8 M _ _ ho rfl HM.out).mono ?_
  rintro e w7 ⟨q7, rfl, r1, r2, r3⟩
  have F7 : Hid (Fr (fun _ => False) w w7) := F6.out.trans r3
  have B7 := Lib.hid r1
  clear r1 r2 r3 F6
  go_wp2_with fail
  refine (put_eq q7 g _ c 8 other other w7 _ B7.out M HM.out (HL.out.fr F7.out (fun _ x => x)) HBE.out.symm (by omega) (by omega) g0 hm HLT.out ho true (by simp)).mono ?_
  rintro e w8 ⟨rfl, r1⟩
  have F8 : Hid (Fr (fun _ => False) w w8) := F7.out.trans r1
  clear r1 B7 F7
  go_wp2_with fail
  go_ret
  exact ⟨rfl, F8.out⟩

set_option maxHeartbeats 4000000 in
theorem holds_gt_other (A : Option Addr) (n c g : Nat) (l : List Int) (other N : Int) (w : World) (hs : Sl w g (.slice A n c) l) (h8 : 8 < n) (ho : other ≤ 9223372036854775807) (hN : num (l.take 8) = N) (hm : N ≤ 9223372036854775807) (hother : other ≠ N) :
    Calls Try.prog 6 #[.slice A n c, .int .i64 other] w fun e w' => e = .returned (.bool true) ∧ Fr (fun _ => False) w w' := by
  have hcap := hs.cap
  unfold maxLen at hcap
  have hsl := slice_to A n c 8 (by omega)
  have hlen : ((l.take 8)).length = 8 := by rw [List.length_take, hs.len]; omega
  have HL : Hid (Sl w g (.slice A 8 c) (l.take 8)) := by
    have := hs.take 8 (by rw [hs.len]; omega)
    exact this
  have hb : Bys (l.take 8) := HL.out.1
  have g0 : 0 ≤ N := by rw [← hN]; exact num_nonneg _ hb
  have hlt : N < (256 : Int) ^ 8 := by have := num_lt _ hb; rwa [hlen, hN] at this
  have hbe : beN N 8 = (l.take 8) := by have := (beN_num _ hb (by omega) (by omega)).1; rwa [hlen, hN] at this
  have HN := Lib.hid hN
  have HLEN := Lib.hid hlen
  have HLT := Lib.hid hlt
  have HBE := Lib.hid hbe
  obtain ⟨o, rfl, hcell⟩ := hs.at_ (by omega)
  obtain ⟨x, hx⟩ : ∃ x, x = l.getD 0 0 := ⟨_, rfl⟩
  have hc0 : w.cell? ⟨g, o, none⟩ = some (.int .u8 x) := by have := hcell 0 (by omega); rw [hx]; simpa using this
  have hgw : g < w.heap.size := World.block_lt_of_cell? _ _ hc0
  have hx2 : decide (127 < x) = false := by
    have e := (num_eight _ hb hlen).1 (by rw [hN]; exact hm)
    have e2 : (l.take 8).headD 0 = x := by
      rw [hx]
      match l, hs.len with
      | [], h0 => exfalso; rw [List.length_nil] at h0; omega
      | a :: l, _ => rfl
    rw [e2] at e
    simp; omega
  have hi0 : (0 : Int) < n := by omega
  have hi8 : (8 : Int) < n := by omega
  clear hcell hx
  have dN : (other == N) = false := by simp [hother]
  have HO := Lib.hid hother
  clear hother
  clear hs hN hlen hb hlt hbe
  go_enter Try.func6, Try.ntmps6
  go_wp2_with fail
  refine (works_any _).mono ?_
  rintro e w1 ⟨rfl, r1⟩
  have F1 := Lib.hid r1
  clear r1
  go_wp2_with fail
  refine (new_any g _ 8 c (l.take 8) w1 (HL.out.fr F1.out (fun _ x => x)) (by omega)).mono ?_
  rintro e w2 ⟨p, q, rfl, r1, r2, r3, r4⟩
  have R2 : Hid (Read w p q (l.take 8) w2) := ⟨r1, F1.out.trans r4, Nat.le_trans F1.out.size r2, Nat.le_trans F1.out.size r3⟩
  clear r1 r2 r3 r4 F1
  go_wp2_with fail
  refine (get_whole p q (l.take 8) 8 N w2 R2.out.rd (by omega) (by omega) HLEN.out hm HN.out).mono ?_
  rintro e w3 ⟨rfl, r1, r2⟩
  have R3 : Hid (Read w p q [] w3) := R2.out.step r1 r2
  clear r1 r2 R2
  have hc3 : w3.cell? ⟨g, o, none⟩ = some (.int .u8 x) := (World.cell?_of_block (w := w) (R3.out.fr.block g hgw (fun x => x))).trans hc0
  go_wp2_with fail
  refine (end_any p q [] _ R3.out.rd).mono ?_
  rintro e w4 ⟨rfl, rfl⟩
  go_wp2_with fail
  refine (lput_whole N 8 8 _ _ hm (pl_ok (k := 8) (by omega) (by omega) g0 (fun _ => HLT.out)) (beN_length _ _ (by omega))).mono ?_
  rintro e w5 ⟨q5, rfl, r1, r2, r3⟩
  have F5 : Hid (Fr (fun _ => False) w w5) := R3.out.fr.trans r3
  have B5 : Hid (w5.heap[q5]? = some (.cells (bs (pl N (8 : Nat))).toArray 5 (0, 0))) := by
    show _ = _
    rw [r1, pl_ok (k := 8) (by omega) (by omega) g0 (fun _ => HLT.out)]
  clear r1 r2 r3
  go_wp2_with fail
  refine (put_eq q5 g _ c 8 N N w5 _ B5.out 8 (by rw [pl_ok (k := 8) (by omega) (by omega) g0 (fun _ => HLT.out)]; exact beN_length _ _ (by omega)) (HL.out.fr F5.out (fun _ x => x)) HBE.out.symm (by omega) (by omega) g0 hm HLT.out hm true (by simp)).mono ?_
  rintro e w6 ⟨rfl, r1⟩
  have F6 : Hid (Fr (fun _ => False) w w6) := F5.out.trans r1
  clear r1 B5 F5
  obtain ⟨M, hM⟩ : ∃ M, (pl other (8 : Nat)).length = M := ⟨_, rfl⟩
  have HM := Lib.hid hM
  clear hM
  go_wp2_with fail
  refine (lput_whole other 8 M _ _ ho rfl HM.out).mono ?_
  rintro e w7 ⟨q7, rfl, r1, r2, r3⟩
  have F7 : Hid (Fr (fun _ => False) w w7) := F6.out.trans r3
  have B7 := Lib.hid r1
  clear r1 r2 r3 F6
  go_wp2_with fail
  refine (put_eq q7 g _ c 8 other N w7 _ B7.out M HM.out (HL.out.fr F7.out (fun _ x => x)) HBE.out.symm (by omega) (by omega) g0 hm HLT.out ho false (by simp [HO.out])).mono ?_
  rintro e w8 ⟨rfl, r1⟩
  have F8 : Hid (Fr (fun _ => False) w w8) := F7.out.trans r1
  clear r1 B7 F7
  go_wp2_with fail
  go_ret
  exact ⟨rfl, F8.out⟩

set_option maxHeartbeats 4000000 in
theorem holds_8_same (A : Option Addr) (c g : Nat) (l : List Int) (other N : Int) (w : World) (hs : Sl w g (.slice A 8 c) l) (ho : other ≤ 9223372036854775807) (hN : num (l.take 8) = N) (hm : N ≤ 9223372036854775807) (hother : other = N) :
    Calls Try.prog 6 #[.slice A 8 c, .int .i64 other] w fun e w' => e = .returned (.bool true) ∧ Fr (fun _ => False) w w' := by
  have hcap := hs.cap
  unfold maxLen at hcap
  have hsl := slice_to A 8 c 8 (by omega)
  have hlen : ((l.take 8)).length = 8 := by rw [List.length_take, hs.len]; omega
  have HL : Hid (Sl w g (.slice A 8 c) (l.take 8)) := by
    have := hs.take 8 (by rw [hs.len]; omega)
    exact this
  have hb : Bys (l.take 8) := HL.out.1
  have g0 : 0 ≤ N := by rw [← hN]; exact num_nonneg _ hb
  have hlt : N < (256 : Int) ^ 8 := by have := num_lt _ hb; rwa [hlen, hN] at this
  have hbe : beN N 8 = (l.take 8) := by have := (beN_num _ hb (by omega) (by omega)).1; rwa [hlen, hN] at this
  have HN := Lib.hid hN
  have HLEN := Lib.hid hlen
  have HLT := Lib.hid hlt
  have HBE := Lib.hid hbe
  obtain ⟨o, rfl, hcell⟩ := hs.at_ (by omega)
  obtain ⟨x, hx⟩ : ∃ x, x = l.getD 0 0 := ⟨_, rfl⟩
  have hc0 : w.cell? ⟨g, o, none⟩ = some (.int .u8 x) := by have := hcell 0 (by omega); rw [hx]; simpa using this
  have hgw : g < w.heap.size := World.block_lt_of_cell? _ _ hc0
  have hx2 : decide (127 < x) = false := by
    have e := (num_eight _ hb hlen).1 (by rw [hN]; exact hm)
    have e2 : (l.take 8).headD 0 = x := by
      rw [hx]
      match l, hs.len with
      | [], h0 => exfalso; rw [List.length_nil] at h0; omega
      | a :: l, _ => rfl
    rw [e2] at e
    simp; omega
  clear hcell hx
  subst hother
  have dN : (other == other) = true := by simp
  clear hs hN hlen hb hlt hbe
  go_enter Try.func6, Try.ntmps6
  go_wp2_with fail
  refine (works_any _).mono ?_
  rintro e w1 ⟨rfl, r1⟩
  have F1 := Lib.hid r1
  clear r1
  go_wp2_with fail
  refine (new_any g _ 8 c (l.take 8) w1 (HL.out.fr F1.out (fun _ x => x)) (by omega)).mono ?_
  rintro e w2 ⟨p, q, rfl, r1, r2, r3, r4⟩
  have R2 : Hid (Read w p q (l.take 8) w2) := ⟨r1, F1.out.trans r4, Nat.le_trans F1.out.size r2, Nat.le_trans F1.out.size r3⟩
  clear r1 r2 r3 r4 F1
  go_wp2_with fail
  refine (get_whole p q (l.take 8) 8 other w2 R2.out.rd (by omega) (by omega) HLEN.out hm HN.out).mono ?_
  rintro e w3 ⟨rfl, r1, r2⟩
  have R3 : Hid (Read w p q [] w3) := R2.out.step r1 r2
  clear r1 r2 R2
  have hc3 : w3.cell? ⟨g, o, none⟩ = some (.int .u8 x) := (World.cell?_of_block (w := w) (R3.out.fr.block g hgw (fun x => x))).trans hc0
  go_wp2_with fail
  refine (end_any p q [] _ R3.out.rd).mono ?_
  rintro e w4 ⟨rfl, rfl⟩
  go_wp2_with fail
  refine (lput_whole other 8 8 _ _ hm (pl_ok (k := 8) (by omega) (by omega) g0 (fun _ => HLT.out)) (beN_length _ _ (by omega))).mono ?_
  rintro e w5 ⟨q5, rfl, r1, r2, r3⟩
  have F5 : Hid (Fr (fun _ => False) w w5) := R3.out.fr.trans r3
  have B5 : Hid (w5.heap[q5]? = some (.cells (bs (pl other (8 : Nat))).toArray 5 (0, 0))) := by
    show _ = _
    rw [r1, pl_ok (k := 8) (by omega) (by omega) g0 (fun _ => HLT.out)]
  clear r1 r2 r3
  go_wp2_with fail
  refine (put_eq q5 g _ c 8 other other w5 _ B5.out 8 (by rw [pl_ok (k := 8) (by omega) (by omega) g0 (fun _ => HLT.out)]; exact beN_length _ _ (by omega)) (HL.out.fr F5.out (fun _ x => x)) HBE.out.symm (by omega) (by omega) g0 hm HLT.out hm true (by simp)).mono ?_
  rintro e w6 ⟨rfl, r1⟩
  have F6 : Hid (Fr (fun _ => False) w w6) := F5.out.trans r1
  clear r1 B5 F5
  obtain ⟨M, hM⟩ : ∃ M, (pl other (8 : Nat)).length = M := ⟨_, rfl⟩
  have HM := Lib.hid hM
  clear hM
  go_wp2_with fail
  refine (lput_whole other 8 M _ _ ho rfl HM.out).mono ?_
  rintro e w7 ⟨q7, rfl, r1, r2, r3⟩
  have F7 : Hid (Fr (fun _ => False) w w7) := F6.out.trans r3
  have B7 := Lib.hid r1
  clear r1 r2 r3 F6
  go_wp2_with fail
  refine (put_eq q7 g _ c 8 other other w7 _ B7.out M HM.out (HL.out.fr F7.out (fun _ x => x)) HBE.out.symm (by omega) (by omega) g0 hm HLT.out ho true (by simp)).mono ?_
  rintro e w8 ⟨rfl, r1⟩
  have F8 : Hid (Fr (fun _ => False) w w8) := F7.out.trans r1
  clear r1 B7 F7
  go_wp2_with fail
  go_ret
  exact ⟨rfl, F8.out⟩

set_option maxHeartbeats 4000000 in
theorem holds_8_other (A : Option Addr) (c g : Nat) (l : List Int) (other N : Int) (w : World) (hs : Sl w g (.slice A 8 c) l) (ho : other ≤ 9223372036854775807) (hN : num (l.take 8) = N) (hm : N ≤ 9223372036854775807) (hother : other ≠ N) :
    Calls Try.prog 6 #[.slice A 8 c, .int .i64 other] w fun e w' => e = .returned (.bool true) ∧ Fr (fun _ => False) w w' := by
  have hcap := hs.cap
  unfold maxLen at hcap
  have hsl := slice_to A 8 c 8 (by omega)
  have hlen : ((l.take 8)).length = 8 := by rw [List.length_take, hs.len]; omega
  have HL : Hid (Sl w g (.slice A 8 c) (l.take 8)) := by
    have := hs.take 8 (by rw [hs.len]; omega)
    exact this
  have hb : Bys (l.take 8) := HL.out.1
  have g0 : 0 ≤ N := by rw [← hN]; exact num_nonneg _ hb
  have hlt : N < (256 : Int) ^ 8 := by have := num_lt _ hb; rwa [hlen, hN] at this
  have hbe : beN N 8 = (l.take 8) := by have := (beN_num _ hb (by omega) (by omega)).1; rwa [hlen, hN] at this
  have HN := Lib.hid hN
  have HLEN := Lib.hid hlen
  have HLT := Lib.hid hlt
  have HBE := Lib.hid hbe
  obtain ⟨o, rfl, hcell⟩ := hs.at_ (by omega)
  obtain ⟨x, hx⟩ : ∃ x, x = l.getD 0 0 := ⟨_, rfl⟩
  have hc0 : w.cell? ⟨g, o, none⟩ = some (.int .u8 x) := by have := hcell 0 (by omega); rw [hx]; simpa using this
  have hgw : g < w.heap.size := World.block_lt_of_cell? _ _ hc0
  have hx2 : decide (127 < x) = false := by
    have e := (num_eight _ hb hlen).1 (by rw [hN]; exact hm)
    have e2 : (l.take 8).headD 0 = x := by
      rw [hx]
      match l, hs.len with
      | [], h0 => exfalso; rw [List.length_nil] at h0; omega
      | a :: l, _ => rfl
    rw [e2] at e
    simp; omega
  clear hcell hx
  have dN : (other == N) = false := by simp [hother]
  have HO := Lib.hid hother
  clear hother
  clear hs hN hlen hb hlt hbe
  go_enter Try.func6, Try.ntmps6
  go_wp2_with fail
  refine (works_any _).mono ?_
  rintro e w1 ⟨rfl, r1⟩
  have F1 := Lib.hid r1
  clear r1
  go_wp2_with fail
  refine (new_any g _ 8 c (l.take 8) w1 (HL.out.fr F1.out (fun _ x => x)) (by omega)).mono ?_
  rintro e w2 ⟨p, q, rfl, r1, r2, r3, r4⟩
  have R2 : Hid (Read w p q (l.take 8) w2) := ⟨r1, F1.out.trans r4, Nat.le_trans F1.out.size r2, Nat.le_trans F1.out.size r3⟩
  clear r1 r2 r3 r4 F1
  go_wp2_with fail
  refine (get_whole p q (l.take 8) 8 N w2 R2.out.rd (by omega) (by omega) HLEN.out hm HN.out).mono ?_
  rintro e w3 ⟨rfl, r1, r2⟩
  have R3 : Hid (Read w p q [] w3) := R2.out.step r1 r2
  clear r1 r2 R2
  have hc3 : w3.cell? ⟨g, o, none⟩ = some (.int .u8 x) := (World.cell?_of_block (w := w) (R3.out.fr.block g hgw (fun x => x))).trans hc0
  go_wp2_with fail
  refine (end_any p q [] _ R3.out.rd).mono ?_
  rintro e w4 ⟨rfl, rfl⟩
  go_wp2_with fail
  refine (lput_whole N 8 8 _ _ hm (pl_ok (k := 8) (by omega) (by omega) g0 (fun _ => HLT.out)) (beN_length _ _ (by omega))).mono ?_
  rintro e w5 ⟨q5, rfl, r1, r2, r3⟩
  have F5 : Hid (Fr (fun _ => False) w w5) := R3.out.fr.trans r3
  have B5 : Hid (w5.heap[q5]? = some (.cells (bs (pl N (8 : Nat))).toArray 5 (0, 0))) := by
    show _ = _
    rw [r1, pl_ok (k := 8) (by omega) (by omega) g0 (fun _ => HLT.out)]
  clear r1 r2 r3
  go_wp2_with fail
  refine (put_eq q5 g _ c 8 N N w5 _ B5.out 8 (by rw [pl_ok (k := 8) (by omega) (by omega) g0 (fun _ => HLT.out)]; exact beN_length _ _ (by omega)) (HL.out.fr F5.out (fun _ x => x)) HBE.out.symm (by omega) (by omega) g0 hm HLT.out hm true (by simp)).mono ?_
  rintro e w6 ⟨rfl, r1⟩
  have F6 : Hid (Fr (fun _ => False) w w6) := F5.out.trans r1
  clear r1 B5 F5
  obtain ⟨M, hM⟩ : ∃ M, (pl other (8 : Nat)).length = M := ⟨_, rfl⟩
  have HM := Lib.hid hM
  clear hM
  go_wp2_with fail
  refine (lput_whole other 8 M _ _ ho rfl HM.out).mono ?_
  rintro e w7 ⟨q7, rfl, r1, r2, r3⟩
  have F7 : Hid (Fr (fun _ => False) w w7) := F6.out.trans r3
  have B7 := Lib.hid r1
  clear r1 r2 r3 F6
  go_wp2_with fail
  refine (put_eq q7 g _ c 8 other N w7 _ B7.out M HM.out (HL.out.fr F7.out (fun _ x => x)) HBE.out.symm (by omega) (by omega) g0 hm HLT.out ho false (by simp [HO.out])).mono ?_
  rintro e w8 ⟨rfl, r1⟩
  have F8 : Hid (Fr (fun _ => False) w w8) := F7.out.trans r1
  clear r1 B7 F7
  go_wp2_with fail
  go_ret
  exact ⟨rfl, F8.out⟩

set_option maxHeartbeats 4000000 in
theorem holds_gt_hi (A : Option Addr) (n c g : Nat) (l : List Int) (other : Int) (w : World) (hs : Sl w g (.slice A n c) l) (h8 : 8 < n) (hm : 9223372036854775807 < num (l.take 8)) :
    Calls Try.prog 6 #[.slice A n c, .int .i64 other] w fun e w' => e = .returned (.bool true) ∧ Fr (fun _ => False) w w' := by
  have hcap := hs.cap
  unfold maxLen at hcap
  have hsl := slice_to A n c 8 (by omega)
  have hlen : (l.take 8).length = 8 := by rw [List.length_take, hs.len]; omega
  have HL : Hid (Sl w g (.slice A 8 c) (l.take 8)) := hs.take 8 (by rw [hs.len]; omega)
  have hb : Bys (l.take 8) := HL.out.1
  obtain ⟨o, rfl, hcell⟩ := hs.at_ (by omega)
  obtain ⟨x, hx⟩ : ∃ x, x = l.getD 0 0 := ⟨_, rfl⟩
  have hc0 : w.cell? ⟨g, o, none⟩ = some (.int .u8 x) := by have := hcell 0 (by omega); rw [hx]; simpa using this
  have hgw : g < w.heap.size := World.block_lt_of_cell? _ _ hc0
  have hx3 : 127 < (l.take 8).headD 0 := by
    rcases Int.lt_or_le 127 ((l.take 8).headD 0) with h | h
    · exact h
    · have := (num_eight _ hb hlen).2 h
      omega
  have hx2 : decide (127 < x) = true := by
    have e2 : (l.take 8).headD 0 = x := by
      rw [hx]
      match l, hs.len with
      | [], h0 => exfalso; rw [List.length_nil] at h0; omega
      | a :: l, _ => rfl
    rw [← e2]
    simpa using hx3
  have hi0 : (0 : Int) < n := by omega
  have hi8 : (8 : Int) < n := by omega
  have HX := Lib.hid hx3
  have HLEN := Lib.hid hlen
  clear hcell hx hs hlen hb hx3 hm
  go_enter Try.func6, Try.ntmps6
  go_wp2_with fail
  refine (works_any _).mono ?_
  rintro e w1 ⟨rfl, r1⟩
  have F1 := Lib.hid r1
  clear r1
  go_wp2_with fail
  refine (new_any g _ 8 c (l.take 8) w1 (HL.out.fr F1.out (fun _ x => x)) (by omega)).mono ?_
  rintro e w2 ⟨p, q, rfl, r1, r2, r3, r4⟩
  have R2 : Hid (Read w p q (l.take 8) w2) := ⟨r1, F1.out.trans r4, Nat.le_trans F1.out.size r2, Nat.le_trans F1.out.size r3⟩
  clear r1 r2 r3 r4 F1
  go_wp2_with fail
  refine (get_hi p q (l.take 8) w2 R2.out.rd (Nat.le_of_eq HLEN.out.symm) HX.out).mono ?_
  rintro e w3 ⟨rfl, r1, r2⟩
  have R3 : Hid (Read w p q (l.take 8) w3) := ⟨r1, R2.out.fr.trans r2, R2.out.hp, R2.out.hg⟩
  clear r1 r2 R2
  have hc3 : w3.cell? ⟨g, o, none⟩ = some (.int .u8 x) := (World.cell?_of_block (w := w) (R3.out.fr.block g hgw (fun x => x))).trans hc0
  go_wp2_with fail
  refine (left_any p q _ _ R3.out.rd).mono ?_
  rw [HLEN.out]
  rintro e w4 ⟨rfl, rfl⟩
  go_wp2_with fail
  go_ret
  exact ⟨rfl, R3.out.fr⟩

set_option maxHeartbeats 4000000 in
theorem holds_8_hi (A : Option Addr) (c g : Nat) (l : List Int) (other : Int) (w : World) (hs : Sl w g (.slice A 8 c) l) (hm : 9223372036854775807 < num (l.take 8)) :
    Calls Try.prog 6 #[.slice A 8 c, .int .i64 other] w fun e w' => e = .returned (.bool true) ∧ Fr (fun _ => False) w w' := by
  have hcap := hs.cap
  unfold maxLen at hcap
  have hsl := slice_to A 8 c 8 (by omega)
  have hlen : (l.take 8).length = 8 := by rw [List.length_take, hs.len]; omega
  have HL : Hid (Sl w g (.slice A 8 c) (l.take 8)) := hs.take 8 (by rw [hs.len]; omega)
  have hb : Bys (l.take 8) := HL.out.1
  obtain ⟨o, rfl, hcell⟩ := hs.at_ (by omega)
  obtain ⟨x, hx⟩ : ∃ x, x = l.getD 0 0 := ⟨_, rfl⟩
  have hc0 : w.cell? ⟨g, o, none⟩ = some (.int .u8 x) := by have := hcell 0 (by omega); rw [hx]; simpa using this
  have hgw : g < w.heap.size := World.block_lt_of_cell? _ _ hc0
  have hx3 : 127 < (l.take 8).headD 0 := by
    rcases Int.lt_or_le 127 ((l.take 8).headD 0) with h | h
    · exact h
    · have := (num_eight _ hb hlen).2 h
      omega
  have hx2 : decide (127 < x) = true := by
    have e2 : (l.take 8).headD 0 = x := by
      rw [hx]
      match l, hs.len with
      | [], h0 => exfalso; rw [List.length_nil] at h0; omega
      | a :: l, _ => rfl
    rw [← e2]
    simpa using hx3
  have HX := Lib.hid hx3
  have HLEN := Lib.hid hlen
  clear hcell hx hs hlen hb hx3 hm
  go_enter Try.func6, Try.ntmps6
  go_wp2_with fail
  refine (works_any _).mono ?_
  rintro e w1 ⟨rfl, r1⟩
  have F1 := Lib.hid r1
  clear r1
  go_wp2_with fail
  refine (new_any g _ 8 c (l.take 8) w1 (HL.out.fr F1.out (fun _ x => x)) (by omega)).mono ?_
  rintro e w2 ⟨p, q, rfl, r1, r2, r3, r4⟩
  have R2 : Hid (Read w p q (l.take 8) w2) := ⟨r1, F1.out.trans r4, Nat.le_trans F1.out.size r2, Nat.le_trans F1.out.size r3⟩
  clear r1 r2 r3 r4 F1
  go_wp2_with fail
  refine (get_hi p q (l.take 8) w2 R2.out.rd (Nat.le_of_eq HLEN.out.symm) HX.out).mono ?_
  rintro e w3 ⟨rfl, r1, r2⟩
  have R3 : Hid (Read w p q (l.take 8) w3) := ⟨r1, R2.out.fr.trans r2, R2.out.hp, R2.out.hg⟩
  clear r1 r2 R2
  have hc3 : w3.cell? ⟨g, o, none⟩ = some (.int .u8 x) := (World.cell?_of_block (w := w) (R3.out.fr.block g hgw (fun x => x))).trans hc0
  go_wp2_with fail
  refine (left_any p q _ _ R3.out.rd).mono ?_
  rw [HLEN.out]
  rintro e w4 ⟨rfl, rfl⟩
  go_wp2_with fail
  go_ret
  exact ⟨rfl, R3.out.fr⟩

set_option maxHeartbeats 2000000 in
theorem holds_none (A : Option Addr) (c g : Nat) (l : List Int) (other : Int) (w : World) (hs : Sl w g (.slice A 0 c) l) :
    Calls Try.prog 6 #[.slice A 0 c, .int .i64 other] w fun e w' => e = .returned (.bool true) ∧ Fr (fun _ => False) w w' := by
  obtain rfl : l = [] := List.eq_nil_of_length_eq_zero hs.len
  have hsl := slice_to A 0 c 0 (Nat.zero_le _)
  have HS := Lib.hid hs
  clear hs
  go_enter Try.func6, Try.ntmps6
  go_wp2_with fail
  refine (works_any _).mono ?_
  rintro e w1 ⟨rfl, r1⟩
  have F1 := Lib.hid r1
  clear r1
  go_wp2_with fail
  refine (new_any g _ 0 c [] w1 (HS.out.fr F1.out (fun _ x => x)) (by decide)).mono ?_
  rintro e w2 ⟨p, q, rfl, r1, r2, r3, r4⟩
  have R2 : Hid (Read w p q [] w2) := ⟨r1, F1.out.trans r4, Nat.le_trans F1.out.size r2, Nat.le_trans F1.out.size r3⟩
  clear r1 r2 r3 r4 F1
  go_wp2_with fail
  refine (get_arg p q [] 0 w2 R2.out.rd (by decide)).mono ?_
  rintro e w3 ⟨rfl, rfl⟩
  go_wp2_with fail
  go_ret
  exact ⟨rfl, R2.out.fr⟩

theorem holds_any (A : Option Addr) (n c g : Nat) (l : List Int) (other : Int) (w : World) (hs : Sl w g (.slice A n c) l) (ho : other ≤ 9223372036854775807) :
    Calls Try.prog 6 #[.slice A n c, .int .i64 other] w fun e w' => e = .returned (.bool true) ∧ Fr (fun _ => False) w w' := by
  rcases Nat.eq_zero_or_pos n with rfl | h1
  · exact holds_none A c g l other w hs
  · rcases Nat.lt_or_ge n 8 with h8 | h8
    · have hm : num l ≤ 9223372036854775807 := by
        have h2 := num_lt l hs.1
        have h3 := pow_le_56 (k := l.length) (by rw [hs.len]; exact h8)
        omega
      by_cases ho2 : other = num l
      · exact holds_lt_same A n c g l other _ w hs h1 h8 ho rfl hm ho2
      · exact holds_lt_other A n c g l other _ w hs h1 h8 ho rfl hm ho2
    · rcases Int.lt_or_le 9223372036854775807 (num (l.take 8)) with hm | hm
      · rcases Nat.lt_or_ge 8 n with h | h
        · exact holds_gt_hi A n c g l other w hs h hm
        · obtain rfl : n = 8 := by omega
          exact holds_8_hi A c g l other w hs hm
      · by_cases ho2 : other = num (l.take 8)
        · rcases Nat.lt_or_ge 8 n with h | h
          · exact holds_gt_same A n c g l other _ w hs h ho rfl hm ho2
          · obtain rfl : n = 8 := by omega
            exact holds_8_same A c g l other _ w hs ho rfl hm ho2
        · rcases Nat.lt_or_ge 8 n with h | h
          · exact holds_gt_other A n c g l other _ w hs h ho rfl hm ho2
          · obtain rfl : n = 8 := by omega
            exact holds_8_other A c g l other _ w hs ho rfl hm ho2
end Go.Proofs.Ytkkicekhkidhjaa
