/- The reader and the reference's reader side by side: each call answers the same of both, and leaves the same bytes. Condition: both hold the same bytes, no more than a machine has. -/
import Derived.Test.YtkkicekhkidhjaaRNf
namespace Go.Proofs.Ytkkicekhkidhjaa
set_option linter.unusedSimpArgs false
set_option linter.unusedVariables false
open Go.RowKit

theorem RR.drewN {w : World} {p g k : Nat} {all : List Int} (h : RR w p g all k) (q : Nat) : RR (w.drewN q) p g all k := h.keep (S := fun _ => False) ((Fr.refl _ w).drewN q) (fun x => x) (fun _ x => x)

theorem get_both (p g p2 g2 k : Nat) (all : List Int) (size : Int) (hk : k ≤ all.length) (hb : Bys all) :
    ∃ (n e : Int) (k' : Nat), k' ≤ all.length ∧
      (∀ w, Rd w p g (all.drop k) → Calls Try.prog 28 #[.pointer (some ⟨p, 0, none⟩), .int .i64 size] w fun r w' => r = .returned (.tuple #[.int .i64 n, .int .i64 e]) ∧ Rd w' p g (all.drop k') ∧ Fr (fun x => x = p) w w') ∧
      (∀ w, RR w p2 g2 all k → Calls Try.prog 29 #[.pointer (some ⟨p2, 0, none⟩), .int .i64 size] w fun r w' => r = .returned (.tuple #[.int .i64 n, .int .i64 e]) ∧ RR w' p2 g2 all k' ∧ Fr (fun x => x = p2) w w') := by
  by_cases hs : size < 1 ∨ 8 < size
  · refine ⟨0, 2, k, hk, fun w h => (get_arg p g _ size w h hs).mono ?_, fun w h => (rget_arg p2 g2 k all size w h hs).mono ?_⟩
    · rintro e w' ⟨rfl, rfl⟩; exact ⟨rfl, h, Fr.refl _ _⟩
    · rintro e w' ⟨rfl, rfl⟩; exact ⟨rfl, h, Fr.refl _ _⟩
  · obtain ⟨m, rfl⟩ : ∃ m : Nat, size = m := ⟨size.toNat, by omega⟩
    have h1 : 1 ≤ m := by omega
    have h8 : m ≤ 8 := by omega
    have hdl : (all.drop k).length = all.length - k := List.length_drop
    by_cases hl : all.length - k < m
    · refine ⟨0, 3, k, hk, fun w h => (get_trunc p g _ m w h h1 h8 (by omega)).mono ?_, fun w h => (rget_trunc p2 g2 k all m w h h1 h8 hl).mono ?_⟩
      · rintro e w' ⟨rfl, rfl⟩; exact ⟨rfl, h, Fr.refl _ _⟩
      · rintro e w' ⟨rfl, q, rfl⟩; exact ⟨rfl, h.drewN q, (Fr.refl _ _).drewN q⟩
    · have htl : ((all.drop k).take m).length = m := by rw [List.length_take]; omega
      have hbt : Bys ((all.drop k).take m) := (hb.drop k).take m
      have hd0 : m = 8 → (num ((all.drop k).take m) ≤ 9223372036854775807 ↔ (all.drop k).headD 0 ≤ 127) := by
        intro h
        have := num_eight _ hbt (by omega)
        rw [this]
        have : ((all.drop k).take m).headD 0 = (all.drop k).headD 0 := by
          subst h
          cases hx : all.drop k with
          | nil => rfl
          | cons a t => rfl
        rw [this]
      by_cases hx : num ((all.drop k).take m) ≤ 9223372036854775807
      · refine ⟨num ((all.drop k).take m), 0, k + m, by omega, fun w h => (get_ok p g _ m w h h1 h8 (by omega) (fun e => (hd0 e).1 hx)).mono ?_, fun w h => (rget_ok p2 g2 k all m w h h1 h8 (by omega) _ rfl hx).mono ?_⟩
        · rintro e w' ⟨rfl, r1, r2⟩
          rw [List.drop_drop] at r1
          exact ⟨rfl, r1, r2⟩
        · rintro e w' ⟨rfl, r1, r2⟩; exact ⟨rfl, r1, r2⟩
      · have hm8 : m = 8 := by
          by_cases h : m < 8
          · exfalso
            have h2 := num_lt _ hbt
            have h3 := pow_le_56 h
            rw [htl] at h2
            omega
          · omega
        subst hm8
        refine ⟨0, 9, k, hk, fun w h => (get_hi p g _ w h (by omega) (by have := mt (hd0 rfl).2 hx; omega)).mono ?_, fun w h => (rget_range p2 g2 k all 8 w h h1 h8 (by omega) (by omega)).mono ?_⟩
        · rintro e w' ⟨rfl, r1, r2⟩; exact ⟨rfl, r1, r2.any⟩
        · rintro e w' ⟨rfl, q, rfl⟩; exact ⟨rfl, h.drewN q, (Fr.refl _ _).drewN q⟩

/-- What a call that answers bytes leaves: the bytes y in a block of their own. -/
def Ans (w w' : World) (v : Value) (y : List Int) : Prop := ∃ A c b, v = .slice A y.length c ∧ Sl w' b v y ∧ (y ≠ [] → NF w' b ∧ w.heap.size ≤ b)
theorem Ans.nil (w w' : World) : Ans w w' (.slice none 0 0) [] := ⟨none, 0, 0, rfl, Sl.nil _ _, fun h => absurd rfl h⟩
theorem Ans.of {w w' : World} {q m : Nat} {y : List Int} (h : Sl w' q (.slice (some ⟨q, 0, none⟩) m m) y) (hn : NF w' q) (hq : w.heap.size ≤ q) : Ans w w' (.slice (some ⟨q, 0, none⟩) m m) y := by
  have := h.len
  subst this
  exact ⟨_, _, q, rfl, h, fun _ => ⟨hn, hq⟩⟩

theorem bytes_both (p g p2 g2 k : Nat) (all : List Int) (n : Int) (hk : k ≤ all.length) (hlen : all.length ≤ 140737488355328) :
    ∃ (y : List Int) (e : Int) (k' : Nat), k' ≤ all.length ∧
      (∀ w, Rd w p g (all.drop k) → Calls Try.prog 30 #[.pointer (some ⟨p, 0, none⟩), .int .i64 n] w fun r w' => ∃ v, r = .returned (.tuple #[v, .int .i64 e]) ∧ Ans w w' v y ∧ Rd w' p g (all.drop k') ∧ Fr (fun x => x = p) w w') ∧
      (∀ w, RR w p2 g2 all k → Calls Try.prog 31 #[.pointer (some ⟨p2, 0, none⟩), .int .i64 n] w fun r w' => ∃ A c b, r = .returned (.tuple #[.slice A y.length c, .int .i64 e]) ∧ Sl w' b (.slice A y.length c) y ∧ RR w' p2 g2 all k' ∧ Fr (fun x => x = p2) w w') := by
  have hdl : (all.drop k).length = all.length - k := List.length_drop
  by_cases hn : n < 0
  · refine ⟨[], 2, k, hk, fun w h => (rbytes_neg p g _ n w h hn).mono ?_, fun w h => (rb_neg p2 g2 k all n w h hn).mono ?_⟩
    · rintro e w' ⟨rfl, rfl⟩; exact ⟨_, rfl, Ans.nil _ _, h, Fr.refl _ _⟩
    · rintro e w' ⟨rfl, rfl⟩; exact ⟨none, 0, 0, rfl, Sl.nil _ _, h, Fr.refl _ _⟩
  · obtain ⟨m, rfl⟩ : ∃ m : Nat, n = m := ⟨n.toNat, by omega⟩
    by_cases hl : all.length - k < m
    · refine ⟨[], 3, k, hk, fun w h => (rbytes_trunc p g _ m w h (by omega) (by omega)).mono ?_, fun w h => (rb_trunc p2 g2 k all m w h (by omega) (by omega)).mono ?_⟩
      · rintro e w' ⟨rfl, rfl⟩; exact ⟨_, rfl, Ans.nil _ _, h, Fr.refl _ _⟩
      · rintro e w' ⟨rfl, q, rfl⟩; exact ⟨none, 0, 0, rfl, Sl.nil _ _, h.drewN q, (Fr.refl _ _).drewN q⟩
    · have htl : ((all.drop k).take m).length = m := by rw [List.length_take]; omega
      refine ⟨(all.drop k).take m, 0, k + m, by omega, fun w h => (rbytes_nf p g _ m w h (by omega) (by omega)).mono ?_, fun w h => (rb_ok p2 g2 k all m w h (by omega) (by omega)).mono ?_⟩
      · rintro e w' ⟨q, rfl, r1, r2, r3, r4, r5⟩
        rw [List.drop_drop] at r3
        exact ⟨_, rfl, Ans.of r1 r5 r2, r3, r4⟩
      · rintro e w' ⟨A, c, rfl, r1, r2, r3⟩
        rw [htl]
        exact ⟨A, c, _, rfl, r1.sl, r2, r3⟩

theorem octets_both (p g p2 g2 k : Nat) (all : List Int) (most : Int) (hk : k ≤ all.length) (hb : Bys all) (hlen : all.length ≤ 140737488355328) :
    ∃ (y : List Int) (e : Int) (k' : Nat), k' ≤ all.length ∧
      (∀ w, Rd w p g (all.drop k) → Calls Try.prog 32 #[.pointer (some ⟨p, 0, none⟩), .int .i64 most] w fun r w' => ∃ v, r = .returned (.tuple #[v, .int .i64 e]) ∧ Ans w w' v y ∧ Rd w' p g (all.drop k') ∧ Fr (fun x => x = p) w w') ∧
      (∀ w, RR w p2 g2 all k → Calls Try.prog 33 #[.pointer (some ⟨p2, 0, none⟩), .int .i64 most] w fun r w' => ∃ A c b, r = .returned (.tuple #[.slice A y.length c, .int .i64 e]) ∧ Sl w' b (.slice A y.length c) y ∧ RR w' p2 g2 all k' ∧ Fr (fun x => x = p2) w w') := by
  have hdl : (all.drop k).length = all.length - k := List.length_drop
  by_cases hs : all.length - k < 2
  · refine ⟨[], 3, k, hk, fun w h => (roct_short p g _ most w h (by omega)).mono ?_, fun w h => (ro_short p2 g2 k all most w h hs).mono ?_⟩
    · rintro e w' ⟨rfl, r1, r2⟩; exact ⟨_, rfl, Ans.nil _ _, r1, r2⟩
    · rintro e w' ⟨rfl, q, rfl⟩; exact ⟨none, 0, 0, rfl, Sl.nil _ _, h.drewN q, (Fr.refl _ _).drewN q⟩
  · obtain ⟨x1, x2, l, hxl⟩ : ∃ x1 x2 l, all.drop k = x1 :: x2 :: l := by
      match hh : all.drop k, hdl with
      | [], h => simp at h; omega
      | [_], h => simp at h; omega
      | a :: b :: l, _ => exact ⟨a, b, l, rfl⟩
    have hl2 : all.drop (k + 2) = l := by rw [← List.drop_drop, hxl]; rfl
    have htk : (all.drop k).take 2 = [x1, x2] := by rw [hxl]; rfl
    have hbk := hb.drop k
    rw [hxl] at hbk
    have b1 := hbk x1 (by simp)
    have b2 := hbk x2 (by simp)
    have hnum : num [x1, x2] = x1 * 256 + x2 := by simp [num]
    obtain ⟨N, hN⟩ : ∃ N : Nat, (N : Int) = num [x1, x2] := ⟨(num [x1, x2]).toNat, by rw [hnum]; omega⟩
    have hN2 : N ≤ 65535 := by rw [hnum] at hN; omega
    have hll : l.length = all.length - k - 2 := by rw [hxl] at hdl; simp at hdl; omega
    have hN' : (N : Int) = num ((all.drop k).take 2) := by rw [htk]; exact hN
    by_cases hm : most < N
    · refine ⟨[], 5, k, hk, fun w h => (roct_limit N p g x1 x2 l most w (by rw [hxl] at h; exact h) hN hm hN2).mono ?_, fun w h => (ro_limit N p2 g2 k all most w h (by omega) hN' hN2 hm).mono ?_⟩
      · rintro e w' ⟨rfl, r1, r2⟩; rw [hxl]; exact ⟨_, rfl, Ans.nil _ _, r1, r2⟩
      · rintro e w' ⟨rfl, q, rfl⟩; exact ⟨none, 0, 0, rfl, Sl.nil _ _, h.drewN q, (Fr.refl _ _).drewN q⟩
    · by_cases ht : all.length - k - 2 < N
      · refine ⟨[], 3, k, hk, fun w h => (roct_trunc N p g x1 x2 l most w (by rw [hxl] at h; exact h) hN (by omega) (by omega) hN2).mono ?_, fun w h => (ro_trunc N p2 g2 k all most w h (by omega) hN' hN2 (by omega) ht).mono ?_⟩
        · rintro e w' ⟨rfl, r1, r2⟩; rw [hxl]; exact ⟨_, rfl, Ans.nil _ _, r1, r2⟩
        · rintro e w' ⟨rfl, q, rfl⟩; exact ⟨none, 0, 0, rfl, Sl.nil _ _, h.drewN q, (Fr.refl _ _).drewN q⟩
      · have htl : ((all.drop (k + 2)).take N).length = N := by rw [List.length_take, List.length_drop]; omega
        refine ⟨(all.drop (k + 2)).take N, 0, k + 2 + N, by omega, fun w h => (roct_nf N p g x1 x2 l most w (by rw [hxl] at h; exact h) hN (by omega) (by omega) (by omega) hN2).mono ?_, fun w h => (ro_ok N p2 g2 k all most w h (by omega) hN' hN2 (by omega) (by omega)).mono ?_⟩
        · rintro e w' ⟨q, rfl, r1, r2, r3, r4, r5⟩
          rw [hl2, show all.drop (k + 2 + N) = l.drop N by rw [← hl2, List.drop_drop]]
          exact ⟨_, rfl, Ans.of r1 r5 r2, r3, r4⟩
        · rintro e w' ⟨A, c, rfl, r1, r2, r3⟩
          rw [htl]
          exact ⟨A, c, _, rfl, r1.sl, r2, r3⟩
end Go.Proofs.Ytkkicekhkidhjaa
