/- WireEats: the walk. Conditions: slices of bytes and of calls that lie in memory, no more than a machine has. -/
import Derived.Test.YtkkicekhkidhjaaBoth
namespace Go.Proofs.Ytkkicekhkidhjaa
set_option linter.unusedSimpArgs false
set_option linter.unusedVariables false
open Go.RowKit

set_option maxHeartbeats 400000 in
theorem new_lt (g : Nat) (A : Option Addr) (n c : Nat) (l : List Int) (w : World) (hs : Sl w g (.slice A n c) l) (hn : n ≤ 140737488355328) :
    Calls Try.prog 26 #[.slice A n c] w fun e w' => ∃ p q, e = .returned (.pointer (some ⟨p, 0, none⟩)) ∧ Rd w' p q l ∧ w.heap.size ≤ p ∧ w.heap.size ≤ q ∧ p < w'.heap.size ∧ q < w'.heap.size ∧ p ≠ q ∧ Fr (fun _ => False) w w' := by
  have HB := Lib.hid hs.1
  have HN := Lib.hid hs.len
  have HS := Lib.hid hs
  clear hs
  go_enter Try.func26, Try.ntmps26
  go_wp2_with (go_at_call 45; refine (copyOf_any _ A n c l _ HS.out hn).mono ?_; rintro e w1 ⟨rfl, r1, r2⟩; have R1 := Lib.hid r1; have R2 := Lib.hid r2; clear r1 r2)
  go_ret
  have hb : Sl w1 w.heap.size (.slice (some ⟨w.heap.size, 0, none⟩) l.length l.length) l := Sl.block HB.out R1.out (fun j _ => by simp) (Nat.le_refl _) (by have := HN.out; simp only [maxLen]; omega)
  rw [HN.out] at hb
  have := heap_lt R1.out
  exact ⟨w1.heap.size, w.heap.size, rfl, ⟨_, heap_alloc_new w1 _, hb.fr ((Fr.refl (fun _ => False) w1).alloc _) (fun _ x => x), by omega⟩, R2.out.size, Nat.le_refl _, by simp, by simp; omega, by omega, R2.out.alloc _⟩

theorem left_k (p g k : Nat) (all : List Int) (w : World) (h : Rd w p g (all.drop k)) (hk : k ≤ all.length) :
    Calls Try.prog 34 #[.pointer (some ⟨p, 0, none⟩)] w fun e w' => e = .returned (.int .i64 ((all.length : Int) - k)) ∧ w = w' := by
  refine (left_any p g _ w h).mono ?_
  rintro e w' ⟨rfl, rfl⟩
  rw [List.length_drop, Int.ofNat_sub hk]
  exact ⟨rfl, rfl⟩
theorem end_k (p g k : Nat) (all : List Int) (w : World) (h : Rd w p g (all.drop k)) (E : Int) (hE : (if k < all.length then 4 else 0) = E) :
    Calls Try.prog 36 #[.pointer (some ⟨p, 0, none⟩)] w fun e w' => e = .returned (.int .i64 E) ∧ w = w' := by
  refine (end_any p g _ w h).mono ?_
  rintro e w' ⟨rfl, rfl⟩
  refine ⟨?_, rfl⟩
  rw [← hE]
  unfold endE
  by_cases hk : k < all.length
  · rw [if_pos hk, if_neg (by intro h; have := List.drop_eq_nil_iff.1 h; omega)]
  · rw [if_neg hk, if_pos (List.drop_of_length_le (by omega))]
theorem rleft_fr (p g k : Nat) (all : List Int) (w : World) (h : RR w p g all k) (D : Int) (hD : (all.length : Int) - k = D) :
    Calls Try.prog 35 #[.pointer (some ⟨p, 0, none⟩)] w fun e w' => e = .returned (.int .i64 D) ∧ Fr (fun _ => False) w w' := by
  refine (rleft_any p g k all w h).mono ?_
  rintro e w' ⟨rfl, q, rfl⟩
  rw [hD]
  exact ⟨rfl, (Fr.refl _ _).drewN q⟩
theorem rend_fr (p g k : Nat) (all : List Int) (w : World) (h : RR w p g all k) (E : Int) (hE : (if k < all.length then 4 else 0) = E) :
    Calls Try.prog 37 #[.pointer (some ⟨p, 0, none⟩)] w fun e w' => e = .returned (.int .i64 E) ∧ Fr (fun _ => False) w w' := by
  refine (rend_any p g k all w h).mono ?_
  rintro e w' ⟨rfl, q, rfl⟩
  rw [hE]
  exact ⟨rfl, (Fr.refl _ _).drewN q⟩
theorem eq_self (g1 g2 : Nat) (A B : Option Addr) (n m c d : Nat) (y : List Int) (w : World) (h1 : Sl w g1 (.slice A n c) y) (h2 : Sl w g2 (.slice B m d) y) :
    Calls Try.prog 22 #[.slice A n c, .slice B m d] w fun e w' => e = .returned (.bool true) ∧ Fr (fun _ => False) w w' := by
  refine (eqBytes_fr g1 g2 A B n m c d y y w h1 h2).mono ?_
  rintro e w' ⟨rfl, r⟩
  exact ⟨by simp, r⟩

/-- What stays true from round to round: two readers of the same bytes, k of them read, all in memory of the call's own. -/
structure EI (w : World) (B p g p2 g2 : Nat) (all : List Int) (k : Nat) (W : World) : Prop where
  rd : Rd W p g (all.drop k)
  rr : RR W p2 g2 all k
  hk : k ≤ all.length
  fr : Fr (fun _ => False) w W
  size : B ≤ W.heap.size
  apart : w.heap.size ≤ p ∧ w.heap.size ≤ p2 ∧ p < B ∧ g < B ∧ p2 < B ∧ g2 < B ∧ p ≠ p2 ∧ p ≠ g2 ∧ p2 ≠ g
theorem EI.quiet {w W W' : World} {B p g p2 g2 k : Nat} {all : List Int} (h : EI w B p g p2 g2 all k W) (hf : Fr (fun _ => False) W W') : EI w B p g p2 g2 all k W' :=
  ⟨h.rd.keep hf (fun x => x) (fun _ x => x), h.rr.keep hf (fun x => x) (fun _ x => x), h.hk, h.fr.trans hf, Nat.le_trans h.size hf.size, h.apart⟩
theorem EI.both {w W W1 W2 : World} {B p g p2 g2 k k' : Nat} {all : List Int} (h : EI w B p g p2 g2 all k W) (hk : k' ≤ all.length) (r1 : Rd W1 p g (all.drop k')) (f1 : Fr (fun x => x = p) W W1) (r2 : RR W2 p2 g2 all k') (f2 : Fr (fun x => x = p2) W1 W2) : EI w B p g p2 g2 all k' W2 := by
  have ha := h.apart
  refine ⟨r1.keep f2 (by omega) (fun _ e => by omega), r2, hk, ?_, Nat.le_trans h.size (Nat.le_trans f1.size f2.size), h.apart⟩
  exact (h.fr.trans' f1 (fun i hi e => by omega)).trans' f2 (fun i hi e => by omega)
theorem EI.spoilt {w W W' : World} {B p g p2 g2 k b : Nat} {all : List Int} (h : EI w B p g p2 g2 all k W) {y : List Int} (hf : Fr (fun x => x = b ∧ y ≠ []) W W') (hb : y ≠ [] → B ≤ b) : EI w B p g p2 g2 all k W' := by
  have ha := h.apart
  have hne : ∀ x, x < B → ¬ (x = b ∧ y ≠ []) := fun x hx e => by have := hb e.2; omega
  refine ⟨h.rd.keep hf (hne _ ha.2.2.1) (fun _ => hne _ ha.2.2.2.1), h.rr.keep hf (hne _ ha.2.2.2.2.1) (fun _ => hne _ ha.2.2.2.2.2.1), h.hk, h.fr.trans' hf (fun i hi e => absurd e (hne i (by omega))), Nat.le_trans h.size hf.size, h.apart⟩
end Go.Proofs.Ytkkicekhkidhjaa
