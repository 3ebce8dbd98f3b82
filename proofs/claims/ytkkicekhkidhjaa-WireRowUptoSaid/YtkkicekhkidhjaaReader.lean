/- What New and the reader's Get, Left, End leave and answer. Conditions: a reader that lies in memory, and not more bytes than a machine has. -/
import Derived.Test.YtkkicekhkidhjaaWriter2
namespace Go.Proofs.Ytkkicekhkidhjaa
set_option linter.unusedSimpArgs false
set_option linter.unusedVariables false
open Go.RowKit

set_option maxHeartbeats 400000 in
theorem new_any (g : Nat) (A : Option Addr) (n c : Nat) (l : List Int) (w : World) (hs : Sl w g (.slice A n c) l) (hn : n ≤ 140737488355328) :
    Calls Try.prog 26 #[.slice A n c] w fun e w' => ∃ p q, e = .returned (.pointer (some ⟨p, 0, none⟩)) ∧ Rd w' p q l ∧ w.heap.size ≤ p ∧ w.heap.size ≤ q ∧ Fr (fun _ => False) w w' := by
  have HB := Lib.hid hs.1
  have HN := Lib.hid hs.len
  have HS := Lib.hid hs
  clear hs
  go_enter Try.func26, Try.ntmps26
  go_wp2_with (go_at_call 45; refine (copyOf_any _ A n c l _ HS.out hn).mono ?_; rintro e w1 ⟨rfl, r1, r2⟩; have R1 := Lib.hid r1; have R2 := Lib.hid r2; clear r1 r2)
  go_ret
  have hb : Sl w1 w.heap.size (.slice (some ⟨w.heap.size, 0, none⟩) l.length l.length) l := Sl.block HB.out R1.out (fun j _ => by simp) (Nat.le_refl _) (by have := HN.out; simp only [maxLen]; omega)
  rw [HN.out] at hb
  refine ⟨w1.heap.size, w.heap.size, rfl, ⟨_, heap_alloc_new w1 _, hb.fr ((Fr.refl (fun _ => False) w1).alloc _) (fun _ x => x), ?_⟩, R2.out.size, Nat.le_refl _, R2.out.alloc _⟩
  have := heap_lt R1.out
  omega

set_option maxHeartbeats 400000 in
theorem left_any (p g : Nat) (l : List Int) (w : World) (h : Rd w p g l) :
    Calls Try.prog 34 #[.pointer (some ⟨p, 0, none⟩)] w fun e w' => e = .returned (.int .i64 l.length) ∧ w = w' := by
  obtain ⟨v, h1, h2, h3⟩ := h
  have c0 : w.cell? ⟨p, 0, none⟩ = some (.bool true) := by rw [cell_of_row w p 0 _ _ _ h1]; rfl
  have c1 : w.cell? ⟨p, 1, none⟩ = some v := by rw [cell_of_row w p 1 _ _ _ h1]; rfl
  obtain ⟨_, A, c, rfl, _⟩ := h2
  clear h1
  go_enter Try.func34, Try.ntmps34
  go_wp2
  go_ret
  exact ⟨rfl, rfl⟩

def endE (l : List Int) : Int := if l = [] then 0 else 4
theorem end_any (p g : Nat) (l : List Int) (w : World) (h : Rd w p g l) :
    Calls Try.prog 36 #[.pointer (some ⟨p, 0, none⟩)] w fun e w' => e = .returned (.int .i64 (endE l)) ∧ w = w' := by
  obtain ⟨v, h1, h2, h3⟩ := h
  have c0 : w.cell? ⟨p, 0, none⟩ = some (.bool true) := by rw [cell_of_row w p 0 _ _ _ h1]; rfl
  have c1 : w.cell? ⟨p, 1, none⟩ = some v := by rw [cell_of_row w p 1 _ _ _ h1]; rfl
  obtain ⟨_, A, c, rfl, _⟩ := h2
  clear h1
  rcases l with _ | ⟨x, l⟩
  · go_enter Try.func36, Try.ntmps36
    go_wp2
    go_ret
    exact ⟨rfl, rfl⟩
  · obtain ⟨n, hn⟩ : ∃ n, n = (x :: l).length := ⟨_, rfl⟩
    have h0 : 0 < n := by simp at hn; omega
    rw [← hn] at c1
    clear hn
    go_enter Try.func36, Try.ntmps36
    go_wp2
    go_ret
    exact ⟨rfl, rfl⟩

theorem get_arg (p g : Nat) (l : List Int) (size : Int) (w : World) (h : Rd w p g l) (hs : size < 1 ∨ 8 < size) :
    Calls Try.prog 28 #[.pointer (some ⟨p, 0, none⟩), .int .i64 size] w fun e w' => e = .returned (.tuple #[.int .i64 0, .int .i64 2]) ∧ w = w' := by
  obtain ⟨v, h1, h2, h3⟩ := h
  have c0 : w.cell? ⟨p, 0, none⟩ = some (.bool true) := by rw [cell_of_row w p 0 _ _ _ h1]; rfl
  clear h1
  go_enter Try.func28, Try.ntmps28
  go_wp2_with (go_at_call 40; refine (sizeMayBe_no size _ hs).mono ?_; rintro e w1 ⟨rfl, rfl⟩)
  go_ret2
  exact ⟨rfl, rfl⟩

theorem get_trunc (p g : Nat) (l : List Int) (k : Nat) (w : World) (h : Rd w p g l) (h1 : 1 ≤ k) (h8 : k ≤ 8) (hl : l.length < k) :
    Calls Try.prog 28 #[.pointer (some ⟨p, 0, none⟩), .int .i64 k] w fun e w' => e = .returned (.tuple #[.int .i64 0, .int .i64 3]) ∧ w = w' := by
  obtain ⟨v, g1, g2, g3⟩ := h
  have c0 : w.cell? ⟨p, 0, none⟩ = some (.bool true) := by rw [cell_of_row w p 0 _ _ _ g1]; rfl
  have c1 : w.cell? ⟨p, 1, none⟩ = some v := by rw [cell_of_row w p 1 _ _ _ g1]; rfl
  obtain ⟨_, A, c, rfl, _⟩ := g2
  clear g1
  go_enter Try.func28, Try.ntmps28
  go_wp2_with (go_at_call 40; refine (sizeMayBe_yes k _ (by omega) (by omega)).mono ?_; rintro e w1 ⟨rfl, rfl⟩)
  go_ret2
  exact ⟨rfl, rfl⟩

theorem heap_size_setCell (w : World) (a : Addr) (v : Value) : (w.setCell a v).heap.size = w.heap.size := by simp [World.setCell]
def num (l : List Int) : Int := l.foldl (fun a b => a * 256 + b) 0
theorem size72 : (Try.prog.info? 72).map (·.size) = some 8 := by kernel_rfl

end Go.Proofs.Ytkkicekhkidhjaa
