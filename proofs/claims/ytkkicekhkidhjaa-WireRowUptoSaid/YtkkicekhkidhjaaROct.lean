/- What the reader's Octets leaves and answers. Condition: a reader that lies in memory, and not more bytes than a machine has. -/
import Derived.Test.YtkkicekhkidhjaaRBytes
import Derived.Test.YtkkicekhkidhjaaGetA
import Derived.Defers
namespace Go.Proofs.Ytkkicekhkidhjaa
set_option linter.unusedSimpArgs false
set_option linter.unusedVariables false
open Go.RowKit

theorem cell1 {w : World} {p : Nat} {v : Value} {t : TypeId} (h : w.heap[p]? = some (.cells #[.bool true, v] t (0, 0))) : w.cell? ⟨p, 1, none⟩ = some v := by rw [cell_of_row w p 1 _ _ _ h]; rfl
theorem frozen1 {w : World} {p : Nat} {v : Value} {t : TypeId} (h : w.heap[p]? = some (.cells #[.bool true, v] t (0, 0))) : w.frozen? ⟨p, 1, none⟩ = false := frozen_of_row w p 1 _ _ h
/-- The reader's slice put back. -/
theorem Rd.back {w W : World} {p g : Nat} {v v0 : Value} {l : List Int} (h2 : Sl w g v l) (h3 : p ≠ g) (hf : Fr (fun x => x = p) w W) (hW : W.heap[p]? = some (.cells #[.bool true, v0] 61 (0, 0))) :
    Rd (W.setCell ⟨p, 1, none⟩ v) p g l ∧ Fr (fun x => x = p) w (W.setCell ⟨p, 1, none⟩ v) := by
  have F : Fr (fun x => x = p) w (W.setCell ⟨p, 1, none⟩ v) := Fr.setCell hf (p := ⟨p, 1, none⟩) _ (.inl rfl)
  exact ⟨⟨v, heap_setCell_same W p 1 _ _ v hW, h2.fr F (fun _ e => h3 e.symm), h3⟩, F⟩
theorem fr3 {S : Nat → Prop} (w : World) (a b c : Obj) : Fr S w ((((w.alloc a).alloc b).alloc c).drew) := (((Fr.refl S w).alloc a).alloc b).alloc c |>.drew

theorem clos_idle (pe : Nat) (b c : Value) (u : FrameMode) (w : World) (hc : w.cell? ⟨pe, 0, none⟩ = some (.int .i64 0)) :
    CallsD Try.prog 49 #[.pointer (some ⟨pe, 0, none⟩), b, c] u w fun e u' w' => u' = u ∧ (e = .returned (.tuple #[]) ∧ w' = w) := by
  go_enter_d Try.func49, Try.ntmps49
  go_wp2
  go_end0
  exact ⟨rfl, rfl⟩

theorem clos_back (pe pw pr p : Nat) (x : Int) (A : Option Addr) (n c : Nat) (v0 : Value) (u : FrameMode) (w : World) (hx : (x != 0) = true) (hc : w.cell? ⟨pe, 0, none⟩ = some (.int .i64 x))
    (hw : w.cell? ⟨pw, 0, none⟩ = some (.slice A n c)) (hr : w.cell? ⟨pr, 0, none⟩ = some (.pointer (some ⟨p, 0, none⟩))) (hp : w.cell? ⟨p, 1, none⟩ = some v0) (hf : w.frozen? ⟨p, 1, none⟩ = false) :
    CallsD Try.prog 49 #[.pointer (some ⟨pe, 0, none⟩), .pointer (some ⟨pw, 0, none⟩), .pointer (some ⟨pr, 0, none⟩)] u w fun e u' w' => u' = u ∧ (e = .returned (.tuple #[]) ∧ w' = w.setCell ⟨p, 1, none⟩ (.slice A n c)) := by
  go_enter_d Try.func49, Try.ntmps49
  go_wp2
  go_end0
  exact ⟨rfl, rfl⟩

set_option maxHeartbeats 1000000 in
theorem roct_short (p g : Nat) (l : List Int) (most : Int) (w : World) (h : Rd w p g l) (hl : l.length < 2) :
    Calls Try.prog 32 #[.pointer (some ⟨p, 0, none⟩), .int .i64 most] w fun e w' => e = .returned (.tuple #[.slice none 0 0, .int .i64 3]) ∧ Rd w' p g l ∧ Fr (· = p) w w' := by
  have H := Lib.hid h
  obtain ⟨v, g1, g2, g3⟩ := h
  have c0 : w.cell? ⟨p, 0, none⟩ = some (.bool true) := by rw [cell_of_row w p 0 _ _ _ g1]; rfl
  have c1 : w.cell? ⟨p, 1, none⟩ = some v := by rw [cell_of_row w p 1 _ _ _ g1]; rfl
  have hp := heap_lt g1
  obtain ⟨A, n, c, rfl⟩ : ∃ A n c, v = .slice A n c := by obtain ⟨_, A, c, e, _⟩ := g2; exact ⟨A, _, c, e⟩
  have G1 := Lib.hid g1
  have G2 := Lib.hid g2
  have G3 := Lib.hid g3
  clear g1 g2 g3
  have hmf : ∀ (fn : Fn) (first cap : Array Value) (w : World), (Instr.makeFunc fn first cap).run Try.prog w = .ok (.func fn first cap) w := fun _ _ _ _ => rfl
  have HK : Hid (∀ a b c, Rd (((w.alloc a).alloc b).alloc c) p g l) := fun a b c => H.out.keep ((((Fr.refl (fun _ => False) w).alloc a).alloc b).alloc c) (fun x => x) (fun _ x => x)
  go_enter_defers Try.func32, Try.ntmps32
  go_wp2_with (go_at_call 28; refine (get_trunc p g l 2 _ (HK.out _ _ _) (by decide) (by decide) hl).mono ?_; rintro e w1 ⟨rfl, rfl⟩)
  go_region
  all_goals
    go_wp2
    refine leaves_cons (f := 49) (args := #[.pointer (some ⟨w.heap.size + 1, 0, none⟩), .pointer (some ⟨w.heap.size + 1 + 1, 0, none⟩), .pointer (some ⟨w.heap.size, 0, none⟩)]) (by simp) (by simp [go_sem]) ?_
    refine (clos_back (w.heap.size + 1) (w.heap.size + 1 + 1) w.heap.size p 3 A n c (.slice A n c) _ _ (by decide) ?_ ?_ ?_ ?_ ?_).mono ?_
    · simp [go_sem]
    · simp [go_sem]
    · simp [go_sem]
    · exact cell1 (((fr3 (S := fun _ => False) w _ _ _).block p hp (fun x => x)).trans G1.out)
    · exact frozen1 (((fr3 (S := fun _ => False) w _ _ _).block p hp (fun x => x)).trans G1.out)
    rintro e u' w'' ⟨rfl, rfl, rfl⟩
    refine ⟨.tuple #[.slice none 0 0, .int .i64 3], by simp [results, Try.results32, go_sem], rfl, ?_⟩
    exact Rd.back G2.out G3.out (fr3 w _ _ _) (((fr3 (S := fun _ => False) w _ _ _).block p hp (fun x => x)).trans G1.out)

theorem heap3 (w : World) (a b c : Obj) : (((w.alloc a).alloc b).alloc c).heap[w.heap.size]? = some a ∧ (((w.alloc a).alloc b).alloc c).heap[w.heap.size + 1]? = some b ∧ (((w.alloc a).alloc b).alloc c).heap[w.heap.size + 1 + 1]? = some c := by
  refine ⟨?_, ?_, ?_⟩
  · rw [Below.heap_alloc _ _ _ (by simp; omega), Below.heap_alloc _ _ _ (by simp)]; exact heap_alloc_new w a
  · rw [Below.heap_alloc _ _ _ (by simp)]
    have := heap_alloc_new (w.alloc a) b
    simpa using this
  · have := heap_alloc_new ((w.alloc a).alloc b) c
    simpa using this
theorem fr3' {S : Nat → Prop} (w : World) (a b c : Obj) : Fr S w (((w.alloc a).alloc b).alloc c) := (((Fr.refl S w).alloc a).alloc b).alloc c
theorem get2_num (N p g : Nat) (x1 x2 : Int) (l : List Int) (w : World) (h : Rd w p g (x1 :: x2 :: l)) (hN : (N : Int) = num [x1, x2]) :
    Calls Try.prog 28 #[.pointer (some ⟨p, 0, none⟩), .int .i64 2] w fun e w' => e = .returned (.tuple #[.int .i64 N, .int .i64 0]) ∧ Rd w' p g l ∧ Fr (· = p) w w' := by
  rw [hN]; exact get_2 p g x1 x2 l w h

theorem door {w1 : World} {H p : Nat} {v v' : Value} (y : Int) (B0 : w1.heap[H]? = some (.cells #[.pointer (some ⟨p, 0, none⟩)] 40 (0, 0))) (B1 : w1.heap[H + 1]? = some (.cells #[.int .i64 0] 31 (0, 0)))
    (B2 : w1.heap[H + 1 + 1]? = some (.cells #[v] 27 (0, 0))) (P : w1.heap[p]? = some (.cells #[.bool true, v'] 61 (0, 0))) (hp : p < H) :
    ((w1.setCell ⟨H + 1, 0, none⟩ (.int .i64 0)).setCell ⟨H + 1, 0, none⟩ (.int .i64 y)).heap[H]? = some (.cells #[.pointer (some ⟨p, 0, none⟩)] 40 (0, 0)) ∧
    ((w1.setCell ⟨H + 1, 0, none⟩ (.int .i64 0)).setCell ⟨H + 1, 0, none⟩ (.int .i64 y)).heap[H + 1]? = some (.cells #[.int .i64 y] 31 (0, 0)) ∧
    ((w1.setCell ⟨H + 1, 0, none⟩ (.int .i64 0)).setCell ⟨H + 1, 0, none⟩ (.int .i64 y)).heap[H + 1 + 1]? = some (.cells #[v] 27 (0, 0)) ∧
    ((w1.setCell ⟨H + 1, 0, none⟩ (.int .i64 0)).setCell ⟨H + 1, 0, none⟩ (.int .i64 y)).heap[p]? = some (.cells #[.bool true, v'] 61 (0, 0)) := by
  refine ⟨?_, ?_, ?_, ?_⟩
  · rw [heap_setCell_other _ _ _ _ (by simp), heap_setCell_other _ _ _ _ (by simp)]; exact B0
  · rw [heap_setCell_same _ _ 0 _ _ _ (heap_setCell_same _ _ 0 _ _ _ B1)]; rfl
  · rw [heap_setCell_other _ _ _ _ (by simp), heap_setCell_other _ _ _ _ (by simp)]; exact B2
  · rw [heap_setCell_other _ _ _ _ (by show p ≠ H + 1; omega), heap_setCell_other _ _ _ _ (by show p ≠ H + 1; omega)]; exact P

set_option maxHeartbeats 2000000 in
theorem roct_limit (N p g : Nat) (x1 x2 : Int) (l : List Int) (most : Int) (w : World) (h : Rd w p g (x1 :: x2 :: l)) (hN : (N : Int) = num [x1, x2]) (hm : most < N) (hN2 : N ≤ 65535) :
    Calls Try.prog 32 #[.pointer (some ⟨p, 0, none⟩), .int .i64 most] w fun e w' => e = .returned (.tuple #[.slice none 0 0, .int .i64 5]) ∧ Rd w' p g (x1 :: x2 :: l) ∧ Fr (· = p) w w' := by
  have H := Lib.hid h
  obtain ⟨v, g1, g2, g3⟩ := h
  have c0 : w.cell? ⟨p, 0, none⟩ = some (.bool true) := by rw [cell_of_row w p 0 _ _ _ g1]; rfl
  have c1 : w.cell? ⟨p, 1, none⟩ = some v := cell1 g1
  have hp := heap_lt g1
  obtain ⟨A, n, c, rfl⟩ : ∃ A n c, v = .slice A n c := by obtain ⟨_, A, c, e, _⟩ := g2; exact ⟨A, _, c, e⟩
  have G1 := Lib.hid g1
  have G2 := Lib.hid g2
  have G3 := Lib.hid g3
  have HN := Lib.hid hN
  clear g1 g2 g3 hN
  have hmf : ∀ (fn : Fn) (first cap : Array Value) (w : World), (Instr.makeFunc fn first cap).run Try.prog w = .ok (.func fn first cap) w := fun _ _ _ _ => rfl
  have HK : Hid (∀ a b c, Rd (((w.alloc a).alloc b).alloc c) p g (x1 :: x2 :: l)) := fun a b c => H.out.keep ((((Fr.refl (fun _ => False) w).alloc a).alloc b).alloc c) (fun x => x) (fun _ x => x)
  go_enter_defers Try.func32, Try.ntmps32
  go_wp2_with fail
  refine (get2_num N p g x1 x2 l _ (HK.out _ _ _) HN.out).mono ?_
  rintro e w1 ⟨rfl, r1, r2⟩
  have B0 : Hid (w1.heap[w.heap.size]? = some (.cells #[.pointer (some ⟨p, 0, none⟩)] 40 (0, 0))) := (r2.block _ (by simp; omega) (by omega)).trans (heap3 w _ _ _).1
  have B1 : Hid (w1.heap[w.heap.size + 1]? = some (.cells #[.int .i64 0] 31 (0, 0))) := (r2.block _ (by simp) (by omega)).trans (heap3 w _ _ _).2.1
  have B2 : Hid (w1.heap[w.heap.size + 1 + 1]? = some (.cells #[.slice A n c] 27 (0, 0))) := (r2.block _ (by simp) (by omega)).trans (heap3 w _ _ _).2.2
  have q1 : w1.cell? ⟨w.heap.size + 1, 0, none⟩ = some (.int .i64 0) := by (rw [cell_of_row w1 _ 0 _ _ _ B1.out]; rfl)
  have q1' : w1.frozen? ⟨w.heap.size + 1, 0, none⟩ = false := frozen_of_row w1 _ 0 _ _ B1.out
  have q0 : w1.cell? ⟨w.heap.size, 0, none⟩ = some (.pointer (some ⟨p, 0, none⟩)) := by (rw [cell_of_row w1 _ 0 _ _ _ B0.out]; rfl)
  have q2 : w1.cell? ⟨w.heap.size + 1 + 1, 0, none⟩ = some (.slice A n c) := by (rw [cell_of_row w1 _ 0 _ _ _ B2.out]; rfl)
  have R1 := Lib.hid r1
  have R2 := Lib.hid r2
  clear r1 r2
  go_wp2
  obtain ⟨v', t1, _, _⟩ := R1.out
  obtain ⟨d0, d1, d2, d3⟩ := door 5 B0.out B1.out B2.out t1 hp
  refine leaves_cons (f := 49) (args := #[.pointer (some ⟨w.heap.size + 1, 0, none⟩), .pointer (some ⟨w.heap.size + 1 + 1, 0, none⟩), .pointer (some ⟨w.heap.size, 0, none⟩)]) (by simp) (by simp [go_sem]) ?_
  refine (clos_back (w.heap.size + 1) (w.heap.size + 1 + 1) w.heap.size p 5 A n c v' _ _ (by decide) ?_ ?_ ?_ (cell1 d3) (frozen1 d3)).mono ?_
  · rw [cell_of_row _ _ 0 _ _ _ d1]; rfl
  · rw [cell_of_row _ _ 0 _ _ _ d2]; rfl
  · rw [cell_of_row _ _ 0 _ _ _ d0]; rfl
  rintro e u' w'' ⟨rfl, rfl, rfl⟩
  have F : Fr (fun x => x = p) w ((w1.setCell ⟨w.heap.size + 1, 0, none⟩ (.int .i64 0)).setCell ⟨w.heap.size + 1, 0, none⟩ (.int .i64 5)) :=
    (((fr3' w _ _ _).trans R2.out).setCell _ (.inr (Nat.le_succ _))).setCell _ (.inr (Nat.le_succ _))
  have e5 : (((w1.setCell ⟨w.heap.size + 1, 0, none⟩ (.int .i64 0)).setCell ⟨w.heap.size + 1, 0, none⟩ (.int .i64 5)).setCell ⟨p, 1, none⟩ (.slice A n c)).cell? ⟨w.heap.size + 1, 0, none⟩ = some (.int .i64 5) := by
    rw [World.cell?_setCell_other _ _ _ _ (by intro e; injection e with e; omega), cell_of_row _ _ 0 _ _ _ d1]; rfl
  refine ⟨.tuple #[.slice none 0 0, .int .i64 5], by simp [results, Try.results32, go_sem, e5], rfl, ?_⟩
  exact Rd.back G2.out G3.out F d3
set_option maxHeartbeats 2000000 in
theorem roct_trunc (N p g : Nat) (x1 x2 : Int) (l : List Int) (most : Int) (w : World) (h : Rd w p g (x1 :: x2 :: l)) (hN : (N : Int) = num [x1, x2]) (hm : N ≤ most) (hlt : l.length < N) (hN2 : N ≤ 65535) :
    Calls Try.prog 32 #[.pointer (some ⟨p, 0, none⟩), .int .i64 most] w fun e w' => e = .returned (.tuple #[.slice none 0 0, .int .i64 3]) ∧ Rd w' p g (x1 :: x2 :: l) ∧ Fr (· = p) w w' := by
  have H := Lib.hid h
  obtain ⟨v, g1, g2, g3⟩ := h
  have c0 : w.cell? ⟨p, 0, none⟩ = some (.bool true) := by rw [cell_of_row w p 0 _ _ _ g1]; rfl
  have c1 : w.cell? ⟨p, 1, none⟩ = some v := cell1 g1
  have hp := heap_lt g1
  obtain ⟨A, n, c, rfl⟩ : ∃ A n c, v = .slice A n c := by obtain ⟨_, A, c, e, _⟩ := g2; exact ⟨A, _, c, e⟩
  have hgw : g < w.heap.size := by obtain ⟨_, A', c', e, _, _, hx⟩ := g2; exact (hx (by simp)).choose_spec.2.1
  have G1 := Lib.hid g1
  have G2 := Lib.hid g2
  have G3 := Lib.hid g3
  have HN := Lib.hid hN
  clear g1 g2 g3 hN
  have hmf : ∀ (fn : Fn) (first cap : Array Value) (w : World), (Instr.makeFunc fn first cap).run Try.prog w = .ok (.func fn first cap) w := fun _ _ _ _ => rfl
  have HK : Hid (∀ a b c, Rd (((w.alloc a).alloc b).alloc c) p g (x1 :: x2 :: l)) := fun a b c => H.out.keep ((((Fr.refl (fun _ => False) w).alloc a).alloc b).alloc c) (fun x => x) (fun _ x => x)
  go_enter_defers Try.func32, Try.ntmps32
  go_wp2_with fail
  refine (get2_num N p g x1 x2 l _ (HK.out _ _ _) HN.out).mono ?_
  rintro e w1 ⟨rfl, r1, r2⟩
  have B0 : Hid (w1.heap[w.heap.size]? = some (.cells #[.pointer (some ⟨p, 0, none⟩)] 40 (0, 0))) := (r2.block _ (by simp; omega) (by omega)).trans (heap3 w _ _ _).1
  have B1 : Hid (w1.heap[w.heap.size + 1]? = some (.cells #[.int .i64 0] 31 (0, 0))) := (r2.block _ (by simp) (by omega)).trans (heap3 w _ _ _).2.1
  have B2 : Hid (w1.heap[w.heap.size + 1 + 1]? = some (.cells #[.slice A n c] 27 (0, 0))) := (r2.block _ (by simp) (by omega)).trans (heap3 w _ _ _).2.2
  have q1 : w1.cell? ⟨w.heap.size + 1, 0, none⟩ = some (.int .i64 0) := by (rw [cell_of_row w1 _ 0 _ _ _ B1.out]; rfl)
  have q1' : w1.frozen? ⟨w.heap.size + 1, 0, none⟩ = false := frozen_of_row w1 _ 0 _ _ B1.out
  have q0 : w1.cell? ⟨w.heap.size, 0, none⟩ = some (.pointer (some ⟨p, 0, none⟩)) := by (rw [cell_of_row w1 _ 0 _ _ _ B0.out]; rfl)
  have q2 : w1.cell? ⟨w.heap.size + 1 + 1, 0, none⟩ = some (.slice A n c) := by (rw [cell_of_row w1 _ 0 _ _ _ B2.out]; rfl)
  have HG : Hid (∀ x, Rd (w1.setCell ⟨w.heap.size + 1, 0, none⟩ x) p g l) := fun x => r1.keep (S := fun k => k = w.heap.size + 1) (Fr.setCell (Fr.refl _ _) x (.inl rfl)) (by omega) (fun _ e => by omega)
  have R1 := Lib.hid r1
  have R2 := Lib.hid r2
  clear r1 r2
  go_wp2_with fail
  refine (rbytes_trunc p g l N _ (HG.out _) (by omega) (by omega)).mono ?_
  rintro e w2 ⟨rfl, rfl⟩
  go_wp2
  obtain ⟨v', t1, _, _⟩ := R1.out
  obtain ⟨d0, d1, d2, d3⟩ := door 3 B0.out B1.out B2.out t1 hp
  refine leaves_cons (f := 49) (args := #[.pointer (some ⟨w.heap.size + 1, 0, none⟩), .pointer (some ⟨w.heap.size + 1 + 1, 0, none⟩), .pointer (some ⟨w.heap.size, 0, none⟩)]) (by simp) (by simp [go_sem]) ?_
  refine (clos_back (w.heap.size + 1) (w.heap.size + 1 + 1) w.heap.size p 3 A n c v' _ _ (by decide) ?_ ?_ ?_ (cell1 d3) (frozen1 d3)).mono ?_
  · rw [cell_of_row _ _ 0 _ _ _ d1]; rfl
  · rw [cell_of_row _ _ 0 _ _ _ d2]; rfl
  · rw [cell_of_row _ _ 0 _ _ _ d0]; rfl
  rintro e u' w'' ⟨rfl, rfl, rfl⟩
  have F : Fr (fun x => x = p) w ((w1.setCell ⟨w.heap.size + 1, 0, none⟩ (.int .i64 0)).setCell ⟨w.heap.size + 1, 0, none⟩ (.int .i64 3)) :=
    (((fr3' w _ _ _).trans R2.out).setCell _ (.inr (Nat.le_succ _))).setCell _ (.inr (Nat.le_succ _))
  have e5 : (((w1.setCell ⟨w.heap.size + 1, 0, none⟩ (.int .i64 0)).setCell ⟨w.heap.size + 1, 0, none⟩ (.int .i64 3)).setCell ⟨p, 1, none⟩ (.slice A n c)).cell? ⟨w.heap.size + 1, 0, none⟩ = some (.int .i64 3) := by
    rw [World.cell?_setCell_other _ _ _ _ (by intro e; injection e with e; omega), cell_of_row _ _ 0 _ _ _ d1]; rfl
  refine ⟨.tuple #[.slice none 0 0, .int .i64 3], by simp [results, Try.results32, go_sem, e5], rfl, ?_⟩
  exact Rd.back G2.out G3.out F d3

set_option maxHeartbeats 2000000 in
theorem roct_ok (N p g : Nat) (x1 x2 : Int) (l : List Int) (most : Int) (w : World) (h : Rd w p g (x1 :: x2 :: l)) (hN : (N : Int) = num [x1, x2]) (hm : N ≤ most) (hlt : N ≤ l.length) (hlen : l.length ≤ 140737488355328) (hN2 : N ≤ 65535) :
    Calls Try.prog 32 #[.pointer (some ⟨p, 0, none⟩), .int .i64 most] w fun e w' => ∃ q, e = .returned (.tuple #[.slice (some ⟨q, 0, none⟩) N N, .int .i64 0]) ∧ Sl w' q (.slice (some ⟨q, 0, none⟩) N N) (l.take N) ∧ w.heap.size ≤ q ∧ Rd w' p g (l.drop N) ∧ Fr (· = p) w w' := by
  have H := Lib.hid h
  obtain ⟨v, g1, g2, g3⟩ := h
  have c0 : w.cell? ⟨p, 0, none⟩ = some (.bool true) := by rw [cell_of_row w p 0 _ _ _ g1]; rfl
  have c1 : w.cell? ⟨p, 1, none⟩ = some v := cell1 g1
  have hp := heap_lt g1
  obtain ⟨A, n, c, rfl⟩ : ∃ A n c, v = .slice A n c := by obtain ⟨_, A, c, e, _⟩ := g2; exact ⟨A, _, c, e⟩
  have hgw : g < w.heap.size := by obtain ⟨_, A', c', e, _, _, hx⟩ := g2; exact (hx (by simp)).choose_spec.2.1
  have G1 := Lib.hid g1
  have G2 := Lib.hid g2
  have G3 := Lib.hid g3
  have HN := Lib.hid hN
  clear g1 g2 g3 hN
  have hmf : ∀ (fn : Fn) (first cap : Array Value) (w : World), (Instr.makeFunc fn first cap).run Try.prog w = .ok (.func fn first cap) w := fun _ _ _ _ => rfl
  have HK : Hid (∀ a b c, Rd (((w.alloc a).alloc b).alloc c) p g (x1 :: x2 :: l)) := fun a b c => H.out.keep ((((Fr.refl (fun _ => False) w).alloc a).alloc b).alloc c) (fun x => x) (fun _ x => x)
  go_enter_defers Try.func32, Try.ntmps32
  go_wp2_with fail
  refine (get2_num N p g x1 x2 l _ (HK.out _ _ _) HN.out).mono ?_
  rintro e w1 ⟨rfl, r1, r2⟩
  have B0 : Hid (w1.heap[w.heap.size]? = some (.cells #[.pointer (some ⟨p, 0, none⟩)] 40 (0, 0))) := (r2.block _ (by simp; omega) (by omega)).trans (heap3 w _ _ _).1
  have B1 : Hid (w1.heap[w.heap.size + 1]? = some (.cells #[.int .i64 0] 31 (0, 0))) := (r2.block _ (by simp) (by omega)).trans (heap3 w _ _ _).2.1
  have B2 : Hid (w1.heap[w.heap.size + 1 + 1]? = some (.cells #[.slice A n c] 27 (0, 0))) := (r2.block _ (by simp) (by omega)).trans (heap3 w _ _ _).2.2
  have q1 : w1.cell? ⟨w.heap.size + 1, 0, none⟩ = some (.int .i64 0) := by (rw [cell_of_row w1 _ 0 _ _ _ B1.out]; rfl)
  have q1' : w1.frozen? ⟨w.heap.size + 1, 0, none⟩ = false := frozen_of_row w1 _ 0 _ _ B1.out
  have q0 : w1.cell? ⟨w.heap.size, 0, none⟩ = some (.pointer (some ⟨p, 0, none⟩)) := by (rw [cell_of_row w1 _ 0 _ _ _ B0.out]; rfl)
  have q2 : w1.cell? ⟨w.heap.size + 1 + 1, 0, none⟩ = some (.slice A n c) := by (rw [cell_of_row w1 _ 0 _ _ _ B2.out]; rfl)
  have HG : Hid (∀ x, Rd (w1.setCell ⟨w.heap.size + 1, 0, none⟩ x) p g l) := fun x => r1.keep (S := fun k => k = w.heap.size + 1) (Fr.setCell (Fr.refl _ _) x (.inl rfl)) (by omega) (fun _ e => by omega)
  have R1 := Lib.hid r1
  have R2 := Lib.hid r2
  clear r1 r2
  go_wp2_with fail
  refine (rbytes_ok p g l N _ (HG.out _) hlt hlen).mono ?_
  rintro e w2 ⟨q, rfl, u1, u2, u3, u4⟩
  have e1 : Hid ((w1.setCell ⟨w.heap.size + 1, 0, none⟩ (.int .i64 0)).heap[w.heap.size + 1]? = some (.cells #[.int .i64 0] 31 (0, 0))) := heap_setCell_same _ _ 0 _ _ _ B1.out
  have e2 : Hid (w2.heap[w.heap.size + 1]? = some (.cells #[.int .i64 0] 31 (0, 0))) := (u4.block _ (heap_lt e1.out) (by omega)).trans e1.out
  have e3 : w2.cell? ⟨w.heap.size + 1, 0, none⟩ = some (.int .i64 0) := by rw [cell_of_row _ _ 0 _ _ _ e2.out]; rfl
  have e4 : w2.frozen? ⟨w.heap.size + 1, 0, none⟩ = false := frozen_of_row _ _ 0 _ _ e2.out
  have U1 := Lib.hid u1
  have U2 := Lib.hid u2
  have U3 := Lib.hid u3
  have U4 := Lib.hid u4
  clear u1 u2 u3 u4
  go_wp2
  refine leaves_cons (f := 49) (args := #[.pointer (some ⟨w.heap.size + 1, 0, none⟩), .pointer (some ⟨w.heap.size + 1 + 1, 0, none⟩), .pointer (some ⟨w.heap.size, 0, none⟩)]) (by simp) (by simp [go_sem]) ?_
  have E : (w2.setCell ⟨w.heap.size + 1, 0, none⟩ (.int .i64 0)).cell? ⟨w.heap.size + 1, 0, none⟩ = some (.int .i64 0) := by rw [cell_of_row _ _ 0 _ _ _ (heap_setCell_same _ _ 0 _ _ _ e2.out)]; rfl
  refine (clos_idle (w.heap.size + 1) _ _ _ _ E).mono ?_
  rintro e u' w'' ⟨rfl, rfl, rfl⟩
  refine ⟨.tuple #[.slice (some ⟨q, 0, none⟩) N N, .int .i64 0], by simp [results, Try.results32, go_sem, E], q, rfl, ?_⟩
  have hq : w.heap.size + 1 + 1 < q := Nat.lt_of_lt_of_le (heap_lt B2.out) (by have := U2.out; rwa [heap_size_setCell] at this)
  have F0 : Fr (fun k => k = w.heap.size + 1) w2 (w2.setCell ⟨w.heap.size + 1, 0, none⟩ (.int .i64 0)) := Fr.setCell (Fr.refl _ _) _ (.inl rfl)
  have F : Fr (fun x => x = p) w (w2.setCell ⟨w.heap.size + 1, 0, none⟩ (.int .i64 0)) :=
    (((((fr3' w _ _ _).trans R2.out).setCell _ (.inr (Nat.le_succ _))).trans' U4.out (fun _ _ x => x))).setCell _ (.inr (Nat.le_succ _))
  exact ⟨U1.out.fr F0 (fun _ e => by omega), by omega, U3.out.keep F0 (by omega) (fun _ e => by omega), F⟩
end Go.Proofs.Ytkkicekhkidhjaa
