/- The reader's Bytes and Octets once more: what they answer lies in a block that may be written. Condition: a reader that lies in memory. -/
import Derived.Test.YtkkicekhkidhjaaSpoil
namespace Go.Proofs.Ytkkicekhkidhjaa
set_option linter.unusedSimpArgs false
set_option linter.unusedVariables false
open Go.RowKit

set_option maxHeartbeats 1000000 in
theorem rbytes_nf (p g : Nat) (l : List Int) (k : Nat) (w : World) (h : Rd w p g l) (hk : k ≤ l.length) (hlen : l.length ≤ 140737488355328) :
    Calls Try.prog 30 #[.pointer (some ⟨p, 0, none⟩), .int .i64 k] w fun e w' => ∃ q, e = .returned (.tuple #[.slice (some ⟨q, 0, none⟩) k k, .int .i64 0]) ∧ Sl w' q (.slice (some ⟨q, 0, none⟩) k k) (l.take k) ∧ w.heap.size ≤ q ∧ Rd w' p g (l.drop k) ∧ Fr (· = p) w w' ∧ NF w' q := by
  obtain ⟨v, g1, g2, g3⟩ := h
  have c0 : w.cell? ⟨p, 0, none⟩ = some (.bool true) := by rw [cell_of_row w p 0 _ _ _ g1]; rfl
  have c1 : w.cell? ⟨p, 1, none⟩ = some v := by rw [cell_of_row w p 1 _ _ _ g1]; rfl
  have hp := heap_lt g1
  obtain ⟨A, n, c, rfl⟩ : ∃ A n c, v = .slice A n c := by obtain ⟨_, A, c, e, _⟩ := g2; exact ⟨A, _, c, e⟩
  have hn := g2.len
  have hcap : n ≤ c ∧ c ≤ maxLen := by obtain ⟨_, A', c', e, h1, h2, _⟩ := g2; injection e with _ e2 e3; omega
  have hkn : k ≤ n := by omega
  have hk2 : k ≤ 140737488355328 := by omega
  obtain ⟨A', hA'⟩ : ∃ A', A' = (if c = k then A else A.map (·.add k)) := ⟨_, rfl⟩
  obtain ⟨A1, hA1⟩ : ∃ A1, A1 = (if c = 0 then A else A.map (·.add 0)) := ⟨_, rfl⟩
  have eA : A1 = A := by
    rw [hA1]
    split
    · rfl
    · rcases A with _ | a
      · rfl
      · show some (a.add 0) = some a
        unfold Addr.add
        simp
  have HDR : Hid (Sl w g (.slice A' (n - k) (c - k)) (l.drop k)) := by
    have := g2.drop k hk
    rw [hn] at this
    rw [hA']
    exact this
  have HTK : Hid (Sl w g (.slice A1 k c) (l.take k)) := by
    rw [eA]
    exact g2.take k hk
  have HTB : Hid (Bys (l.take k)) := g2.1.take k
  have HTL : Hid ((l.take k).length = k) := by
    show (l.take k).length = k
    rw [List.length_take]; exact Nat.min_eq_left hk
  have hsl : ∀ W : World, (Instr.sliceAt 27 (.slice A n c) (some (.int .i64 k)) none none).run Try.prog W = .ok (.slice A' (n - k) (c - k)) W := by
    intro W
    rw [run_sliceAt_slice W 27 _ _ _ _ (by kernel_rfl), run_slice_l W 27 A n c (by kernel_rfl) .i64 k (by omega) (by omega)]
    rw [hA', Int.toNat_natCast]
    have e : (sizeOf (Try.prog.elem 27)).run Try.prog W = .ok 1 W := by kernel_rfl
    rw [e]
    simp [Result.andThen, sliced]
  have hsl2 : ∀ W : World, (Instr.sliceAt 27 (.slice A n c) none (some (.int .i64 k)) none).run Try.prog W = .ok (.slice A1 k c) W := by
    intro W
    rw [run_sliceAt_slice W 27 _ _ _ _ (by kernel_rfl), run_slice_h W 27 A n c (by kernel_rfl) .i64 k (by omega) (by omega)]
    rw [hA1, Int.toNat_natCast]
    have e : (sizeOf (Try.prog.elem 27)).run Try.prog W = .ok 1 W := by kernel_rfl
    rw [e]
    simp [Result.andThen, sliced]
  have G1 := Lib.hid g1
  have G3 := Lib.hid g3
  clear g1 g2 g3 hn hA' hA1 eA hk
  go_enter Try.func30, Try.ntmps30
  go_wp2_with (go_at_call 45; refine (copyOf_any g A1 k c (l.take k) _ HTK.out (by omega)).mono ?_; rintro e w1 ⟨rfl, r1, r2⟩
               have W1 : Hid (w1.heap[p]? = some (.cells #[.bool true, .slice A n c] 61 (0, 0))) := (r2.block p hp (fun x => x)).trans G1.out
               have k1 : w1.cell? ⟨p, 1, none⟩ = some (.slice A n c) := by (rw [cell_of_row w1 p 1 _ _ _ W1.out]; rfl)
               have k2 : w1.frozen? ⟨p, 1, none⟩ = false := frozen_of_row w1 p 1 _ _ W1.out
               have R1 := Lib.hid r1; have R2 := Lib.hid r2; clear r1 r2)
  go_ret2
  have F : Fr (fun x => x = p) w (w1.setCell ⟨p, 1, none⟩ (.slice A' (n - k) (c - k))) := Fr.setCell R2.out.any (p := ⟨p, 1, none⟩) _ (.inl rfl)
  have F1 : Fr (fun x => x = p) w1 (w1.setCell ⟨p, 1, none⟩ (.slice A' (n - k) (c - k))) := Fr.setCell (Fr.refl _ _) (p := ⟨p, 1, none⟩) _ (.inl rfl)
  have hb : Sl w1 w.heap.size (.slice (some ⟨w.heap.size, 0, none⟩) (l.take k).length (l.take k).length) (l.take k) := Sl.block HTB.out R1.out (fun j _ => by simp) (Nat.le_refl _) (by rw [HTL.out]; omega)
  rw [HTL.out] at hb
  refine ⟨w.heap.size, rfl, hb.fr F1 (fun _ e => by omega), Nat.le_refl _, ⟨_, ?_, HDR.out.fr F (fun _ e => G3.out e.symm), G3.out⟩, F, NF.fr ⟨_, _, R1.out⟩ F1 (by omega)⟩
  exact heap_setCell_same w1 p 1 _ _ _ W1.out

set_option maxHeartbeats 2000000 in
theorem roct_nf (N p g : Nat) (x1 x2 : Int) (l : List Int) (most : Int) (w : World) (h : Rd w p g (x1 :: x2 :: l)) (hN : (N : Int) = num [x1, x2]) (hm : N ≤ most) (hlt : N ≤ l.length) (hlen : l.length ≤ 140737488355328) (hN2 : N ≤ 65535) :
    Calls Try.prog 32 #[.pointer (some ⟨p, 0, none⟩), .int .i64 most] w fun e w' => ∃ q, e = .returned (.tuple #[.slice (some ⟨q, 0, none⟩) N N, .int .i64 0]) ∧ Sl w' q (.slice (some ⟨q, 0, none⟩) N N) (l.take N) ∧ w.heap.size ≤ q ∧ Rd w' p g (l.drop N) ∧ Fr (· = p) w w' ∧ NF w' q := by
  have H := Lib.hid h
  obtain ⟨v, g1, g2, g3⟩ := h
  have c0 : w.cell? ⟨p, 0, none⟩ = some (.bool true) := by rw [cell_of_row w p 0 _ _ _ g1]; rfl
  have c1 : w.cell? ⟨p, 1, none⟩ = some v := cell1 g1
  have hp := heap_lt g1
  obtain ⟨A, n, c, rfl⟩ : ∃ A n c, v = .slice A n c := by obtain ⟨_, A, c, e, _⟩ := g2; exact ⟨A, _, c, e⟩
  have hgw : g < w.heap.size := by obtain ⟨_, A', c', e, _, _, hx⟩ := g2; exact (hx (by simp)).choose_spec.2.1
  have G1 := Lib.hid g1
  have G2 := Lib.hid g2
  have G3 := Lib.hid g3
  have HN := Lib.hid hN
  clear g1 g2 g3 hN
  have hmf : ∀ (fn : Fn) (first cap : Array Value) (w : World), (Instr.makeFunc fn first cap).run Try.prog w = .ok (.func fn first cap) w := fun _ _ _ _ => rfl
  have HK : Hid (∀ a b c, Rd (((w.alloc a).alloc b).alloc c) p g (x1 :: x2 :: l)) := fun a b c => H.out.keep ((((Fr.refl (fun _ => False) w).alloc a).alloc b).alloc c) (fun x => x) (fun _ x => x)
  go_enter_defers Try.func32, Try.ntmps32
  go_wp2_with fail
  refine (get2_num N p g x1 x2 l _ (HK.out _ _ _) HN.out).mono ?_
  rintro e w1 ⟨rfl, r1, r2⟩
  have B0 : Hid (w1.heap[w.heap.size]? = some (.cells #[.pointer (some ⟨p, 0, none⟩)] 40 (0, 0))) := (r2.block _ (by simp; omega) (by omega)).trans (heap3 w _ _ _).1
  have B1 : Hid (w1.heap[w.heap.size + 1]? = some (.cells #[.int .i64 0] 31 (0, 0))) := (r2.block _ (by simp) (by omega)).trans (heap3 w _ _ _).2.1
  have B2 : Hid (w1.heap[w.heap.size + 1 + 1]? = some (.cells #[.slice A n c] 27 (0, 0))) := (r2.block _ (by simp) (by omega)).trans (heap3 w _ _ _).2.2
  have q1 : w1.cell? ⟨w.heap.size + 1, 0, none⟩ = some (.int .i64 0) := by (rw [cell_of_row w1 _ 0 _ _ _ B1.out]; rfl)
  have q1' : w1.frozen? ⟨w.heap.size + 1, 0, none⟩ = false := frozen_of_row w1 _ 0 _ _ B1.out
  have q0 : w1.cell? ⟨w.heap.size, 0, none⟩ = some (.pointer (some ⟨p, 0, none⟩)) := by (rw [cell_of_row w1 _ 0 _ _ _ B0.out]; rfl)
  have q2 : w1.cell? ⟨w.heap.size + 1 + 1, 0, none⟩ = some (.slice A n c) := by (rw [cell_of_row w1 _ 0 _ _ _ B2.out]; rfl)
  have HG : Hid (∀ x, Rd (w1.setCell ⟨w.heap.size + 1, 0, none⟩ x) p g l) := fun x => r1.keep (S := fun k => k = w.heap.size + 1) (Fr.setCell (Fr.refl _ _) x (.inl rfl)) (by omega) (fun _ e => by omega)
  have R1 := Lib.hid r1
  have R2 := Lib.hid r2
  clear r1 r2
  go_wp2_with fail
  refine (rbytes_nf p g l N _ (HG.out _) hlt hlen).mono ?_
  rintro e w2 ⟨q, rfl, u1, u2, u3, u4, u5⟩
  have U5 := Lib.hid u5
  clear u5
  have e1 : Hid ((w1.setCell ⟨w.heap.size + 1, 0, none⟩ (.int .i64 0)).heap[w.heap.size + 1]? = some (.cells #[.int .i64 0] 31 (0, 0))) := heap_setCell_same _ _ 0 _ _ _ B1.out
  have e2 : Hid (w2.heap[w.heap.size + 1]? = some (.cells #[.int .i64 0] 31 (0, 0))) := (u4.block _ (heap_lt e1.out) (by omega)).trans e1.out
  have e3 : w2.cell? ⟨w.heap.size + 1, 0, none⟩ = some (.int .i64 0) := by rw [cell_of_row _ _ 0 _ _ _ e2.out]; rfl
  have e4 : w2.frozen? ⟨w.heap.size + 1, 0, none⟩ = false := frozen_of_row _ _ 0 _ _ e2.out
  have U1 := Lib.hid u1
  have U2 := Lib.hid u2
  have U3 := Lib.hid u3
  have U4 := Lib.hid u4
  clear u1 u2 u3 u4
  go_wp2
  refine leaves_cons (f := 49) (args := #[.pointer (some ⟨w.heap.size + 1, 0, none⟩), .pointer (some ⟨w.heap.size + 1 + 1, 0, none⟩), .pointer (some ⟨w.heap.size, 0, none⟩)]) (by simp) (by simp [go_sem]) ?_
  have E : (w2.setCell ⟨w.heap.size + 1, 0, none⟩ (.int .i64 0)).cell? ⟨w.heap.size + 1, 0, none⟩ = some (.int .i64 0) := by rw [cell_of_row _ _ 0 _ _ _ (heap_setCell_same _ _ 0 _ _ _ e2.out)]; rfl
  refine (clos_idle (w.heap.size + 1) _ _ _ _ E).mono ?_
  rintro e u' w'' ⟨rfl, rfl, rfl⟩
  refine ⟨.tuple #[.slice (some ⟨q, 0, none⟩) N N, .int .i64 0], by simp [results, Try.results32, go_sem, E], q, rfl, ?_⟩
  have hq : w.heap.size + 1 + 1 < q := Nat.lt_of_lt_of_le (heap_lt B2.out) (by have := U2.out; rwa [heap_size_setCell] at this)
  have F0 : Fr (fun k => k = w.heap.size + 1) w2 (w2.setCell ⟨w.heap.size + 1, 0, none⟩ (.int .i64 0)) := Fr.setCell (Fr.refl _ _) _ (.inl rfl)
  have F : Fr (fun x => x = p) w (w2.setCell ⟨w.heap.size + 1, 0, none⟩ (.int .i64 0)) :=
    (((((fr3' w _ _ _).trans R2.out).setCell _ (.inr (Nat.le_succ _))).trans' U4.out (fun _ _ x => x))).setCell _ (.inr (Nat.le_succ _))
  exact ⟨U1.out.fr F0 (fun _ e => by omega), by omega, U3.out.keep F0 (by omega) (fun _ e => by omega), F, U5.out.fr F0 (by omega)⟩
end Go.Proofs.Ytkkicekhkidhjaa
