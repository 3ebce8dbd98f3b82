/- What the reader's Bytes leaves and answers. Condition: a reader that lies in memory, and not more bytes than a machine has. -/
import Derived.Test.YtkkicekhkidhjaaReader
namespace Go.Proofs.Ytkkicekhkidhjaa
set_option linter.unusedSimpArgs false
set_option linter.unusedVariables false
open Go.RowKit

theorem rbytes_neg (p g : Nat) (l : List Int) (n : Int) (w : World) (h : Rd w p g l) (hn : n < 0) :
    Calls Try.prog 30 #[.pointer (some ⟨p, 0, none⟩), .int .i64 n] w fun e w' => e = .returned (.tuple #[.slice none 0 0, .int .i64 2]) ∧ w = w' := by
  obtain ⟨v, h1, h2, h3⟩ := h
  have c0 : w.cell? ⟨p, 0, none⟩ = some (.bool true) := by rw [cell_of_row w p 0 _ _ _ h1]; rfl
  clear h1
  go_enter Try.func30, Try.ntmps30
  go_wp2
  go_ret2
  exact ⟨rfl, rfl⟩

theorem rbytes_trunc (p g : Nat) (l : List Int) (n : Int) (w : World) (h : Rd w p g l) (h0 : 0 ≤ n) (hn : (l.length : Int) < n) :
    Calls Try.prog 30 #[.pointer (some ⟨p, 0, none⟩), .int .i64 n] w fun e w' => e = .returned (.tuple #[.slice none 0 0, .int .i64 3]) ∧ w = w' := by
  obtain ⟨v, h1, h2, h3⟩ := h
  have c0 : w.cell? ⟨p, 0, none⟩ = some (.bool true) := by rw [cell_of_row w p 0 _ _ _ h1]; rfl
  have c1 : w.cell? ⟨p, 1, none⟩ = some v := by rw [cell_of_row w p 1 _ _ _ h1]; rfl
  obtain ⟨_, A, c, rfl, _⟩ := h2
  clear h1
  go_enter Try.func30, Try.ntmps30
  go_wp2
  go_ret2
  exact ⟨rfl, rfl⟩

set_option maxHeartbeats 1000000 in
theorem rbytes_ok (p g : Nat) (l : List Int) (k : Nat) (w : World) (h : Rd w p g l) (hk : k ≤ l.length) (hlen : l.length ≤ 140737488355328) :
    Calls Try.prog 30 #[.pointer (some ⟨p, 0, none⟩), .int .i64 k] w fun e w' => ∃ q, e = .returned (.tuple #[.slice (some ⟨q, 0, none⟩) k k, .int .i64 0]) ∧ Sl w' q (.slice (some ⟨q, 0, none⟩) k k) (l.take k) ∧ w.heap.size ≤ q ∧ Rd w' p g (l.drop k) ∧ Fr (· = p) w w' := by
  obtain ⟨v, g1, g2, g3⟩ := h
  have c0 : w.cell? ⟨p, 0, none⟩ = some (.bool true) := by rw [cell_of_row w p 0 _ _ _ g1]; rfl
  have c1 : w.cell? ⟨p, 1, none⟩ = some v := by rw [cell_of_row w p 1 _ _ _ g1]; rfl
  have hp := heap_lt g1
  obtain ⟨A, n, c, rfl⟩ : ∃ A n c, v = .slice A n c := by obtain ⟨_, A, c, e, _⟩ := g2; exact ⟨A, _, c, e⟩
  have hn := g2.len
  have hcap : n ≤ c ∧ c ≤ maxLen := by obtain ⟨_, A', c', e, h1, h2, _⟩ := g2; injection e with _ e2 e3; omega
  have hkn : k ≤ n := by omega
  have hk2 : k ≤ 140737488355328 := by omega
  obtain ⟨A', hA'⟩ : ∃ A', A' = (if c = k then A else A.map (·.add k)) := ⟨_, rfl⟩
  obtain ⟨A1, hA1⟩ : ∃ A1, A1 = (if c = 0 then A else A.map (·.add 0)) := ⟨_, rfl⟩
  have eA : A1 = A := by
    rw [hA1]
    split
    · rfl
    · rcases A with _ | a
      · rfl
      · show some (a.add 0) = some a
        unfold Addr.add
        simp
  have HDR : Hid (Sl w g (.slice A' (n - k) (c - k)) (l.drop k)) := by
    have := g2.drop k hk
    rw [hn] at this
    rw [hA']
    exact this
  have HTK : Hid (Sl w g (.slice A1 k c) (l.take k)) := by
    rw [eA]
    exact g2.take k hk
  have HTB : Hid (Bys (l.take k)) := g2.1.take k
  have HTL : Hid ((l.take k).length = k) := by
    show (l.take k).length = k
    rw [List.length_take]; exact Nat.min_eq_left hk
  have hsl : ∀ W : World, (Instr.sliceAt 27 (.slice A n c) (some (.int .i64 k)) none none).run Try.prog W = .ok (.slice A' (n - k) (c - k)) W := by
    intro W
    rw [run_sliceAt_slice W 27 _ _ _ _ (by kernel_rfl), run_slice_l W 27 A n c (by kernel_rfl) .i64 k (by omega) (by omega)]
    rw [hA', Int.toNat_natCast]
    have e : (sizeOf (Try.prog.elem 27)).run Try.prog W = .ok 1 W := by kernel_rfl
    rw [e]
    simp [Result.andThen, sliced]
  have hsl2 : ∀ W : World, (Instr.sliceAt 27 (.slice A n c) none (some (.int .i64 k)) none).run Try.prog W = .ok (.slice A1 k c) W := by
    intro W
    rw [run_sliceAt_slice W 27 _ _ _ _ (by kernel_rfl), run_slice_h W 27 A n c (by kernel_rfl) .i64 k (by omega) (by omega)]
    rw [hA1, Int.toNat_natCast]
    have e : (sizeOf (Try.prog.elem 27)).run Try.prog W = .ok 1 W := by kernel_rfl
    rw [e]
    simp [Result.andThen, sliced]
  have G1 := Lib.hid g1
  have G3 := Lib.hid g3
  clear g1 g2 g3 hn hA' hA1 eA hk
  go_enter Try.func30, Try.ntmps30
  go_wp2_with (go_at_call 45; refine (copyOf_any g A1 k c (l.take k) _ HTK.out (by omega)).mono ?_; rintro e w1 ⟨rfl, r1, r2⟩
               have W1 : Hid (w1.heap[p]? = some (.cells #[.bool true, .slice A n c] 61 (0, 0))) := (r2.block p hp (fun x => x)).trans G1.out
               have k1 : w1.cell? ⟨p, 1, none⟩ = some (.slice A n c) := by (rw [cell_of_row w1 p 1 _ _ _ W1.out]; rfl)
               have k2 : w1.frozen? ⟨p, 1, none⟩ = false := frozen_of_row w1 p 1 _ _ W1.out
               have R1 := Lib.hid r1; have R2 := Lib.hid r2; clear r1 r2)
  go_ret2
  have F : Fr (fun x => x = p) w (w1.setCell ⟨p, 1, none⟩ (.slice A' (n - k) (c - k))) := Fr.setCell R2.out.any (p := ⟨p, 1, none⟩) _ (.inl rfl)
  have F1 : Fr (fun x => x = p) w1 (w1.setCell ⟨p, 1, none⟩ (.slice A' (n - k) (c - k))) := Fr.setCell (Fr.refl _ _) (p := ⟨p, 1, none⟩) _ (.inl rfl)
  have hb : Sl w1 w.heap.size (.slice (some ⟨w.heap.size, 0, none⟩) (l.take k).length (l.take k).length) (l.take k) := Sl.block HTB.out R1.out (fun j _ => by simp) (Nat.le_refl _) (by rw [HTL.out]; omega)
  rw [HTL.out] at hb
  refine ⟨w.heap.size, rfl, hb.fr F1 (fun _ e => by omega), Nat.le_refl _, ⟨_, ?_, HDR.out.fr F (fun _ e => G3.out e.symm), G3.out⟩, F⟩
  exact heap_setCell_same w1 p 1 _ _ _ W1.out
end Go.Proofs.Ytkkicekhkidhjaa
