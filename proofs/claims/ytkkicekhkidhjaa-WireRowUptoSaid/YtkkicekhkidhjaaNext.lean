/- The walk of WireNext: whatever the number and the size, the law answers true and turns nothing that was there. -/
import Derived.Test.YtkkicekhkidhjaaNum
namespace Go.Proofs.Ytkkicekhkidhjaa
set_option linter.unusedSimpArgs false
set_option linter.unusedVariables false
open Go.RowKit

theorem putE_ok {n : Int} {k : Nat} (h1 : 1 ≤ k) (h8 : k ≤ 8) (hn : 0 ≤ n) (hf : k < 8 → n < (256 : Int) ^ k) : putE n k = 0 := by
  unfold putE
  rw [if_neg (by omega), if_neg]
  rintro (h | ⟨h, h'⟩)
  · omega
  · rw [Int.toNat_natCast] at h'
    have := hf (by omega)
    omega
theorem pl_ok {n : Int} {k : Nat} (h1 : 1 ≤ k) (h8 : k ≤ 8) (hn : 0 ≤ n) (hf : k < 8 → n < (256 : Int) ^ k) : pl n k = beN n k := by
  unfold pl
  rw [if_pos (putE_ok h1 h8 hn hf), Int.toNat_natCast]
theorem putE_no {n : Int} {k : Nat} (h1 : 1 ≤ k) (h8 : k ≤ 8) (h : n < 0 ∨ (k < 8 ∧ (256 : Int) ^ k ≤ n)) : putE n k = 9 := by
  unfold putE
  rw [if_neg (by omega), if_pos]
  rcases h with h | ⟨h, h'⟩
  · exact .inl h
  · exact .inr ⟨by omega, by rw [Int.toNat_natCast]; exact h'⟩
theorem pl_no {n : Int} {k : Nat} (h1 : 1 ≤ k) (h8 : k ≤ 8) (h : n < 0 ∨ (k < 8 ∧ (256 : Int) ^ k ≤ n)) : pl n k = [] := by
  unfold pl
  rw [if_neg (by rw [putE_no h1 h8 h]; decide)]

set_option maxHeartbeats 1000000 in
theorem wout_whole (p : Nat) (v : Value) (l : List Int) (w : World) (h : Wr w p v l) (hlen : l.length ≤ 140737488355328) :
    Calls Try.prog 21 #[.pointer (some ⟨p, 0, none⟩)] w fun e w' => e = .returned (.slice (some ⟨w.heap.size, 0, none⟩) l.length l.length) ∧ w'.heap[w.heap.size]? = some (.cells (bs l).toArray 5 (0, 0)) ∧ Fr (fun _ => False) w w' := by
  have c0 : w.cell? ⟨p, 0, none⟩ = some (.bool true) := by rw [cell_of_row w p 0 _ _ _ h.1]; rfl
  have hsl := h.sl
  obtain ⟨A1, C1, rfl⟩ := h.shape
  have c1 : w.cell? ⟨p, 1, none⟩ = some (.slice A1 l.length C1) := by rw [cell_of_row w p 1 _ _ _ h.1]; rfl
  have HS := Lib.hid hsl
  clear h hsl
  go_enter Try.func21, Try.ntmps21
  go_wp2_with (go_at_call 45; refine (copyOf_any _ A1 l.length C1 l _ HS.out hlen).mono ?_; rintro e w1 ⟨rfl, r1, r2⟩; have R1 := Lib.hid r1; have R2 := Lib.hid r2; clear r1 r2)
  go_ret
  exact ⟨rfl, R1.out, R2.out⟩

/-- The helper 'put': its block whole. -/
theorem lput_whole (n size : Int) (N : Nat) (l : List Int) (w : World) (hm : n ≤ 9223372036854775807) (hl : pl n size = l) (hN : l.length = N) :
    Calls Try.prog 39 #[.int .i64 n, .int .i64 size] w fun e w' => ∃ q, e = .returned (.slice (some ⟨q, 0, none⟩) N N) ∧ w'.heap[q]? = some (.cells (bs l).toArray 5 (0, 0)) ∧ w.heap.size ≤ q ∧ Fr (fun _ => False) w w' := by
  have HL := Lib.hid hl
  have HN := Lib.hid hN
  clear hl hN
  go_enter Try.func39, Try.ntmps39
  go_wp2_with fail
  refine (write_any _).mono ?_
  rintro e w1 ⟨rfl, r1, r2⟩
  have M1 := Lib.hid (Mine.mk r1 r2 (Nat.le_refl _) (fun k e => by cases e))
  clear r1 r2
  go_wp2_with fail
  refine (put_any w.heap.size _ [] n size _ M1.out.wr hm (by decide)).mono ?_
  rintro e w2 ⟨rfl, v2, r1, r2, r3⟩
  have M2 : Hid (Mine w w.heap.size v2 (pl n size) w2) := M1.out.step r1 r2 r3
  clear r1 r2 r3 M1
  go_wp2_with fail
  refine (wout_whole w.heap.size v2 _ _ M2.out.wr (Nat.le_trans (pl_length n size) (by decide))).mono ?_
  rintro e w3 ⟨rfl, r1, r2⟩
  have M3 := Lib.hid (M2.out.quiet r2)
  have S3 := Lib.hid r1
  have h3 : w.heap.size ≤ w2.heap.size := M2.out.fr.size
  clear r1 r2 M2
  go_wp2_with fail
  go_ret
  have e1 := HL.out
  have e2 := HN.out
  subst e1
  subst e2
  exact ⟨w2.heap.size, rfl, S3.out, h3, M3.out.fr⟩

theorem next_step {n : Int} {k m t : Nat} {n' : Int} (hk : m + 1 + t = k) (h0 : 0 ≤ n') (h1 : n' ≤ 9223372036854775806) (hk8 : k ≤ 8) (hf : n' < (256 : Int) ^ (m + 1)) (h255 : n' % 256 = 255)
    (he : beN (n + 1) k = beN (n' + 1) (m + 1) ++ List.replicate t 0) (hi : n + 1 < (256 : Int) ^ k ↔ n' + 1 < (256 : Int) ^ (m + 1)) :
    n' / 256 < (256 : Int) ^ m ∧ beN (n + 1) k = beN (n' / 256 + 1) m ++ List.replicate (t + 1) 0 ∧ (n + 1 < (256 : Int) ^ k ↔ n' / 256 + 1 < (256 : Int) ^ m) ∧
      beN n' (m + 1) ++ List.replicate t 0 = beN (n' / 256) m ++ 255 :: List.replicate t 0 := by
  rw [Int.pow_succ] at hf hi
  refine ⟨by omega, ?_, by rw [hi]; omega, ?_⟩
  · rw [he, beN_succ (n' + 1) m (by omega) (by omega) (by omega), show (n' + 1) / 256 = n' / 256 + 1 by omega, show (n' + 1) % 256 = 0 by omega, List.append_assoc]
    rfl
  · rw [beN_succ n' m (by omega) h0 (by omega), h255, List.append_assoc]
    rfl

theorem beN_len' (n : Int) (m : Nat) (h : m ≤ 8) : (beN n m).length = m := beN_length n m h

/-- A cell of a block of bytes. -/
theorem cell_bs {w : World} {q : Nat} {l r : List Int} {b : Int} (h : w.heap[q]? = some (.cells (bs (l ++ b :: r)).toArray 5 (0, 0))) : w.cell? ⟨q, l.length, none⟩ = some (.int .u8 b) := by
  rw [cell_of_row w q _ _ _ _ h]
  simp [bs]
theorem set_bs {w : World} {q : Nat} {l r : List Int} {b c : Int} (h : w.heap[q]? = some (.cells (bs (l ++ b :: r)).toArray 5 (0, 0))) : (w.setCell ⟨q, l.length, none⟩ (.int .u8 c)).heap[q]? = some (.cells (bs (l ++ c :: r)).toArray 5 (0, 0)) := by
  rw [heap_setCell_same w q _ _ _ _ h]
  congr 2
  apply Array.toList_inj.1
  simp [bs]
end Go.Proofs.Ytkkicekhkidhjaa
