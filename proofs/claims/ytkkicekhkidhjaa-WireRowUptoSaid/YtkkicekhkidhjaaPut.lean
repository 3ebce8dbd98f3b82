/- What Put leaves, all cases in one; what the statements' helper 'put' answers. Condition: a number of the machine's. -/
import Derived.Test.YtkkicekhkidhjaaMine
namespace Go.Proofs.Ytkkicekhkidhjaa
set_option linter.unusedSimpArgs false
set_option linter.unusedVariables false
open Go.RowKit

/-- What Put writes. -/
def pl (n size : Int) : List Int := if putE n size = 0 then beN n size.toNat else []

theorem pl_length (n size : Int) : (pl n size).length ≤ 8 := by
  unfold pl
  split
  · unfold beN be; simp
  · simp

theorem put_any (p : Nat) (v : Value) (l : List Int) (n size : Int) (w : World) (h : Wr w p v l) (hm : n ≤ 9223372036854775807) (hlen : l.length ≤ 140737488355000) :
    Calls Try.prog 15 #[.pointer (some ⟨p, 0, none⟩), .int .i64 n, .int .i64 size] w fun e w' => e = .returned (.int .i64 (putE n size)) ∧ ∃ v', Wr w' p v' (l ++ pl n size) ∧ Fr (Tw p v) w w' ∧ (∀ k, v'.ownBlock = some k → v.ownBlock = some k ∨ w.heap.size ≤ k) := by
  have same : ∀ x : Int, putE n size = x → x ≠ 0 → ∀ (e : Ending) (w' : World), e = .returned (.int .i64 x) ∧ w = w' → e = .returned (.int .i64 (putE n size)) ∧ ∃ v', Wr w' p v' (l ++ pl n size) ∧ Fr (Tw p v) w w' ∧ (∀ k, v'.ownBlock = some k → v.ownBlock = some k ∨ w.heap.size ≤ k) := by
    rintro x hx hx0 e w' ⟨rfl, rfl⟩
    refine ⟨by rw [hx], v, ?_, Fr.refl _ _, fun k hk => .inl hk⟩
    have : pl n size = [] := by unfold pl; rw [if_neg (by rw [hx]; exact hx0)]
    rw [this, List.append_nil]
    exact h
  by_cases hs : size < 1 ∨ 8 < size
  · exact (put_arg p v l n size w h hs).mono (same 2 (by unfold putE; rw [if_pos hs]) (by decide))
  · by_cases hn : n < 0
    · exact (put_neg p v l n size w h (by omega) (by omega) hn).mono (same 9 (by unfold putE; rw [if_neg hs, if_pos (.inl hn)]) (by decide))
    · obtain ⟨k, rfl⟩ := Int.eq_ofNat_of_zero_le (show 0 ≤ size by omega)
      by_cases hb : k < 8 ∧ (256 : Int) ^ k ≤ n
      · exact (put_big p v l n k w h (by omega) (by omega) (by omega) hm hb.2).mono (same 9 (by unfold putE; rw [if_neg hs, if_pos (.inr ⟨by omega, by rw [Int.toNat_natCast]; exact hb.2⟩)]) (by decide))
      · have he : putE n k = 0 := by
          unfold putE
          rw [if_neg hs, if_neg]
          rintro (h1 | ⟨h1, h2⟩)
          · exact hn h1
          · rw [Int.toNat_natCast] at h2
            exact hb ⟨by omega, h2⟩
        refine (put_ok p v l n k w h (by omega) (by omega) (by omega) hm (fun hk => ?_) hlen).mono ?_
        · rcases Int.lt_or_le n ((256 : Int) ^ k) with h1 | h1
          · exact h1
          · exact absurd ⟨hk, h1⟩ hb
        · rintro e w' ⟨rfl, v', r1, r2, r3⟩
          refine ⟨by rw [he], v', ?_, r2, r3⟩
          unfold pl
          rw [if_pos he, Int.toNat_natCast]
          exact r1

set_option maxHeartbeats 1000000 in
theorem lput_any (n size : Int) (w : World) (hm : n ≤ 9223372036854775807) :
    Calls Try.prog 39 #[.int .i64 n, .int .i64 size] w fun e w' => ∃ q, e = .returned (.slice (some ⟨q, 0, none⟩) (pl n size).length (pl n size).length) ∧ Sl w' q (.slice (some ⟨q, 0, none⟩) (pl n size).length (pl n size).length) (pl n size) ∧ w.heap.size ≤ q ∧ Fr (fun _ => False) w w' := by
  go_enter Try.func39, Try.ntmps39
  go_wp2_with fail
  refine (write_any _).mono ?_
  rintro e w1 ⟨rfl, r1, r2⟩
  have M1 := Lib.hid (Mine.mk r1 r2 (Nat.le_refl _) (fun k e => by cases e))
  clear r1 r2
  go_wp2_with fail
  refine (put_any w.heap.size _ [] n size _ M1.out.wr hm (by decide)).mono ?_
  rintro e w2 ⟨rfl, v2, r1, r2, r3⟩
  have M2 : Hid (Mine w w.heap.size v2 (pl n size) w2) := M1.out.step r1 r2 r3
  clear r1 r2 r3 M1
  go_wp2_with fail
  refine (wout_any w.heap.size v2 _ _ M2.out.wr (Nat.le_trans (pl_length n size) (by decide))).mono ?_
  rintro e w3 ⟨rfl, r1, r2⟩
  have M3 := Lib.hid (M2.out.quiet r2)
  have S3 := Lib.hid r1
  have h3 : w.heap.size ≤ w2.heap.size := M2.out.fr.size
  clear r1 r2 M2
  go_wp2_with fail
  go_ret
  exact ⟨w2.heap.size, rfl, S3.out, h3, M3.out.fr⟩
end Go.Proofs.Ytkkicekhkidhjaa
