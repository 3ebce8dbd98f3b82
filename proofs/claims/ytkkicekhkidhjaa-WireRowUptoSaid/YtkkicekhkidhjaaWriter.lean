/- What the writer's calls leave and answer. Conditions: a writer that lies in memory, and not more bytes than a machine has. -/
import Derived.Test.YtkkicekhkidhjaaAdd
namespace Go.Proofs.Ytkkicekhkidhjaa
set_option linter.unusedSimpArgs false
set_option linter.unusedVariables false
open Go.RowKit

set_option maxHeartbeats 400000 in
theorem write_any (w : World) :
    Calls Try.prog 11 #[] w fun e w' => e = .returned (.pointer (some ⟨w.heap.size, 0, none⟩)) ∧ Wr w' w.heap.size (.slice none 0 0) [] ∧ Fr (fun _ => False) w w' := by
  go_enter Try.func11, Try.ntmps11
  go_wp2
  go_ret
  exact ⟨rfl, ⟨heap_alloc_new w _, World.ownsRow_nil _ _ _ _, Bys.nil⟩, (Fr.refl _ _).alloc _⟩

/-- What Put answers. -/
def putE (v size : Int) : Int := if size < 1 ∨ 8 < size then 2 else if v < 0 ∨ (size < 8 ∧ (256 : Int) ^ size.toNat ≤ v) then 9 else 0

theorem put_arg (p : Nat) (v : Value) (l : List Int) (n size : Int) (w : World) (h : Wr w p v l) (hs : size < 1 ∨ 8 < size) :
    Calls Try.prog 15 #[.pointer (some ⟨p, 0, none⟩), .int .i64 n, .int .i64 size] w fun e w' => e = .returned (.int .i64 2) ∧ w = w' := by
  have c0 : w.cell? ⟨p, 0, none⟩ = some (.bool true) := by rw [cell_of_row w p 0 _ _ _ h.1]; rfl
  clear h
  go_enter Try.func15, Try.ntmps15
  go_wp2_with (go_at_call 40; refine (sizeMayBe_no size _ hs).mono ?_; rintro e w1 ⟨rfl, rfl⟩)
  go_ret
  exact ⟨rfl, rfl⟩

theorem put_neg (p : Nat) (v : Value) (l : List Int) (n size : Int) (w : World) (h : Wr w p v l) (h1 : 1 ≤ size) (h8 : size ≤ 8) (hn : n < 0) :
    Calls Try.prog 15 #[.pointer (some ⟨p, 0, none⟩), .int .i64 n, .int .i64 size] w fun e w' => e = .returned (.int .i64 9) ∧ w = w' := by
  have c0 : w.cell? ⟨p, 0, none⟩ = some (.bool true) := by rw [cell_of_row w p 0 _ _ _ h.1]; rfl
  clear h
  go_enter Try.func15, Try.ntmps15
  go_wp2_with (go_at_call 40; refine (sizeMayBe_yes size _ h1 h8).mono ?_; rintro e w1 ⟨rfl, rfl⟩)
  go_ret
  exact ⟨rfl, rfl⟩

set_option maxHeartbeats 1000000 in
theorem put_big (p : Nat) (v : Value) (l : List Int) (n : Int) (k : Nat) (w : World) (h : Wr w p v l) (h1 : 1 ≤ k) (h8 : k ≤ 7) (hn : 0 ≤ n) (hm : n ≤ 9223372036854775807) (hb : (256 : Int) ^ k ≤ n) :
    Calls Try.prog 15 #[.pointer (some ⟨p, 0, none⟩), .int .i64 n, .int .i64 k] w fun e w' => e = .returned (.int .i64 9) ∧ w = w' := by
  have c0 : w.cell? ⟨p, 0, none⟩ = some (.bool true) := by rw [cell_of_row w p 0 _ _ _ h.1]; rfl
  clear h
  have hk : k = 1 ∨ k = 2 ∨ k = 3 ∨ k = 4 ∨ k = 5 ∨ k = 6 ∨ k = 7 := by omega
  rcases hk with rfl | rfl | rfl | rfl | rfl | rfl | rfl
  · have d2 : (n / 256 != 0) = true := by simp; omega
    clear hb
    go_enter Try.func15, Try.ntmps15
    go_wp2_with (go_at_call 40; refine (sizeMayBe_yes _ _ (by decide) (by decide)).mono ?_; rintro e w1 ⟨rfl, rfl⟩)
    go_ret
    exact ⟨rfl, rfl⟩
  · have d2 : (n / 65536 != 0) = true := by simp; omega
    clear hb
    go_enter Try.func15, Try.ntmps15
    go_wp2_with (go_at_call 40; refine (sizeMayBe_yes _ _ (by decide) (by decide)).mono ?_; rintro e w1 ⟨rfl, rfl⟩)
    go_ret
    exact ⟨rfl, rfl⟩
  · have d2 : (n / 16777216 != 0) = true := by simp; omega
    clear hb
    go_enter Try.func15, Try.ntmps15
    go_wp2_with (go_at_call 40; refine (sizeMayBe_yes _ _ (by decide) (by decide)).mono ?_; rintro e w1 ⟨rfl, rfl⟩)
    go_ret
    exact ⟨rfl, rfl⟩
  · have d2 : (n / 4294967296 != 0) = true := by simp; omega
    clear hb
    go_enter Try.func15, Try.ntmps15
    go_wp2_with (go_at_call 40; refine (sizeMayBe_yes _ _ (by decide) (by decide)).mono ?_; rintro e w1 ⟨rfl, rfl⟩)
    go_ret
    exact ⟨rfl, rfl⟩
  · have d2 : (n / 1099511627776 != 0) = true := by simp; omega
    clear hb
    go_enter Try.func15, Try.ntmps15
    go_wp2_with (go_at_call 40; refine (sizeMayBe_yes _ _ (by decide) (by decide)).mono ?_; rintro e w1 ⟨rfl, rfl⟩)
    go_ret
    exact ⟨rfl, rfl⟩
  · have d2 : (n / 281474976710656 != 0) = true := by simp; omega
    clear hb
    go_enter Try.func15, Try.ntmps15
    go_wp2_with (go_at_call 40; refine (sizeMayBe_yes _ _ (by decide) (by decide)).mono ?_; rintro e w1 ⟨rfl, rfl⟩)
    go_ret
    exact ⟨rfl, rfl⟩
  · have d2 : (n / 72057594037927936 != 0) = true := by simp; omega
    clear hb
    go_enter Try.func15, Try.ntmps15
    go_wp2_with (go_at_call 40; refine (sizeMayBe_yes _ _ (by decide) (by decide)).mono ?_; rintro e w1 ⟨rfl, rfl⟩)
    go_ret
    exact ⟨rfl, rfl⟩

set_option maxHeartbeats 1000000 in
theorem put_ok (p : Nat) (v : Value) (l : List Int) (n : Int) (k : Nat) (w : World) (h : Wr w p v l) (h1 : 1 ≤ k) (h8 : k ≤ 8) (hn : 0 ≤ n) (hm : n ≤ 9223372036854775807) (hb : k < 8 → n < (256 : Int) ^ k) (hlen : l.length ≤ 140737488355000) :
    Calls Try.prog 15 #[.pointer (some ⟨p, 0, none⟩), .int .i64 n, .int .i64 k] w fun e w' => e = .returned (.int .i64 0) ∧ ∃ v', Wr w' p v' (l ++ beN n k) ∧ Fr (Tw p v) w w' ∧ (∀ k, v'.ownBlock = some k → v.ownBlock = some k ∨ w.heap.size ≤ k) := by
  have c0 : w.cell? ⟨p, 0, none⟩ = some (.bool true) := by rw [cell_of_row w p 0 _ _ _ h.1]; rfl
  have H := Lib.hid h
  clear h
  have hk : k = 1 ∨ k = 2 ∨ k = 3 ∨ k = 4 ∨ k = 5 ∨ k = 6 ∨ k = 7 ∨ k = 8 := by omega
  rcases hk with rfl | rfl | rfl | rfl | rfl | rfl | rfl | rfl
  · have d2 : (n / 256 != 0) = false := by have := hb (by decide); simp; omega
    clear hb
    go_enter Try.func15, Try.ntmps15
    go_wp2_with (first | (go_at_call 40; refine (sizeMayBe_yes _ _ (by decide) (by decide)).mono ?_; rintro e w1 ⟨rfl, rfl⟩) | (go_at_call 41; refine (add_any p v l n 1 _ H.out hn hm (by decide) (by decide) hlen).mono ?_; rintro e w1 ⟨v1, rfl, r1, r2, r3⟩; have R1 := Lib.hid r1; have R2 := Lib.hid r2; have R3 := Lib.hid r3; clear r1 r2 r3))
    go_ret
    exact ⟨rfl, v1, R1.out, R2.out, R3.out⟩
  · have d2 : (n / 65536 != 0) = false := by have := hb (by decide); simp; omega
    clear hb
    go_enter Try.func15, Try.ntmps15
    go_wp2_with (first | (go_at_call 40; refine (sizeMayBe_yes _ _ (by decide) (by decide)).mono ?_; rintro e w1 ⟨rfl, rfl⟩) | (go_at_call 41; refine (add_any p v l n 2 _ H.out hn hm (by decide) (by decide) hlen).mono ?_; rintro e w1 ⟨v1, rfl, r1, r2, r3⟩; have R1 := Lib.hid r1; have R2 := Lib.hid r2; have R3 := Lib.hid r3; clear r1 r2 r3))
    go_ret
    exact ⟨rfl, v1, R1.out, R2.out, R3.out⟩
  · have d2 : (n / 16777216 != 0) = false := by have := hb (by decide); simp; omega
    clear hb
    go_enter Try.func15, Try.ntmps15
    go_wp2_with (first | (go_at_call 40; refine (sizeMayBe_yes _ _ (by decide) (by decide)).mono ?_; rintro e w1 ⟨rfl, rfl⟩) | (go_at_call 41; refine (add_any p v l n 3 _ H.out hn hm (by decide) (by decide) hlen).mono ?_; rintro e w1 ⟨v1, rfl, r1, r2, r3⟩; have R1 := Lib.hid r1; have R2 := Lib.hid r2; have R3 := Lib.hid r3; clear r1 r2 r3))
    go_ret
    exact ⟨rfl, v1, R1.out, R2.out, R3.out⟩
  · have d2 : (n / 4294967296 != 0) = false := by have := hb (by decide); simp; omega
    clear hb
    go_enter Try.func15, Try.ntmps15
    go_wp2_with (first | (go_at_call 40; refine (sizeMayBe_yes _ _ (by decide) (by decide)).mono ?_; rintro e w1 ⟨rfl, rfl⟩) | (go_at_call 41; refine (add_any p v l n 4 _ H.out hn hm (by decide) (by decide) hlen).mono ?_; rintro e w1 ⟨v1, rfl, r1, r2, r3⟩; have R1 := Lib.hid r1; have R2 := Lib.hid r2; have R3 := Lib.hid r3; clear r1 r2 r3))
    go_ret
    exact ⟨rfl, v1, R1.out, R2.out, R3.out⟩
  · have d2 : (n / 1099511627776 != 0) = false := by have := hb (by decide); simp; omega
    clear hb
    go_enter Try.func15, Try.ntmps15
    go_wp2_with (first | (go_at_call 40; refine (sizeMayBe_yes _ _ (by decide) (by decide)).mono ?_; rintro e w1 ⟨rfl, rfl⟩) | (go_at_call 41; refine (add_any p v l n 5 _ H.out hn hm (by decide) (by decide) hlen).mono ?_; rintro e w1 ⟨v1, rfl, r1, r2, r3⟩; have R1 := Lib.hid r1; have R2 := Lib.hid r2; have R3 := Lib.hid r3; clear r1 r2 r3))
    go_ret
    exact ⟨rfl, v1, R1.out, R2.out, R3.out⟩
  · have d2 : (n / 281474976710656 != 0) = false := by have := hb (by decide); simp; omega
    clear hb
    go_enter Try.func15, Try.ntmps15
    go_wp2_with (first | (go_at_call 40; refine (sizeMayBe_yes _ _ (by decide) (by decide)).mono ?_; rintro e w1 ⟨rfl, rfl⟩) | (go_at_call 41; refine (add_any p v l n 6 _ H.out hn hm (by decide) (by decide) hlen).mono ?_; rintro e w1 ⟨v1, rfl, r1, r2, r3⟩; have R1 := Lib.hid r1; have R2 := Lib.hid r2; have R3 := Lib.hid r3; clear r1 r2 r3))
    go_ret
    exact ⟨rfl, v1, R1.out, R2.out, R3.out⟩
  · have d2 : (n / 72057594037927936 != 0) = false := by have := hb (by decide); simp; omega
    clear hb
    go_enter Try.func15, Try.ntmps15
    go_wp2_with (first | (go_at_call 40; refine (sizeMayBe_yes _ _ (by decide) (by decide)).mono ?_; rintro e w1 ⟨rfl, rfl⟩) | (go_at_call 41; refine (add_any p v l n 7 _ H.out hn hm (by decide) (by decide) hlen).mono ?_; rintro e w1 ⟨v1, rfl, r1, r2, r3⟩; have R1 := Lib.hid r1; have R2 := Lib.hid r2; have R3 := Lib.hid r3; clear r1 r2 r3))
    go_ret
    exact ⟨rfl, v1, R1.out, R2.out, R3.out⟩
  · have d2 : (n / 18446744073709551616 != 0) = false := by simp; omega
    clear hb
    go_enter Try.func15, Try.ntmps15
    go_wp2_with (first | (go_at_call 40; refine (sizeMayBe_yes _ _ (by decide) (by decide)).mono ?_; rintro e w1 ⟨rfl, rfl⟩) | (go_at_call 41; refine (add_any p v l n 8 _ H.out hn hm (by decide) (by decide) hlen).mono ?_; rintro e w1 ⟨v1, rfl, r1, r2, r3⟩; have R1 := Lib.hid r1; have R2 := Lib.hid r2; have R3 := Lib.hid r3; clear r1 r2 r3))
    go_ret
    exact ⟨rfl, v1, R1.out, R2.out, R3.out⟩
end Go.Proofs.Ytkkicekhkidhjaa
