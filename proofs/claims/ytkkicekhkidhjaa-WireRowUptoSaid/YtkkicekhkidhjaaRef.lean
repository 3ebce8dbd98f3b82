/- The reference's reader: what New, Left, End, size answer. Condition: a reader that lies in memory. -/
import Derived.Test.YtkkicekhkidhjaaOwn
namespace Go.Proofs.Ytkkicekhkidhjaa
set_option linter.unusedSimpArgs false
set_option linter.unusedVariables false
open Go.RowKit

/-- The reference's reader at block p: all its bytes (in block g), and how many of them were read. -/
def RR (w : World) (p g : Nat) (all : List Int) (k : Nat) : Prop :=
  ∃ v, w.heap[p]? = some (.cells #[v, .int .i64 k] 70 (0, 0)) ∧ Sl w g v all ∧ p ≠ g ∧ k ≤ all.length
theorem RR.keep {w w' : World} {p g k : Nat} {all : List Int} (h : RR w p g all k) {S : Nat → Prop} (hf : Fr S w w') (hp : ¬ S p) (hg : g < w.heap.size → ¬ S g) : RR w' p g all k := by
  obtain ⟨v, h1, h2, h3, h4⟩ := h
  exact ⟨v, (hf.block p (heap_lt h1) hp).trans h1, h2.fr hf hg, h3, h4⟩

theorem rsize_yes (n : Int) (w : World) (h1 : 1 ≤ n) (h8 : n ≤ 8) : Calls Try.prog 42 #[.int .i64 n] w fun e w' => e = .returned (.bool true) ∧ w = w' := by
  have d1 : decide (0 < n) = true := by simp; omega
  have d2 : decide (n < 9) = true := by simp; omega
  go_enter Try.func42, Try.ntmps42
  go_wp2
  go_ret
  exact ⟨rfl, rfl⟩
theorem rsize_no (n : Int) (w : World) (h : n < 1 ∨ 8 < n) : Calls Try.prog 42 #[.int .i64 n] w fun e w' => e = .returned (.bool false) ∧ w = w' := by
  rcases h with h | h
  · have hd : decide (0 < n) = false := by simp; omega
    go_enter Try.func42, Try.ntmps42
    go_wp2
    go_ret
    exact ⟨rfl, rfl⟩
  · have hd : decide (0 < n) = true := by simp; omega
    have hd2 : decide (n < 9) = false := by simp; omega
    go_enter Try.func42, Try.ntmps42
    go_wp2
    go_ret
    exact ⟨rfl, rfl⟩

set_option maxHeartbeats 400000 in
theorem rnew_any (g : Nat) (A : Option Addr) (n c : Nat) (l : List Int) (w : World) (hs : Sl w g (.slice A n c) l) (hn : n ≤ 140737488355328) :
    Calls Try.prog 27 #[.slice A n c] w fun e w' => ∃ p q, e = .returned (.pointer (some ⟨p, 0, none⟩)) ∧ RR w' p q l 0 ∧ w.heap.size ≤ p ∧ (l ≠ [] → w.heap.size ≤ q ∧ q < p) ∧ Fr (fun _ => False) w w' ∧ p < w'.heap.size := by
  have HS := Lib.hid hs
  clear hs
  go_enter Try.func27, Try.ntmps27
  go_wp2_with (at_builtin; refine wpList_own rfl (.const (.slice none 0 0)) (.tmp 3) rfl (Ow.nil w) rfl rfl HS.out (by simpa using hn) ?_; intro A2 N2 c2 w2 hap hN2; have HN2 := Lib.hid hN2; clear hN2)
  go_ret
  have F2 : Fr (fun _ => False) w w2 := (Fr.refl _ w).grown hap.grown (fun k hk => by cases hk)
  have S2 := hap.own.sl
  rw [List.nil_append] at S2
  have hN : N2 ≤ 140737488355328 := by have := hap.own.sl.len; rw [List.nil_append, HS.out.len] at this; omega
  by_cases hl : l = []
  · subst hl
    exact ⟨w2.heap.size, w2.heap.size + 1, rfl, ⟨_, heap_alloc_new w2 _, (S2.any _).fr ((Fr.refl (fun _ => False) w2).alloc _) (fun _ x => x), by omega, by simp⟩, F2.size, fun h => absurd rfl h, F2.alloc _, by simp⟩
  · have hlt : (Value.slice A2 N2 c2).ownBlock.getD 0 < w2.heap.size := by
      obtain ⟨_, A', c', _, _, _, hx⟩ := S2
      obtain ⟨o, _, h, _⟩ := hx hl
      exact h
    have hge : w.heap.size ≤ (Value.slice A2 N2 c2).ownBlock.getD 0 := by
      rcases hap.at_ with e | e
      · exfalso
        obtain ⟨_, A', c', e2, _, _, hx⟩ := S2
        obtain ⟨o, e3, _⟩ := hx hl
        injection e2 with e4
        rw [e4, e3] at e
        cases e
      · rw [e]; exact Nat.le_refl _
    exact ⟨w2.heap.size, _, rfl, ⟨_, heap_alloc_new w2 _, S2.fr ((Fr.refl (fun _ => False) w2).alloc _) (fun _ x => x), by omega, by simp⟩, F2.size, fun _ => ⟨hge, hlt⟩, F2.alloc _, by simp⟩

set_option maxHeartbeats 400000 in
theorem rleft_any (p g k : Nat) (all : List Int) (w : World) (h : RR w p g all k) :
    Calls Try.prog 35 #[.pointer (some ⟨p, 0, none⟩)] w fun e w' => e = .returned (.int .i64 ((all.length : Int) - k)) ∧ ∃ q, w' = w.drewN q := by
  obtain ⟨v, h1, h2, h3, h4⟩ := h
  have c0 : w.cell? ⟨p, 0, none⟩ = some v := by rw [cell_of_row w p 0 _ _ _ h1]; rfl
  have c1 : w.cell? ⟨p, 1, none⟩ = some (.int .i64 k) := by rw [cell_of_row w p 1 _ _ _ h1]; rfl
  obtain ⟨A, n, c, rfl⟩ : ∃ A n c, v = .slice A n c := by obtain ⟨_, A, c, e, _⟩ := h2; exact ⟨A, _, c, e⟩
  have hn := h2.len
  have hcap := h2.cap
  unfold maxLen at hcap
  rw [hn] at h4 ⊢
  clear h1 h2 hn
  go_enter Try.func35, Try.ntmps35
  go_wp2
  go_quiet (fail)
  go_wp2
  go_ret
  exact ⟨rfl, _, rfl⟩

theorem rend_any (p g k : Nat) (all : List Int) (w : World) (h : RR w p g all k) :
    Calls Try.prog 37 #[.pointer (some ⟨p, 0, none⟩)] w fun e w' => e = .returned (.int .i64 (if k < all.length then 4 else 0)) ∧ ∃ q, w' = w.drewN q := by
  obtain ⟨v, h1, h2, h3, h4⟩ := h
  have c0 : w.cell? ⟨p, 0, none⟩ = some v := by rw [cell_of_row w p 0 _ _ _ h1]; rfl
  have c1 : w.cell? ⟨p, 1, none⟩ = some (.int .i64 k) := by rw [cell_of_row w p 1 _ _ _ h1]; rfl
  obtain ⟨A, n, c, rfl⟩ : ∃ A n c, v = .slice A n c := by obtain ⟨_, A, c, e, _⟩ := h2; exact ⟨A, _, c, e⟩
  have hn := h2.len
  rw [hn] at h4 ⊢
  clear h1 h2 hn
  by_cases hk : k < n
  · rw [if_pos hk]
    go_enter Try.func37, Try.ntmps37
    go_wp2
    go_quiet (fail)
    go_wp2
    go_ret
    exact ⟨rfl, _, rfl⟩
  · rw [if_neg hk]
    go_enter Try.func37, Try.ntmps37
    go_wp2
    go_quiet (fail)
    go_wp2
    go_ret
    exact ⟨rfl, _, rfl⟩

theorem and_one (x : Int) (h0 : 0 ≤ x) (h1 : x ≤ 255) : bits BinOp.and IntKind.i64 x 1 = x % 2 := by
  obtain ⟨n, rfl⟩ := Int.eq_ofNat_of_zero_le h0
  have : n ≤ 255 := by omega
  have key : ∀ m : Fin 256, bits BinOp.and IntKind.i64 ((m.val : Nat) : Int) 1 = ((m.val : Nat) : Int) % 2 := by decide +kernel
  exact key ⟨n, by omega⟩

/-- What the reference's number answers. -/
def NumAns (l : List Int) : Value := if num l ≤ 9223372036854775807 then .tuple #[.int .i64 (num l), .bool true] else .tuple #[.int .i64 0, .bool false]
theorem num_take_le (l : List Int) (hb : Bys l) (j : Nat) : num (l.take j) ≤ num l := by
  suffices h : ∀ (k : Nat) (l : List Int), l.length = k → Bys l → ∀ j, num (l.take j) ≤ num l from h _ l rfl hb j
  intro k
  induction k with
  | zero => intro l hl _ j; obtain rfl : l = [] := List.eq_nil_of_length_eq_zero hl; simp
  | succ k ih =>
    intro l hl hb j
    obtain ⟨l', b, rfl⟩ : ∃ l' b, l = l' ++ [b] := ⟨l.dropLast, l.getLast (by intro e; rw [e] at hl; simp at hl), (List.dropLast_concat_getLast _).symm⟩
    have hb' := hb b (by simp)
    have hbl : Bys l' := fun x hx => hb x (by simp [hx])
    rcases Nat.lt_or_ge l'.length j with h | h
    · rw [List.take_of_length_le (by simp; omega)]; exact Int.le_refl _
    · rw [List.take_append_of_le_length h, num_append]
      have h1 := ih l' (by simpa using hl) hbl j
      have h2 := num_nonneg l' hbl
      omega

set_option maxHeartbeats 8000000 in
theorem number_any (g : Nat) (A : Option Addr) (n c : Nat) (l : List Int) (w : World) (hs : Sl w g (.slice A n c) l) (hn : n ≤ 8) :
    Calls Try.prog 48 #[.slice A n c] w fun e w' => e = .returned (NumAns l) ∧ w = w' := by
  have HS := Lib.hid hs
  clear hs
  go_enter Try.func48, Try.ntmps48
  go_wp2
  go_loop [4, 5] (fun v i => ∃ (j : Nat) (N : Int), j ≤ n ∧ i = .int .i64 j ∧ v = .int .i64 N ∧ 0 ≤ N ∧ N ≤ 9223372036854775807 ∧ Hid (N = num (l.take j))) (fun _ i => n - (intOf i).toNat)
  case atStart => exact ⟨0, 0, Nat.zero_le _, rfl, rfl, by omega, by omega, by show 0 = num []; rfl⟩
  case round =>
    obtain ⟨j, N, hj, rfl, rfl, h0, h1, hN⟩ := hrel
    by_cases hlt : j < n
    · obtain ⟨o, rfl, hcell⟩ := HS.out.at_ (by omega)
      obtain ⟨b, hb⟩ : ∃ b, b = l.getD j 0 := ⟨_, rfl⟩
      have hc := hcell j hlt
      rw [← hb] at hc
      have hbb : 0 ≤ b ∧ b ≤ 255 := by
        rw [hb, List.getD_eq_getElem?_getD, List.getElem?_eq_getElem (by have := HS.out.len; omega)]
        exact HS.out.1 _ (List.getElem_mem _)
      have b0 := hbb.1
      have b1 := hbb.2
      have a7 := and_one (b / 128) (by omega) (by omega)
      have a6 := and_one (b / 64) (by omega) (by omega)
      have a5 := and_one (b / 32) (by omega) (by omega)
      have a4 := and_one (b / 16) (by omega) (by omega)
      have a3 := and_one (b / 8) (by omega) (by omega)
      have a2 := and_one (b / 4) (by omega) (by omega)
      have a1 := and_one (b / 2) (by omega) (by omega)
      have a0 := and_one b (by omega) (by omega)
      have HB := Lib.hid hb
      clear hcell hb hbb
      have HT : Hid (num (l.take (j + 1)) = N * 256 + b) := by
        show _ = _
        rw [List.take_succ_eq_append_getElem (by have := HS.out.len; omega), num_append, ← hN.out]
        have := HB.out
        rw [List.getD_eq_getElem?_getD, List.getElem?_eq_getElem (by have := HS.out.len; omega)] at this
        rw [this]; rfl
      go_wp2
      refine wp_loop_rounds 9 ?_
      repeat any_goals (rw [rounds_succ]; go_wp2)
      all_goals first
        | (go_ret2
           have hno : ¬ num l ≤ 9223372036854775807 := by
             have h2 := num_take_le l HS.out.1 (j + 1)
             rw [HT.out] at h2
             omega
           refine ⟨?_, rfl⟩
           unfold NumAns
           rw [if_neg hno]
           rfl)
        | exact ⟨⟨j + 1, _, by omega, by go_num, rfl, by omega, by omega, by show _ = num _; rw [HT.out]; omega⟩, by simp [intOf]; omega⟩
    · go_wp2
      go_ret2
      refine ⟨?_, rfl⟩
      unfold NumAns
      have e : num l = N := by rw [hN.out, List.take_of_length_le (by rw [HS.out.len]; omega)]
      rw [if_pos (by rw [e]; exact h1), e]
      rfl
end Go.Proofs.Ytkkicekhkidhjaa
