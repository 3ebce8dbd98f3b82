/- The reference's Put: contract. Condition: a number of the machine's. -/
import Derived.Test.YtkkicekhkidhjaaRBy
namespace Go.Proofs.Ytkkicekhkidhjaa
set_option linter.unusedSimpArgs false
set_option linter.unusedVariables false
open Go.RowKit

theorem bits_zero (v : Int) (h0 : 0 ≤ v) (h1 : v ≤ 9223372036854775807) : ∀ i, i ≤ 64 → (∀ t, t < i → v / 2 ^ (63 - t) % 2 = 0) → v < 2 ^ (64 - i)
  | 0, _, _ => by show v < 2 ^ 64; omega
  | i + 1, hi, hb => by
    have ih := bits_zero v h0 h1 i (by omega) (fun t ht => hb t (by omega))
    have hz := hb i (by omega)
    have e1 : 64 - i = 63 - i + 1 := by omega
    have e2 : 64 - (i + 1) = 63 - i := by omega
    rw [e1, Int.pow_succ] at ih
    rw [e2]
    have hp : (0 : Int) < 2 ^ (63 - i) := Int.pow_pos (by decide)
    have h2 : v / 2 ^ (63 - i) < 2 := Int.ediv_lt_of_lt_mul hp (by rw [Int.mul_comm]; exact ih)
    have h3 : 0 ≤ v / 2 ^ (63 - i) := Int.ediv_nonneg h0 (Int.le_of_lt hp)
    have h4 : v / 2 ^ (63 - i) = 0 := by omega
    have h5 := Int.lt_ediv_add_one_mul_self v hp
    rw [h4] at h5
    omega
theorem pow256 (k : Nat) : (256 : Int) ^ k = 2 ^ (8 * k) := by
  rw [Int.pow_mul]
  rfl
theorem putE_bit {n : Int} {k i : Nat} (hk1 : 1 ≤ k) (hk8 : k ≤ 8) (hi : i + 8 * k < 64) (hb : n / 2 ^ (63 - i) % 2 = 1) : putE n k = 9 := by
  unfold putE
  rw [if_neg (by omega), if_pos]
  by_cases hn : n < 0
  · exact .inl hn
  · refine .inr ⟨by omega, ?_⟩
    rw [Int.toNat_natCast, pow256]
    rcases Int.lt_or_le n (2 ^ (8 * k)) with h | h
    · exfalso
      have h2 : (2 : Int) ^ (8 * k) ≤ 2 ^ (63 - i) := by
        rw [show 63 - i = 8 * k + (63 - i - 8 * k) by omega, Int.pow_add]
        have h9 : (0 : Int) < 2 ^ (63 - i - 8 * k) := Int.pow_pos (by decide)
        have h8 : (0 : Int) < 2 ^ (8 * k) := Int.pow_pos (by decide)
        have := Int.mul_le_mul_of_nonneg_left (show (1 : Int) ≤ 2 ^ (63 - i - 8 * k) by omega) (Int.le_of_lt h8)
        rwa [Int.mul_one] at this
      have h3 : n / 2 ^ (63 - i) = 0 := Int.ediv_eq_zero_of_lt (by omega) (by omega)
      rw [h3] at hb
      cases hb
    · exact h
theorem putE_neg {n : Int} {k : Nat} (hk1 : 1 ≤ k) (hk8 : k ≤ 8) (hn : n < 0) : putE n k = 9 := by
  unfold putE
  rw [if_neg (by omega), if_pos (.inl hn)]
theorem putE_fits {n : Int} {k : Nat} (hk1 : 1 ≤ k) (hk8 : k ≤ 8) (hn : 0 ≤ n) (hm : n ≤ 9223372036854775807) (hb : ∀ t, t < 64 - 8 * k → n / 2 ^ (63 - t) % 2 = 0) : putE n k = 0 := by
  have h := bits_zero n hn hm (64 - 8 * k) (by omega) hb
  rw [show 64 - (64 - 8 * k) = 8 * k by omega] at h
  unfold putE
  rw [if_neg (by omega), if_neg]
  rintro (h1 | ⟨h1, h2⟩)
  · omega
  · rw [Int.toNat_natCast, pow256] at h2
    omega
theorem be_eq {n : Int} (hn : 0 ≤ n) (hm : n ≤ 9223372036854775807) : be n = (List.range 8).map (byat n) := by
  have e : n / 72057594037927936 = byat n 0 := by show _ = n / 72057594037927936 % 256; omega
  have r : List.range 8 = [0, 1, 2, 3, 4, 5, 6, 7] := by decide
  unfold be
  rw [e, r]
  simp [byat]
theorem beN_next {n : Int} {k j : Nat} (hn : 0 ≤ n) (hm : n ≤ 9223372036854775807) (hk : k ≤ 8) (hj : j < k) : (beN n k).take j ++ [byat n (8 - k + j)] = (beN n k).take (j + 1) := by
  have hg : (beN n k)[j]? = some (byat n (8 - k + j)) := by
    unfold beN
    rw [be_eq hn hm, List.getElem?_drop, List.getElem?_map, List.getElem?_range (by omega)]
    rfl
  have hl : j < (beN n k).length := (List.getElem?_eq_some_iff.1 hg).1
  rw [List.getElem?_eq_getElem hl] at hg
  injection hg with hg
  rw [← hg, List.take_append_getElem hl]
theorem byat_byte (n : Int) (k : Nat) : 0 ≤ byat n k ∧ byat n k ≤ 255 := by unfold byat; omega

theorem slice_eight (g m : Nat) (hm : m < 8) : ∀ W : World, (Instr.sliceAt 66 (.slice (some ⟨g, 0, none⟩) 64 64) (some (.int .i64 (8 * (m : Int)))) (some (.int .i64 (8 * (m : Int) + 8))) none).run Try.prog W = .ok (.slice (some ⟨g, 8 * m, none⟩) 8 (64 - 8 * m)) W := fun W => by
  have hu : Try.prog.underlying 66 = some (.slice (Try.prog.elem 66)) := by kernel_rfl
  have he : (sizeOf (Try.prog.elem 66)).run Try.prog W = .ok 1 W := by kernel_rfl
  rw [run_sliceAt_slice W 66 _ _ _ _ hu, run_slice_lh W 66 (some ⟨g, 0, none⟩) 64 64 hu .i64 .i64 (8 * (m : Int)) (8 * (m : Int) + 8) (by omega) (by omega) (by omega), show (8 * (m : Int)).toNat = 8 * m by omega, show (8 * (m : Int) + 8).toNat = 8 * m + 8 by omega, he]
  simp only [Result.andThen, sliced, Nat.mul_one]
  rw [if_neg (by omega)]
  simp [Addr_add_none]

/-- What a call leaves of the reference's writer: so many bytes more. -/
def RStep (d : Nat) (w : World) (p : Nat) (v : Value) (ls : List (List Int)) (vals : List Value) (add : List Int) (w' : World) : Prop :=
  ∃ v' ls' vals', RW w' p v' ls' vals' ∧ flat ls' = flat ls ++ add ∧ ls'.length ≤ ls.length + d ∧ Fr (Tb p v vals) w w' ∧ ∀ b, Tb p v' vals' b → Tb p v vals b ∨ w.heap.size ≤ b
theorem RStep.none {d : Nat} {w : World} {p : Nat} {v : Value} {ls : List (List Int)} {vals : List Value} (h : RW w p v ls vals) {w' : World} (hf : Fr (fun _ => False) w w') : RStep d w p v ls vals [] w' :=
  ⟨v, ls, vals, h.keep hf (fun _ _ x => x), by simp, by omega, hf.any, fun b hb => .inl hb⟩
theorem RStep.mono {d e : Nat} {w : World} {p : Nat} {v : Value} {ls : List (List Int)} {vals : List Value} {l : List Int} {w' : World} (hd : d ≤ e) (h : RStep d w p v ls vals l w') : RStep e w p v ls vals l w' := by
  obtain ⟨v2, ls2, vals2, b1, b2, b3, b4, b5⟩ := h
  exact ⟨v2, ls2, vals2, b1, b2, by omega, b4, b5⟩
theorem RStep.push {w w1 w' : World} {p : Nat} {v v' x : Value} {ls : List (List Int)} {vals : List Value} {l : List Int} (hf : Fr (fun _ => False) w w1) (h : RW w' p v' (ls ++ [l]) (vals ++ [x])) (h2 : Fr (fun k => k = p ∨ v.ownBlock = some k) w1 w') (h3 : ∀ k, v'.ownBlock = some k → v.ownBlock = some k ∨ w1.heap.size ≤ k) (hx : ∀ k, x.ownBlock = some k → w.heap.size ≤ k) : RStep 1 w p v ls vals l w' := by
  refine ⟨v', ls ++ [l], vals ++ [x], h, ?_, by simp, ?_, ?_⟩
  · unfold flat
    rw [List.flatten_append]
    simp
  · refine hf.any.trans' h2 ?_
    rintro i hi (rfl | e)
    · exact .inl rfl
    · exact .inr (.inl e)
  · rintro b (rfl | e | ⟨y, hy, e⟩)
    · exact .inl (.inl rfl)
    · rcases h3 b e with h4 | h4
      · exact .inl (.inr (.inl h4))
      · exact .inr (Nat.le_trans hf.size h4)
    · rcases List.mem_append.1 hy with h5 | h5
      · exact .inl (.inr (.inr ⟨y, h5, e⟩))
      · simp at h5
        subst h5
        exact .inr (hx b e)

theorem RStep.comp {d e : Nat} {w w1 w2 : World} {p : Nat} {v v1 : Value} {ls ls1 : List (List Int)} {vals vals1 : List Value} {l l2 : List Int} (a1 : flat ls1 = flat ls ++ l) (a2 : ls1.length ≤ ls.length + d) (a3 : Fr (Tb p v vals) w w1) (a4 : ∀ b, Tb p v1 vals1 b → Tb p v vals b ∨ w.heap.size ≤ b) (h : RStep e w1 p v1 ls1 vals1 l2 w2) : RStep (d + e) w p v ls vals (l ++ l2) w2 := by
  obtain ⟨v2, ls2, vals2, b1, b2, b3, b4, b5⟩ := h
  refine ⟨v2, ls2, vals2, b1, by rw [b2, a1, List.append_assoc], by omega, a3.trans' b4 (fun i hi ht => ?_), fun b hb => ?_⟩
  · rcases a4 i ht with h | h
    · exact h
    · omega
  · rcases b5 b hb with h | h
    · exact a4 b h
    · exact .inr (Nat.le_trans a3.size h)

theorem wpList_push {ops : Array Oper} {rest : List Oper} {o : Oper} {a : Act} {w : World} {Q : Exit → Act → World → Prop} (hgd : o.guard = none) (s x : Operand)
    (ho : o.op = .call { callee := .builtin .append, args := #[s, x], argTypes := #[55, 55] })
    {p : Nat} {v : Value} {ls : List (List Int)} {vals : List Value} (h : RW w p v ls vals) (hsv : a.eval s = v) {y : Value} {l : List Int} (hy : Ow w y l) {nb : Nat} (hx : a.eval x = .slice (some ⟨nb, 0, none⟩) 1 1) (hc : w.cell? ⟨nb, 0, none⟩ = some y) (hn : ls.length ≤ 1000)
    (hK : ∀ A' N c' w', w'.heap[p]? = some (.cells #[v] 63 (0, 0)) → RW (w'.setCell ⟨p, 0, none⟩ (.slice A' N c')) p (.slice A' N c') (ls ++ [l]) (vals ++ [y]) → Fr (fun k => k = p ∨ v.ownBlock = some k) w (w'.setCell ⟨p, 0, none⟩ (.slice A' N c')) → (∀ k, (Value.slice A' N c').ownBlock = some k → v.ownBlock = some k ∨ w.heap.size ≤ k) →
      wpList Try.prog ops Q rest (a.put o.dst (.slice A' N c')) w') : wpList Try.prog ops Q (o :: rest) a w := by
  refine wpList_plain hgd fun K hk => ?_
  obtain ⟨v', w', hrun, h1, h2, h3, h4⟩ := h.push hy hc o.type hn
  obtain ⟨A', c', rfl, _⟩ := h2.shape
  unfold Oper.wp execOp
  simp only [ho, resolve, invoke, builtin, Sem.run_bind, Sem.run_pure, Result.andThen_ok, List.map_toArray, List.map_cons, List.map_nil, hsv, hx, hrun]
  exact hk _ _ (hK A' _ c' w' h1 h2 h3 h4)

theorem rput_arg (p : Nat) (n size : Int) (w : World) (hs : size < 1 ∨ 8 < size) :
    Calls Try.prog 16 #[.pointer (some ⟨p, 0, none⟩), .int .i64 n, .int .i64 size] w fun e w' => e = .returned (.int .i64 2) ∧ w = w' := by
  go_enter Try.func16, Try.ntmps16
  go_wp2_with (go_at_call 42; refine (rsize_no size _ hs).mono ?_; rintro e w1 ⟨rfl, rfl⟩)
  go_ret
  exact ⟨rfl, rfl⟩
end Go.Proofs.Ytkkicekhkidhjaa
