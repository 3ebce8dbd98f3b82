/- The program's writer beside the reference's: what stays of both from call to call. Condition: the slices lie in memory. -/
import Derived.Test.YtkkicekhkidhjaaRPut
import Derived.Test.YtkkicekhkidhjaaEatsW
namespace Go.Proofs.Ytkkicekhkidhjaa
set_option linter.unusedSimpArgs false
set_option linter.unusedVariables false
open Go.RowKit

theorem Tw_lt {w : World} {p : Nat} {v : Value} {l : List Int} (h : Wr w p v l) {i : Nat} (ht : Tw p v i) : i < w.heap.size := by
  rcases ht with rfl | e
  · exact heap_lt h.1
  · exact (h.2.1.lt i e).2
theorem Tb_lt {w : World} {p : Nat} {v : Value} {ls : List (List Int)} {vals : List Value} (h : RW w p v ls vals) {k : Nat} (ht : Tb p v vals k) : k < w.heap.size := by
  rcases ht with rfl | e | ⟨x, hx, e⟩
  · exact heap_lt h.here
  · exact (h.row.lt k e).2
  · obtain ⟨i, hi⟩ := List.mem_iff_getElem?.1 hx
    have hl : i < vals.length := (List.getElem?_eq_some_iff.1 hi).1
    have h2 := h.each i x _ hi (List.getElem?_eq_getElem (by rw [← h.len]; exact hl))
    exact (h2.1.lt k e).2

/-- Both writers hold the same bytes, in memory of the call's own, and share none. -/
structure WI (w : World) (p : Nat) (v : Value) (L : List Int) (p2 : Nat) (v2 : Value) (ls : List (List Int)) (vals : List Value) (W : World) : Prop where
  wr : Wr W p v L
  rw : RW W p2 v2 ls vals
  eq : flat ls = L
  fr : Fr (fun _ => False) w W
  a1 : ∀ k, Tw p v k → w.heap.size ≤ k ∧ ¬ Tb p2 v2 vals k
  a2 : ∀ k, Tb p2 v2 vals k → w.heap.size ≤ k

section
variable {w W W1 W2 : World} {p p2 : Nat} {v v2 : Value} {L : List Int} {ls : List (List Int)} {vals : List Value}
theorem WI.quiet (h : WI w p v L p2 v2 ls vals W) (hf : Fr (fun _ => False) W W1) : WI w p v L p2 v2 ls vals W1 :=
  ⟨h.wr.keep hf (fun x => x) (fun _ _ x => x), h.rw.keep hf (fun _ _ x => x), h.eq, h.fr.trans hf, h.a1, h.a2⟩
theorem WI.spoilt (h : WI w p v L p2 v2 ls vals W) {g : Nat} {l : List Int} (hf : Fr (fun x => x = g ∧ l ≠ []) W W1) (hg : l ≠ [] → w.heap.size ≤ g ∧ ¬ Tw p v g ∧ ¬ Tb p2 v2 vals g) : WI w p v L p2 v2 ls vals W1 := by
  refine ⟨h.wr.keep hf ?_ ?_, h.rw.keep hf ?_, h.eq, h.fr.trans' hf ?_, h.a1, h.a2⟩
  · rintro ⟨rfl, hl⟩
    exact (hg hl).2.1 (.inl rfl)
  · rintro k hk ⟨rfl, hl⟩
    exact (hg hl).2.1 (.inr hk)
  · rintro k hk ⟨rfl, hl⟩
    exact (hg hl).2.2 hk
  · rintro i hi ⟨rfl, hl⟩
    have := (hg hl).1
    omega
/-- Blocks that were made between two worlds, and are no writer's. -/
theorem WI.band (h : WI w p v L p2 v2 ls vals W) {v' : Value} {v2' : Value} {vals' : List Value} (hs : W.heap.size ≤ W1.heap.size)
    (r3 : ∀ k, v'.ownBlock = some k → v.ownBlock = some k ∨ W1.heap.size ≤ k) (s3 : ∀ k, Tb p2 v2' vals' k → Tb p2 v2 vals k ∨ W1.heap.size ≤ k) (k : Nat) (h1 : W.heap.size ≤ k) (h2 : k < W1.heap.size) : ¬ Tw p v' k ∧ ¬ Tb p2 v2' vals' k := by
  refine ⟨?_, ?_⟩
  · rintro (rfl | e)
    · exact absurd (heap_lt h.wr.1) (by omega)
    · rcases r3 k e with h3 | h3
      · exact absurd (Tw_lt h.wr (.inr h3)) (by omega)
      · omega
  · intro e
    rcases s3 k e with h3 | h3
    · exact absurd (Tb_lt h.rw h3) (by omega)
    · omega
/-- One call of each. -/
theorem WI.both (h : WI w p v L p2 v2 ls vals W) {v' : Value} {add : List Int} {d : Nat} (r1 : Wr W1 p v' (L ++ add)) (r2 : Fr (Tw p v) W W1) (r3 : ∀ k, v'.ownBlock = some k → v.ownBlock = some k ∨ W.heap.size ≤ k) (s : RStep d W1 p2 v2 ls vals add W2) :
    ∃ v2' ls' vals', WI w p v' (L ++ add) p2 v2' ls' vals' W2 ∧ ls'.length ≤ ls.length + d ∧ ∀ k, Tb p2 v2' vals' k → Tb p2 v2 vals k ∨ W.heap.size ≤ k := by
  obtain ⟨v2', ls', vals', b1, b2, b3, b4, b5⟩ := s
  have hT : ∀ k, Tw p v' k → Tw p v k ∨ W.heap.size ≤ k := by
    rintro k (rfl | e)
    · exact .inl (.inl rfl)
    · rcases r3 k e with h3 | h3
      · exact .inl (.inr h3)
      · exact .inr h3
  have hB : ∀ k, Tb p2 v2' vals' k → Tb p2 v2 vals k ∨ W1.heap.size ≤ k := b5
  have hno : ∀ k, Tw p v' k → ¬ Tb p2 v2 vals k := by
    intro k hk hb
    rcases hT k hk with h3 | h3
    · exact (h.a1 k h3).2 hb
    · exact absurd (Tb_lt h.rw hb) (by omega)
  refine ⟨v2', ls', vals', ⟨r1.keep b4 (hno _ (.inl rfl)) (fun k hk => hno k (.inr hk)), b1, by rw [b2, h.eq], ?_, ?_, ?_⟩, b3, fun k hk => (hB k hk).imp (fun x => x) (fun x => Nat.le_trans r2.size x)⟩
  · refine (h.fr.trans' r2 (fun i hi e => ?_)).trans' b4 (fun i hi e => ?_)
    · exact absurd (h.a1 i e).1 (by omega)
    · exact absurd (h.a2 i e) (by omega)
  · intro k hk
    refine ⟨?_, fun hb => ?_⟩
    · rcases hT k hk with h3 | h3
      · exact (h.a1 k h3).1
      · exact Nat.le_trans h.fr.size h3
    · rcases hB k hb with h3 | h3
      · exact hno k hk h3
      · exact absurd (Tw_lt r1 hk) (by omega)
  · intro k hk
    rcases hB k hk with h3 | h3
    · exact h.a2 k h3
    · exact Nat.le_trans (Nat.le_trans h.fr.size r2.size) h3
theorem WI.mid (h : WI w p v L p2 v2 ls vals W) (r2 : Fr (Tw p v) W W1) : RW W1 p2 v2 ls vals :=
  h.rw.keep r2 (fun k hk ht => (h.a1 k ht).2 hk)
end

/-! ### The calls, each beside the other's -/
section
variable (p : Nat) (v : Value) (L : List Int) (p2 : Nat) (v2 : Value) (ls : List (List Int)) (vals : List Value)
theorem put_pair (n size : Int) (h1 : -9223372036854775808 ≤ n) (h2 : n ≤ 9223372036854775807) (hL : L.length ≤ 100000000) (hn : ls.length ≤ 990) :
    ∃ (e : Int) (add : List Int), add.length ≤ 1048600 ∧
      (∀ W, Wr W p v L → Calls Try.prog 15 #[.pointer (some ⟨p, 0, none⟩), .int .i64 n, .int .i64 size] W fun e' W' => e' = .returned (.int .i64 e) ∧ ∃ v', Wr W' p v' (L ++ add) ∧ Fr (Tw p v) W W' ∧ (∀ k, v'.ownBlock = some k → v.ownBlock = some k ∨ W.heap.size ≤ k)) ∧
      (∀ W, RW W p2 v2 ls vals → Calls Try.prog 16 #[.pointer (some ⟨p2, 0, none⟩), .int .i64 n, .int .i64 size] W fun e' W' => e' = .returned (.int .i64 e) ∧ RStep 2 W p2 v2 ls vals add W') :=
  ⟨putE n size, pl n size, Nat.le_trans (pl_length n size) (by decide), fun W h => put_any p v L n size W h h2 (by omega), fun W h => (rput_any p2 v2 ls vals n size W h h1 h2 (by omega)).mono fun e' W' ⟨he, hs⟩ => ⟨he, hs.mono (by decide)⟩⟩
theorem bytes_pair (m : Nat) (l : List Int) (hm : m ≤ 1048576) (hl : l.length = m) (hL : L.length ≤ 100000000) (hn : ls.length ≤ 990) :
    ∃ (e : Int) (add : List Int), add.length ≤ 1048600 ∧
      (∀ W g A c, Wr W p v L → Sl W g (.slice A m c) l → (l ≠ [] → ¬ Tw p v g) → Calls Try.prog 17 #[.pointer (some ⟨p, 0, none⟩), .slice A m c] W fun e' W' => e' = .returned (.int .i64 e) ∧ ∃ v', Wr W' p v' (L ++ add) ∧ Fr (Tw p v) W W' ∧ (∀ k, v'.ownBlock = some k → v.ownBlock = some k ∨ W.heap.size ≤ k)) ∧
      (∀ W g A c, RW W p2 v2 ls vals → Sl W g (.slice A m c) l → (l ≠ [] → ¬ Tb p2 v2 vals g) → Calls Try.prog 18 #[.pointer (some ⟨p2, 0, none⟩), .slice A m c] W fun e' W' => e' = .returned (.int .i64 e) ∧ RStep 2 W p2 v2 ls vals add W') :=
  ⟨0, l, by omega, fun W g A c h hs _ => wbytes_any p g v L l A m c W h hs (by omega), fun W g A c h hs _ => (rwbytes_any p2 g v2 ls vals A m c l W h hs (by omega) (by omega)).mono fun e' W' ⟨v', x, he, t1, t2, t3, t4⟩ => ⟨he, (RStep.push (Fr.refl _ _) t1 t2 t3 t4).mono (by decide)⟩⟩
theorem octets_pair (m : Nat) (l : List Int) (hm : m ≤ 1048576) (hl : l.length = m) (hL : L.length ≤ 100000000) (hn : ls.length ≤ 990) :
    ∃ (e : Int) (add : List Int), add.length ≤ 1048600 ∧
      (∀ W g A c, Wr W p v L → Sl W g (.slice A m c) l → (l ≠ [] → ¬ Tw p v g) → Calls Try.prog 19 #[.pointer (some ⟨p, 0, none⟩), .slice A m c] W fun e' W' => e' = .returned (.int .i64 e) ∧ ∃ v', Wr W' p v' (L ++ add) ∧ Fr (Tw p v) W W' ∧ (∀ k, v'.ownBlock = some k → v.ownBlock = some k ∨ W.heap.size ≤ k)) ∧
      (∀ W g A c, RW W p2 v2 ls vals → Sl W g (.slice A m c) l → (l ≠ [] → ¬ Tb p2 v2 vals g) → Calls Try.prog 20 #[.pointer (some ⟨p2, 0, none⟩), .slice A m c] W fun e' W' => e' = .returned (.int .i64 e) ∧ RStep 2 W p2 v2 ls vals add W') := by
  refine ⟨octE m, ol m l, ?_, fun W g A c h hs hg => ?_, fun W g A c h hs hg => rwoctets_any p2 g v2 ls vals A m c l W h hs hg (by omega) hn⟩
  · unfold ol
    split
    · simp
    · rw [List.length_append, beN_length _ _ (by decide)]; omega
  · unfold octE ol
    by_cases hb : 65535 < m
    · rw [if_pos hb, if_pos hb]
      refine (octets_big p v L A m c W h hb (by simp only [maxLen]; omega)).mono ?_
      rintro e' W' ⟨rfl, rfl⟩
      exact ⟨rfl, v, by rw [List.append_nil]; exact h, Fr.refl _ _, fun k hk => .inl hk⟩
    · rw [if_neg hb, if_neg hb]
      exact octets_ok' p g v L l A m c W h hs (by omega) hg (by omega)
end
theorem RStep.fr {d : Nat} {w : World} {p : Nat} {v : Value} {ls : List (List Int)} {vals : List Value} {l : List Int} {w' : World} (h : RStep d w p v ls vals l w') : Fr (Tb p v vals) w w' := by
  obtain ⟨v2, ls2, vals2, b1, b2, b3, b4, b5⟩ := h
  exact b4
theorem Sl.frd {S : Nat → Prop} {w w' : World} {g : Nat} {v : Value} {l : List Int} (h : Sl w g v l) (hf : Fr S w w') (hn : l ≠ [] → ¬ S g) : Sl w' g v l := by
  by_cases hl : l = []
  · subst hl
    obtain ⟨hb, A, c, e, h1, h2, h3⟩ := h
    exact ⟨hb, A, c, e, h1, h2, fun h => absurd rfl h⟩
  · exact h.fr hf (fun _ => hn hl)
/-- A row of the call's own, opened: its block may be written, and lies above. -/
theorem Ow.open_ {w : World} {v : Value} {l : List Int} (h : Ow w v l) {a : Nat} (hn : ∀ k, v.ownBlock = some k → a ≤ k) : ∃ g, Sl w g v l ∧ (l ≠ [] → NF w g ∧ a ≤ g ∧ g < w.heap.size) := by
  refine ⟨v.ownBlock.getD 0, h.sl, fun hl => ⟨h.nf hl, ?_⟩⟩
  obtain ⟨h2, hb⟩ := h
  rcases h2.2 with ⟨hv, h0⟩ | ⟨g', cap', cur, hv, _, hh, _⟩
  · exact absurd (List.eq_nil_of_length_eq_zero h0) hl
  · have := hn g' (by rw [hv]; rfl)
    rw [hv]
    exact ⟨this, heap_lt hh⟩
set_option maxHeartbeats 1000000 in
theorem wout_nf (p : Nat) (v : Value) (l : List Int) (N : Nat) (w : World) (h : Wr w p v l) (hN : l.length = N) (hlen : N ≤ 140737488355328) :
    Calls Try.prog 21 #[.pointer (some ⟨p, 0, none⟩)] w fun e w' => e = .returned (.slice (some ⟨w.heap.size, 0, none⟩) N N) ∧ Sl w' w.heap.size (.slice (some ⟨w.heap.size, 0, none⟩) N N) l ∧ NF w' w.heap.size ∧ Fr (fun _ => False) w w' := by
  subst hN
  have c0 : w.cell? ⟨p, 0, none⟩ = some (.bool true) := by rw [cell_of_row w p 0 _ _ _ h.1]; rfl
  have hsl := h.sl
  obtain ⟨A1, C1, rfl⟩ := h.shape
  have c1 : w.cell? ⟨p, 1, none⟩ = some (.slice A1 l.length C1) := by rw [cell_of_row w p 1 _ _ _ h.1]; rfl
  have HB := Lib.hid h.2.2
  have HS := Lib.hid hsl
  clear h hsl
  go_enter Try.func21, Try.ntmps21
  go_wp2_with (go_at_call 45; refine (copyOf_any _ A1 l.length C1 l _ HS.out hlen).mono ?_; rintro e w1 ⟨rfl, r1, r2⟩; have R1 := Lib.hid r1; have R2 := Lib.hid r2; clear r1 r2)
  go_ret
  exact ⟨rfl, Sl.block HB.out R1.out (fun j _ => by simp) (Nat.le_refl _) (by simp only [maxLen]; omega), ⟨_, _, R1.out⟩, R2.out⟩
/-- The reference's Out, beside the program's. -/
theorem rout_eq (p : Nat) (v : Value) (ls : List (List Int)) (vals : List Value) (LL : List Int) (N : Nat) (w : World) (h : RW w p v ls vals) (he : flat ls = LL) (hN : LL.length = N) (hlen : N ≤ 140737488355328) (hn : ls.length ≤ 1000) :
    Calls Try.prog 23 #[.pointer (some ⟨p, 0, none⟩)] w fun e w' => ∃ A c g, e = .returned (.slice A N c) ∧ Sl w' g (.slice A N c) LL ∧ Fr (fun _ => False) w w' := by
  subst he
  refine (rout_any p v ls vals w h (by omega) hn).mono ?_
  rintro e w' ⟨x, rfl, r1, r2, r3⟩
  obtain ⟨A, n, c, rfl, hn'⟩ := r1.shape
  obtain rfl : n = N := by omega
  exact ⟨A, c, _, rfl, r1.sl, r3⟩
end Go.Proofs.Ytkkicekhkidhjaa
