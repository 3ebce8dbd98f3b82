/- WireEats: the walk. Conditions: slices of bytes and of calls that lie in memory, no more than a machine has. -/
import Derived.Test.YtkkicekhkidhjaaEatsI
namespace Go.Proofs.Ytkkicekhkidhjaa
set_option linter.unusedSimpArgs false
set_option linter.unusedVariables false
open Go.RowKit

theorem Ow.nf {w : World} {v : Value} {l : List Int} (h : Ow w v l) (hl : l ≠ []) : NF w (v.ownBlock.getD 0) := by
  obtain ⟨h2, hb⟩ := h
  rcases h2.2 with ⟨hv, h0⟩ | ⟨g, cap, cur, hv, _, hh, _⟩
  · exact absurd (List.eq_nil_of_length_eq_zero h0) hl
  · subst hv
    exact ⟨_, _, hh⟩

set_option maxRecDepth 100000 in
set_option maxHeartbeats 8000000 in
theorem eats_any (g : Nat) (A : Option Addr) (n c : Nat) (l : List Int) (V : Option Addr) (b off len cap : Nat) (hV : 0 < len → V = some ⟨b, off, none⟩) (w : World) (hs : Sl w g (.slice A n c) l) (hn : n ≤ 140737488355328) (hlen : len ≤ 140737488355328) (hC : ∀ i, i < len → ∃ what n size A m c g data, CallAt w b off i what n size A m c g data) :
    Calls Try.prog 4 #[.slice A n c, .slice V len cap] w fun e w' => e = .returned (.bool true) ∧ Fr (fun _ => False) w w' := by
  have HC := Lib.hid hC
  have HS := Lib.hid hs
  have HNL := Lib.hid hs.len
  have HB := Lib.hid hs.1
  clear hC hs
  go_enter Try.func4, Try.ntmps4
  go_wp2_with fail
  refine (copyBytes_any g A n c l w HS.out hn).mono ?_
  rintro e w1 ⟨A1, c1, rfl, r1, r2, r3⟩
  have O1 := Lib.hid r1
  have N1 := Lib.hid r2
  have F1 := Lib.hid r3
  clear r1 r2 r3
  go_wp2_with fail
  refine (new_lt _ A1 n c1 l w1 O1.out.sl hn).mono ?_
  rintro e w2 ⟨p, q, rfl, r1, r2, r3, r4, r5, r6, r7⟩
  have R2 := Lib.hid r1
  have F2 := Lib.hid r7
  have P2 : Hid (w1.heap.size ≤ p ∧ w1.heap.size ≤ q ∧ p < w2.heap.size ∧ q < w2.heap.size ∧ p ≠ q) := ⟨r2, r3, r4, r5, r6⟩
  clear r1 r2 r3 r4 r5 r6 r7
  go_wp2_with fail
  refine (rnew_any g A n c l w2 ((HS.out.fr F1.out (fun _ x => x)).fr F2.out (fun _ x => x)) hn).mono ?_
  rintro e w3 ⟨p2, q0, rfl, r1, r2, r3, r4, r5⟩
  obtain ⟨q2, hq2⟩ : ∃ q2, RR w3 p2 q2 l 0 ∧ q2 ≠ p ∧ w1.heap.size ≤ q2 ∧ q2 < w3.heap.size := by
    have hp := P2.out
    have hs2 := r4.size
    by_cases hl : l = []
    · subst hl
      obtain ⟨v, a1, a2, a3, a4⟩ := r1
      exact ⟨q, ⟨v, a1, a2.any q, by omega, a4⟩, by omega, by omega, by omega⟩
    · have := r3 hl
      have := F2.out.size
      exact ⟨q0, r1, by omega, by omega, by omega⟩
  have I3 : Hid (EI w w3.heap.size p q p2 q2 l 0 w3) := by
    have hp := P2.out
    have h1 := F1.out.size
    have h2 := F2.out.size
    have h3 := r4.size
    exact ⟨R2.out.keep r4 (fun x => x) (fun _ x => x), hq2.1, Nat.zero_le _, (F1.out.trans F2.out).trans r4, Nat.le_refl _, by omega⟩
  have F3 := Lib.hid r4
  have Q3 : Hid (w1.heap.size ≤ p2 ∧ w1.heap.size ≤ q2) := ⟨by have := F2.out.size; omega, hq2.2.2.1⟩
  clear r1 r2 r3 r4 r5 hq2 q0
  go_wp2_with fail
  refine (eq_self _ g _ _ _ _ _ _ l w3 ((O1.out.sl.fr F2.out (fun _ x => x)).fr F3.out (fun _ x => x)) (((HS.out.fr F1.out (fun _ x => x)).fr F2.out (fun _ x => x)).fr F3.out (fun _ x => x))).mono ?_
  rintro e w4 ⟨rfl, r1⟩
  have F4 := Lib.hid r1
  have I4 := Lib.hid (I3.out.quiet r1)
  clear r1 I3
  go_wp2_with fail
  refine (spoil_any _ A1 n c1 l w4 (((O1.out.sl.fr F2.out (fun _ x => x)).fr F3.out (fun _ x => x)).fr F4.out (fun _ x => x)) (fun hl => (((O1.out.nf hl).fr F2.out (fun x => x)).fr F3.out (fun x => x)).fr F4.out (fun x => x))).mono ?_
  rintro e w5 ⟨rfl, r1⟩
  have I5 : Hid (EI w w3.heap.size p q p2 q2 l 0 w5) := by
    have h := I4.out
    have ha := h.apart
    have hp := P2.out
    have hq := Q3.out
    have key : ∀ x, w1.heap.size ≤ x → ¬ (x = (Value.slice A1 n c1).ownBlock.getD 0 ∧ l ≠ []) := by
      rintro x hx ⟨rfl, hl⟩
      obtain ⟨_, A', c', e2, _, _, hx2⟩ := O1.out.sl
      obtain ⟨o, _, h, _⟩ := hx2 hl
      omega
    have key2 : ∀ x, x < w.heap.size → ¬ (x = (Value.slice A1 n c1).ownBlock.getD 0 ∧ l ≠ []) := by
      rintro x hx ⟨rfl, hl⟩
      have := O1.out.nf hl
      obtain ⟨h2, hb⟩ := O1.out
      rcases h2.2 with ⟨hv, h0⟩ | ⟨g', cap', cur, hv, _⟩
      · exact absurd (List.eq_nil_of_length_eq_zero h0) hl
      · have := N1.out g' (by rw [hv]; rfl)
        rw [hv] at hx
        simp [Value.ownBlock] at hx
        omega
    exact ⟨h.rd.keep r1 (key _ hp.1) (fun _ => key _ hp.2.1), h.rr.keep r1 (key _ hq.1) (fun _ => key _ hq.2), h.hk, h.fr.trans' r1 (fun i hi e => absurd e (key2 i hi)), Nat.le_trans h.size r1.size, ha⟩
  clear r1 I4 F1 F2 F3 F4 P2 Q3 R2 N1 O1
  obtain ⟨B, hB⟩ : ∃ B, w3.heap.size = B := ⟨_, rfl⟩
  rw [hB] at I5
  clear hB
  go_wp2_with fail
  go_loopw [8] (fun i wr => ∃ (j k : Nat), i = .int .i64 j ∧ j ≤ len ∧ j ≤ 60 ∧ Hid (EI w B p q p2 q2 l k wr)) (fun i _ => len - (intOf i).toNat)
  case atStart => exact ⟨0, 0, rfl, by omega, by omega, I5⟩
  case round =>
    obtain ⟨j, k, rfl, h1, h2, hG⟩ := hrel
    clear I5
    by_cases h3 : j < len
    · by_cases h4 : j < 60
      · obtain rfl : V = some ⟨b, off, none⟩ := hV (by omega)
        obtain ⟨what, vn, size, A1, m, c1, g1, data, hca⟩ := HC.out j h3
        have hcw := hca.keep hG.out.fr
        have k0 := hcw.c0
        have k1 := hcw.c1
        have k2 := hcw.c2
        have HW := Lib.hid hcw
        clear hcw hca
        have hr : what % 3 = 0 ∨ what % 3 = 1 ∨ what % 3 = 2 := by omega
        rcases hr with hr | hr | hr
        · have HR := Lib.hid hr
          clear hr
          obtain ⟨N, e, k', q1, q2', q3⟩ := get_both p q p2 q2 k l size hG.out.hk HB.out
          have Q2 := Lib.hid q2'
          have Q3 := Lib.hid q3
          clear q2' q3
          go_wp2_with fail
          refine (bring_eq what 3 0 _ (by decide) (by decide) HW.out.w0 HW.out.w1 HR.out).mono ?_
          rintro e w6 ⟨rfl, rfl⟩
          go_wp2_with fail
          refine (Q2.out _ hG.out.rd).mono ?_
          rintro e w6 ⟨rfl, r1, r2⟩
          have R6 := Lib.hid r1
          have F6 := Lib.hid r2
          have S6 : Hid (RR w6 p2 q2 l k) := by have ha := hG.out.apart; exact hG.out.rr.keep r2 (by omega) (fun _ e => by omega)
          have k2' : w6.cell? ⟨b, off + j * 4 + 2, none⟩ = some (.int .i64 size) := (World.cell?_of_block (w := wr) (r2.block b (World.block_lt_of_cell? _ _ k2) (fun e => by have ha := hG.out.apart; have := World.block_lt_of_cell? _ _ (HC.out j h3).choose_spec.choose_spec.choose_spec.choose_spec.choose_spec.choose_spec.choose_spec.choose_spec.c0; simp at this e; omega))).trans k2
          clear r1 r2
          go_wp2_with fail
          refine (Q3.out _ S6.out).mono ?_
          rintro e w7 ⟨rfl, r1, r2⟩
          have I7 : Hid (EI w B p q p2 q2 l k' w7) := hG.out.both q1 R6.out F6.out r1 r2
          clear r1 r2 Q2 Q3 R6 F6 S6
          obtain ⟨D, hD⟩ : ∃ D, (l.length : Int) - k' = D := ⟨_, rfl⟩
          obtain ⟨E, hE⟩ : ∃ E : Int, (if k' < l.length then (4 : Int) else 0) = E := ⟨_, rfl⟩
          go_wp2_with fail
          refine (eq_self 0 0 none none 0 0 0 0 [] w7 (Sl.nil _ _) (Sl.nil _ _)).mono ?_
          rintro e w8 ⟨rfl, r1⟩
          have I8 := Lib.hid (I7.out.quiet r1)
          have F8 := Lib.hid r1
          clear r1
          go_wp2_with fail
          refine (left_k p q k' l w8 I8.out.rd I8.out.hk).mono ?_
          rintro e w9 ⟨rfl, rfl⟩
          rw [hD]
          go_wp2_with fail
          refine (rleft_fr p2 q2 k' l _ I8.out.rr D hD).mono ?_
          rintro e w9 ⟨rfl, r1⟩
          have I9 := Lib.hid (I8.out.quiet r1)
          have F9 := Lib.hid r1
          clear r1
          go_wp2_with fail
          refine (end_k p q k' l w9 I9.out.rd E hE).mono ?_
          rintro e w10 ⟨rfl, rfl⟩
          go_wp2_with fail
          refine (rend_fr p2 q2 k' l _ I9.out.rr E hE).mono ?_
          rintro e w10 ⟨rfl, r1⟩
          have I10 := Lib.hid (I9.out.quiet r1)
          have F10 := Lib.hid r1
          clear r1
          go_wp2_with fail
          refine (spoil_any 0 none 0 0 [] w10 (Sl.nil _ _) (fun h => absurd rfl h)).mono ?_
          rintro e w11 ⟨rfl, r1⟩
          have I11 : Hid (EI w B p q p2 q2 l k' w11) := I10.out.spoilt r1 (fun h => absurd rfl h)
          clear r1
          go_wp2_with fail
          refine ⟨⟨j + 1, k', by go_num, by omega, by omega, I11⟩, by simp [intOf]; omega⟩
        · have HR := Lib.hid hr
          clear hr
          obtain ⟨y, e, k', q1, q2', q3⟩ := bytes_both p q p2 q2 k l vn hG.out.hk (by have := HNL.out; omega)
          have Q2 := Lib.hid q2'
          have Q3 := Lib.hid q3
          clear q2' q3
          go_wp2_with fail
          refine (bring_eq what 3 1 _ (by decide) (by decide) HW.out.w0 HW.out.w1 HR.out).mono ?_
          rintro e w6 ⟨rfl, rfl⟩
          go_wp2_with fail
          refine (Q2.out _ hG.out.rd).mono ?_
          rintro e w6 ⟨v, rfl, ⟨A6, c6, b6, rfl, s6, n6⟩, r1, r2⟩
          have R6 := Lib.hid r1
          have F6 := Lib.hid r2
          have Y6 := Lib.hid s6
          have NN6 := Lib.hid n6
          have S6 : Hid (RR w6 p2 q2 l k) := by have ha := hG.out.apart; exact hG.out.rr.keep r2 (by omega) (fun _ e => by omega)
          have k2' : w6.cell? ⟨b, off + j * 4 + 1, none⟩ = some (.int .i64 vn) := (World.cell?_of_block (w := wr) (r2.block b (World.block_lt_of_cell? _ _ k1) (fun e => by have ha := hG.out.apart; have := World.block_lt_of_cell? _ _ (HC.out j h3).choose_spec.choose_spec.choose_spec.choose_spec.choose_spec.choose_spec.choose_spec.choose_spec.c0; simp at this e; omega))).trans k1
          clear r1 r2 s6 n6
          go_wp2_with fail
          refine (Q3.out _ S6.out).mono ?_
          rintro e w7 ⟨A7, c7, b7, rfl, s7, r1, r2⟩
          have I7 : Hid (EI w B p q p2 q2 l k' w7) := hG.out.both q1 R6.out F6.out r1 r2
          have Z7 := Lib.hid s7
          have hb6 : Hid (y ≠ [] → NF w7 b6 ∧ B ≤ b6 ∧ b6 ≠ p2) := by
            intro hy
            have := NN6.out hy
            have ha := hG.out.apart
            have := hG.out.size
            have hne : b6 ≠ p2 := by omega
            exact ⟨(NN6.out hy).1.fr r2 hne, by omega, hne⟩
          have Y7 : Hid (Sl w7 b6 (.slice A6 y.length c6) y) := by
            by_cases hy : y = []
            · subst hy; exact (Y6.out.any (p2 + 1)).fr r2 (fun _ e => by omega) |>.any b6
            · exact Y6.out.fr r2 (fun _ e => absurd e (hb6.out hy).2.2)
          clear r1 r2 s7 Q2 Q3 R6 S6 Y6 NN6
          obtain ⟨D, hD⟩ : ∃ D, (l.length : Int) - k' = D := ⟨_, rfl⟩
          obtain ⟨E, hE⟩ : ∃ E : Int, (if k' < l.length then (4 : Int) else 0) = E := ⟨_, rfl⟩
          go_wp2_with fail
          refine (eq_self b6 b7 A6 A7 y.length y.length c6 c7 y w7 Y7.out Z7.out).mono ?_
          rintro e w8 ⟨rfl, r1⟩
          have I8 := Lib.hid (I7.out.quiet r1)
          have F8 := Lib.hid r1
          clear r1
          go_wp2_with fail
          refine (left_k p q k' l w8 I8.out.rd I8.out.hk).mono ?_
          rintro e w9 ⟨rfl, rfl⟩
          rw [hD]
          go_wp2_with fail
          refine (rleft_fr p2 q2 k' l _ I8.out.rr D hD).mono ?_
          rintro e w9 ⟨rfl, r1⟩
          have I9 := Lib.hid (I8.out.quiet r1)
          have F9 := Lib.hid r1
          clear r1
          go_wp2_with fail
          refine (end_k p q k' l w9 I9.out.rd E hE).mono ?_
          rintro e w10 ⟨rfl, rfl⟩
          go_wp2_with fail
          refine (rend_fr p2 q2 k' l _ I9.out.rr E hE).mono ?_
          rintro e w10 ⟨rfl, r1⟩
          have I10 := Lib.hid (I9.out.quiet r1)
          have F10 := Lib.hid r1
          clear r1
          go_wp2_with fail
          refine (spoil_any b6 A6 y.length c6 y w10 (((Y7.out.fr F8.out (fun _ x => x)).fr F9.out (fun _ x => x)).fr F10.out (fun _ x => x)) (fun hy => (((hb6.out hy).1.fr F8.out (fun x => x)).fr F9.out (fun x => x)).fr F10.out (fun x => x))).mono ?_
          rintro e w11 ⟨rfl, r1⟩
          have I11 : Hid (EI w B p q p2 q2 l k' w11) := I10.out.spoilt r1 (fun hy => (hb6.out hy).2.1)
          clear r1
          go_wp2_with fail
          refine ⟨⟨j + 1, k', by go_num, by omega, by omega, I11⟩, by simp [intOf]; omega⟩
        · have HR := Lib.hid hr
          clear hr
          obtain ⟨y, e, k', q1, q2', q3⟩ := octets_both p q p2 q2 k l vn hG.out.hk HB.out (by have := HNL.out; omega)
          have Q2 := Lib.hid q2'
          have Q3 := Lib.hid q3
          clear q2' q3
          go_wp2_with fail
          refine (bring_eq what 3 2 _ (by decide) (by decide) HW.out.w0 HW.out.w1 HR.out).mono ?_
          rintro e w6 ⟨rfl, rfl⟩
          go_wp2_with fail
          refine (Q2.out _ hG.out.rd).mono ?_
          rintro e w6 ⟨v, rfl, ⟨A6, c6, b6, rfl, s6, n6⟩, r1, r2⟩
          have R6 := Lib.hid r1
          have F6 := Lib.hid r2
          have Y6 := Lib.hid s6
          have NN6 := Lib.hid n6
          have S6 : Hid (RR w6 p2 q2 l k) := by have ha := hG.out.apart; exact hG.out.rr.keep r2 (by omega) (fun _ e => by omega)
          have k2' : w6.cell? ⟨b, off + j * 4 + 1, none⟩ = some (.int .i64 vn) := (World.cell?_of_block (w := wr) (r2.block b (World.block_lt_of_cell? _ _ k1) (fun e => by have ha := hG.out.apart; have := World.block_lt_of_cell? _ _ (HC.out j h3).choose_spec.choose_spec.choose_spec.choose_spec.choose_spec.choose_spec.choose_spec.choose_spec.c0; simp at this e; omega))).trans k1
          clear r1 r2 s6 n6
          go_wp2_with fail
          refine (Q3.out _ S6.out).mono ?_
          rintro e w7 ⟨A7, c7, b7, rfl, s7, r1, r2⟩
          have I7 : Hid (EI w B p q p2 q2 l k' w7) := hG.out.both q1 R6.out F6.out r1 r2
          have Z7 := Lib.hid s7
          have hb6 : Hid (y ≠ [] → NF w7 b6 ∧ B ≤ b6 ∧ b6 ≠ p2) := by
            intro hy
            have := NN6.out hy
            have ha := hG.out.apart
            have := hG.out.size
            have hne : b6 ≠ p2 := by omega
            exact ⟨(NN6.out hy).1.fr r2 hne, by omega, hne⟩
          have Y7 : Hid (Sl w7 b6 (.slice A6 y.length c6) y) := by
            by_cases hy : y = []
            · subst hy; exact (Y6.out.any (p2 + 1)).fr r2 (fun _ e => by omega) |>.any b6
            · exact Y6.out.fr r2 (fun _ e => absurd e (hb6.out hy).2.2)
          clear r1 r2 s7 Q2 Q3 R6 S6 Y6 NN6
          obtain ⟨D, hD⟩ : ∃ D, (l.length : Int) - k' = D := ⟨_, rfl⟩
          obtain ⟨E, hE⟩ : ∃ E : Int, (if k' < l.length then (4 : Int) else 0) = E := ⟨_, rfl⟩
          go_wp2_with fail
          refine (eq_self b6 b7 A6 A7 y.length y.length c6 c7 y w7 Y7.out Z7.out).mono ?_
          rintro e w8 ⟨rfl, r1⟩
          have I8 := Lib.hid (I7.out.quiet r1)
          have F8 := Lib.hid r1
          clear r1
          go_wp2_with fail
          refine (left_k p q k' l w8 I8.out.rd I8.out.hk).mono ?_
          rintro e w9 ⟨rfl, rfl⟩
          rw [hD]
          go_wp2_with fail
          refine (rleft_fr p2 q2 k' l _ I8.out.rr D hD).mono ?_
          rintro e w9 ⟨rfl, r1⟩
          have I9 := Lib.hid (I8.out.quiet r1)
          have F9 := Lib.hid r1
          clear r1
          go_wp2_with fail
          refine (end_k p q k' l w9 I9.out.rd E hE).mono ?_
          rintro e w10 ⟨rfl, rfl⟩
          go_wp2_with fail
          refine (rend_fr p2 q2 k' l _ I9.out.rr E hE).mono ?_
          rintro e w10 ⟨rfl, r1⟩
          have I10 := Lib.hid (I9.out.quiet r1)
          have F10 := Lib.hid r1
          clear r1
          go_wp2_with fail
          refine (spoil_any b6 A6 y.length c6 y w10 (((Y7.out.fr F8.out (fun _ x => x)).fr F9.out (fun _ x => x)).fr F10.out (fun _ x => x)) (fun hy => (((hb6.out hy).1.fr F8.out (fun x => x)).fr F9.out (fun x => x)).fr F10.out (fun x => x))).mono ?_
          rintro e w11 ⟨rfl, r1⟩
          have I11 : Hid (EI w B p q p2 q2 l k' w11) := I10.out.spoilt r1 (fun hy => (hb6.out hy).2.1)
          clear r1
          go_wp2_with fail
          refine ⟨⟨j + 1, k', by go_num, by omega, by omega, I11⟩, by simp [intOf]; omega⟩
      · go_wp2_with fail
        refine (works_any _).mono ?_
        rintro e w6 ⟨rfl, r1⟩
        go_wp2
        go_ret
        exact ⟨rfl, hG.out.fr.trans r1⟩
    · go_wp2_with fail
      refine (works_any _).mono ?_
      rintro e w6 ⟨rfl, r1⟩
      go_wp2
      go_ret
      exact ⟨rfl, hG.out.fr.trans r1⟩
end Go.Proofs.Ytkkicekhkidhjaa
