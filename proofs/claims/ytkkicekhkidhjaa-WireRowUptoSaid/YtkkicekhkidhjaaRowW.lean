/- WireRow: the walk. Conditions: a slice of calls that lies in memory, the bytes of each call no more than a mebibyte. -/
import Derived.Test.YtkkicekhkidhjaaRPair
namespace Go.Proofs.Ytkkicekhkidhjaa
set_option linter.unusedSimpArgs false
set_option linter.unusedVariables false
open Go.RowKit

/-- A block that both writers leave alone. -/
theorem keepCell {S : Nat → Prop} {W W' : World} {g : Nat} {o : Obj} (h : W.heap[g]? = some o) (hf : Fr S W W') (hn : ¬ S g) : W'.heap[g]? = some o := (hf.block g (heap_lt h) hn).trans h

set_option maxRecDepth 100000 in
set_option maxHeartbeats 8000000 in
theorem row_any (V : Option Addr) (b off len cap : Nat) (hV : 0 < len → V = some ⟨b, off, none⟩) (w : World) (hlen : len ≤ 140737488355328)
    (hC : ∀ i, i < len → ∃ what n size A m c g data, CallAt w b off i what n size A m c g data ∧ -9223372036854775808 ≤ n ∧ m ≤ 1048576) :
    Calls Try.prog 3 #[.slice V len cap] w fun e w' => e = .returned (.bool true) ∧ Fr (fun _ => False) w w' := by
  have HC := Lib.hid hC
  clear hC
  go_enter Try.func3, Try.ntmps3
  go_wp2_with fail
  refine (write_any _).mono ?_
  rintro e w1 ⟨rfl, r1, r2⟩
  have W1 := Lib.hid r1
  have F1 := Lib.hid r2
  clear r1 r2
  go_wp2_with fail
  refine (rwrite_any _).mono ?_
  rintro e w2 ⟨rfl, r1, r2⟩
  obtain ⟨p, hp⟩ : ∃ p, w.heap.size = p := ⟨_, rfl⟩
  obtain ⟨p2, hp2⟩ : ∃ p2, w1.heap.size = p2 := ⟨_, rfl⟩
  have I2 : Hid (WI w p (.slice none 0 0) [] p2 (.slice none 0 0) [] [] w2) := by
    have h1 := heap_lt W1.out.1
    rw [hp] at h1
    rw [hp2] at h1
    have W1' := W1.out
    rw [hp] at W1'
    rw [hp2] at r1
    refine ⟨W1'.keep r2 (fun x => x) (fun _ _ x => x), r1, rfl, F1.out.trans r2, ?_, ?_⟩
    · rintro k (rfl | e)
      · refine ⟨by omega, ?_⟩
        rintro (e | e | ⟨x, hx, _⟩)
        · omega
        · cases e
        · cases hx
      · cases e
    · rintro k (rfl | e | ⟨x, hx, _⟩)
      · omega
      · cases e
      · cases hx
  clear r1 r2 W1 F1
  rw [hp, hp2]
  go_wp2_with fail
  go_loopw [5] (fun i wr => ∃ (j : Nat) (v : Value) (L : List Int) (v2 : Value) (ls : List (List Int)) (vals : List Value), i = .int .i64 j ∧ j ≤ len ∧ j ≤ 60 ∧ L.length ≤ j * 1048600 ∧ ls.length ≤ 2 * j ∧ Hid (WI w p v L p2 v2 ls vals wr)) (fun i _ => len - (intOf i).toNat)
  case atStart => exact ⟨0, _, [], _, [], [], rfl, by omega, by omega, by simp, by simp, I2⟩
  case round =>
    obtain ⟨j, v, L, v2, ls, vals, rfl, h1, h2, hL, hls, hG⟩ := hrel
    clear I2
    by_cases h3 : j < len
    · by_cases h4 : j < 60
      · obtain rfl : V = some ⟨b, off, none⟩ := hV (by omega)
        obtain ⟨what, vn, size, A1, m, c1, g1, data, hca, hvn, hm⟩ := HC.out j h3
        have hg1 : Hid (data ≠ [] → g1 < w.heap.size) := hca.lt
        have hcw := hca.keep hG.out.fr
        have k0 := hcw.c0
        have k1 := hcw.c1
        have k2 := hcw.c2
        have k3 := hcw.c3
        have HW := Lib.hid hcw
        have hlm : data.length = m := hcw.sl.len
        clear hcw hca
        obtain ⟨O, hO⟩ : ∃ O, O = Obj.cells #[.int .i64 what, .int .i64 vn, .int .i64 size, .slice A1 m c1] 29 := ⟨_, rfl⟩
        have FA : Hid (Fr (fun _ => False) wr (wr.alloc O)) := (Fr.refl _ _).alloc _
        have IA : Hid (WI w p v L p2 v2 ls vals (wr.alloc O)) := hG.out.quiet FA.out
        have BA : Hid ((wr.alloc O).heap[wr.heap.size]? = some O) := heap_alloc_new wr O
        have DA : Hid (Sl (wr.alloc O) g1 (.slice A1 m c1) data) := HW.out.sl.fr FA.out (fun _ x => x)
        have SA : Hid ((wr.alloc O).heap.size = wr.heap.size + 1) := by show _ = _; simp
        subst hO
        have hr : what % 3 = 0 ∨ what % 3 = 1 ∨ what % 3 = 2 := by omega
        rcases hr with hr | hr | hr
        · have HR := Lib.hid hr
          clear hr
          obtain ⟨e, add, q0, q1, q2⟩ := put_pair p v L p2 v2 ls vals vn size hvn HW.out.n1 (by omega) (by omega)
          have Q1 := Lib.hid q1
          have Q2 := Lib.hid q2
          clear q1 q2
          go_wp2_with fail
          refine (copyBytes_any g1 A1 m c1 data _ DA.out (by omega)).mono ?_
          rintro e0 w3 ⟨A3, c3, rfl, r1, r2, r3⟩
          obtain ⟨gi, s3, n3⟩ := r1.open_ r2
          have X3 := Lib.hid s3
          have N3 : Hid (data ≠ [] → NF w3 gi ∧ wr.heap.size ≤ gi ∧ gi < w3.heap.size) := Lib.hid (fun h => by have h0 := n3 h; have := SA.out; exact ⟨h0.1, by omega, h0.2.2⟩)
          have I3 := Lib.hid (IA.out.quiet r3)
          have B3 := Lib.hid (keepCell BA.out r3 (fun x => x))
          have D3 := Lib.hid (DA.out.fr r3 (fun _ x => x))
          have S3 : Hid (wr.heap.size < w3.heap.size) := by have := r3.size; have := SA.out; show _ < _; omega
          clear r1 r2 r3 s3 n3 IA BA DA
          have z0 : w3.cell? ⟨wr.heap.size, 0, none⟩ = some (.int .i64 what) := by rw [cell_of_row w3 _ 0 _ _ _ B3.out]; rfl
          go_wp2_with fail
          refine (bring_eq what 3 0 _ (by decide) (by decide) HW.out.w0 HW.out.w1 HR.out).mono ?_
          rintro e0 w4 ⟨rfl, rfl⟩
          have z1 : w3.cell? ⟨wr.heap.size, 1, none⟩ = some (.int .i64 vn) := by rw [cell_of_row w3 _ 1 _ _ _ B3.out]; rfl
          have z2 : w3.cell? ⟨wr.heap.size, 2, none⟩ = some (.int .i64 size) := by rw [cell_of_row w3 _ 2 _ _ _ B3.out]; rfl
          go_wp2_with fail
          refine (Q1.out _ I3.out.wr).mono ?_
          rintro e0 w4 ⟨rfl, v4, r1, r2, r3⟩
          have M4 : Hid (RW w4 p2 v2 ls vals) := I3.out.mid r2
          have hT : ¬ Tw p v wr.heap.size := fun h => absurd (Tw_lt hG.out.wr h) (Nat.lt_irrefl _)
          have hB : ¬ Tb p2 v2 vals wr.heap.size := fun h => absurd (Tb_lt hG.out.rw h) (Nat.lt_irrefl _)
          have B4 := Lib.hid (keepCell B3.out r2 hT)
          have D4 := Lib.hid (D3.out.frd r2 (fun hd h => absurd (hG.out.a1 _ h).1 (by have := hg1.out hd; omega)))
          have X4 := Lib.hid (X3.out.frd r2 (fun hd h => absurd (Tw_lt hG.out.wr h) (by have := N3.out hd; omega)))
          have Y4 : Hid (data ≠ [] → NF w4 gi) := Lib.hid (fun hd => (N3.out hd).1.fr r2 (fun h => absurd (Tw_lt hG.out.wr h) (by have := N3.out hd; omega)))
          have P1 := Lib.hid r1
          have P2 := Lib.hid r2
          have P3 := Lib.hid r3
          have HB := Lib.hid hB
          clear r1 r2 r3 hT hB B3 D3 X3 z0 z1 z2
          have z1 : w4.cell? ⟨wr.heap.size, 1, none⟩ = some (.int .i64 vn) := by rw [cell_of_row w4 _ 1 _ _ _ B4.out]; rfl
          have z2 : w4.cell? ⟨wr.heap.size, 2, none⟩ = some (.int .i64 size) := by rw [cell_of_row w4 _ 2 _ _ _ B4.out]; rfl
          go_wp2_with fail
          refine (Q2.out _ M4.out).mono ?_
          rintro e0 w5 ⟨rfl, r4⟩
          obtain ⟨v5, ls5, vals5, i5, hl5, t5⟩ := I3.out.both P1.out P2.out P3.out r4
          obtain ⟨LL, hLL⟩ : ∃ LL, L ++ add = LL := ⟨_, rfl⟩
          have hLL2 : LL.length ≤ (j + 1) * 1048600 := by rw [← hLL, List.length_append]; omega
          rw [hLL] at i5
          have I5 := Lib.hid i5
          have hn5 := Lib.hid (fun (hd : data ≠ []) => hG.out.band (Nat.le_of_lt S3.out) P3.out t5 gi (N3.out hd).2.1 (N3.out hd).2.2)
          have F5 := RStep.fr r4
          have B5 := Lib.hid (keepCell B4.out F5 HB.out)
          have D5 := Lib.hid (D4.out.frd F5 (fun hd h => absurd (hG.out.a2 _ h) (by have := hg1.out hd; omega)))
          have hgB : Hid (data ≠ [] → ¬ Tb p2 v2 vals gi) := Lib.hid (fun hd h => absurd (Tb_lt hG.out.rw h) (by have := N3.out hd; omega))
          have X5 := Lib.hid (X4.out.frd F5 (fun hd h => hgB.out hd h))
          have Y5 : Hid (data ≠ [] → NF w5 gi) := Lib.hid (fun hd => (Y4.out hd).fr F5 (fun h => hgB.out hd h))
          have G5 : Hid (data ≠ [] → gi < w5.heap.size) := Lib.hid (fun hd => heap_lt (Y5.out hd).choose_spec.choose_spec)
          obtain ⟨NN, hNN⟩ : ∃ NN, LL.length = NN := ⟨_, rfl⟩
          have hNB : NN ≤ 100000000 := by rw [← hNN]; omega
          have HNN := Lib.hid hNN
          have hl9 : Hid (ls5.length ≤ 1000) := by show _ ≤ _; omega
          clear r4 i5 t5 F5 B4 D4 X4 Y4 M4 P1 P2 P3 I3 Q1 Q2 hgB hLL HB z1 z2
          go_wp2_with fail
          refine (wout_nf p v4 LL NN w5 I5.out.wr HNN.out (by omega)).mono ?_
          rintro e0 w6 ⟨rfl, r1, r2, r3⟩
          have I6 := Lib.hid (I5.out.quiet r3)
          have T6 := Lib.hid r1
          have U6 := Lib.hid r2
          have X6 := Lib.hid (X5.out.fr r3 (fun _ x => x))
          have Y6 : Hid (data ≠ [] → NF w6 gi) := Lib.hid (fun hd => (Y5.out hd).fr r3 (fun x => x))
          have D6 := Lib.hid (D5.out.fr r3 (fun _ x => x))
          have B6 := Lib.hid (keepCell B5.out r3 (fun x => x))
          clear r1 r2 r3 B5 D5 X5 Y5
          have z3 : w6.cell? ⟨wr.heap.size, 3, none⟩ = some (.slice A1 m c1) := by rw [cell_of_row w6 _ 3 _ _ _ B6.out]; rfl
          go_wp2_with fail
          refine (eq_self gi g1 A3 A1 m m c3 c1 data w6 X6.out D6.out).mono ?_
          rintro e0 w7 ⟨rfl, r3⟩
          have I7 := Lib.hid (I6.out.quiet r3)
          have T7 := Lib.hid (T6.out.fr r3 (fun _ x => x))
          have U7 := Lib.hid (U6.out.fr r3 (fun x => x))
          have X7 := Lib.hid (X6.out.fr r3 (fun _ x => x))
          have Y7 : Hid (data ≠ [] → NF w7 gi) := Lib.hid (fun hd => (Y6.out hd).fr r3 (fun x => x))
          clear r3 I6 T6 U6 X6 Y6 D6 B6 z3
          go_wp2_with fail
          refine (rout_eq p2 v5 ls5 vals5 LL NN w7 I7.out.rw I7.out.eq HNN.out (by omega) hl9.out).mono ?_
          rintro e0 w8 ⟨A8, c8, g8, rfl, r1, r3⟩
          have I8 := Lib.hid (I7.out.quiet r3)
          have T8 := Lib.hid (T7.out.fr r3 (fun _ x => x))
          have U8 := Lib.hid (U7.out.fr r3 (fun x => x))
          have X8 := Lib.hid (X7.out.fr r3 (fun _ x => x))
          have Y8 : Hid (data ≠ [] → NF w8 gi) := Lib.hid (fun hd => (Y7.out hd).fr r3 (fun x => x))
          have V8 := Lib.hid r1
          clear r1 r3 I7 T7 U7 X7 Y7
          go_wp2_with fail
          refine (eq_self w5.heap.size g8 _ A8 NN NN NN c8 LL w8 T8.out V8.out).mono ?_
          rintro e0 w9 ⟨rfl, r3⟩
          have I9 := Lib.hid (I8.out.quiet r3)
          have T9 := Lib.hid (T8.out.fr r3 (fun _ x => x))
          have U9 := Lib.hid (U8.out.fr r3 (fun x => x))
          have X9 := Lib.hid (X8.out.fr r3 (fun _ x => x))
          have Y9 : Hid (data ≠ [] → NF w9 gi) := Lib.hid (fun hd => (Y8.out hd).fr r3 (fun x => x))
          clear r3 I8 T8 U8 X8 Y8 V8
          go_wp2_with fail
          refine (spoil_any gi A3 m c3 data w9 X9.out Y9.out).mono ?_
          rintro e0 w10 ⟨rfl, r3⟩
          have I10 : Hid (WI w p v4 LL p2 v5 ls5 vals5 w10) := I9.out.spoilt r3 (fun hd => ⟨by have := (N3.out hd).2.1; have := hG.out.fr.size; omega, hn5.out hd⟩)
          have T10 := Lib.hid (T9.out.frd r3 (fun _ h => absurd h.1 (by have := G5.out h.2; omega)))
          have U10 := Lib.hid (U9.out.fr r3 (fun h => absurd h.1 (by have := G5.out h.2; omega)))
          clear r3 I9 T9 U9 X9 Y9
          go_wp2_with fail
          refine (spoil_any w5.heap.size _ NN NN LL w10 T10.out (fun _ => U10.out)).mono ?_
          rintro e0 w11 ⟨rfl, r3⟩
          have I11 : Hid (WI w p v4 LL p2 v5 ls5 vals5 w11) := I10.out.spoilt r3 (fun _ => ⟨I5.out.fr.size, fun h => absurd (Tw_lt I5.out.wr h) (Nat.lt_irrefl _), fun h => absurd (Tb_lt I5.out.rw h) (Nat.lt_irrefl _)⟩)
          clear r3 I10 T10 U10
          go_wp2_with fail
          exact ⟨⟨j + 1, v4, LL, v5, ls5, vals5, by go_num, by omega, by omega, hLL2, by omega, I11⟩, by simp [intOf]; omega⟩
        · have HR := Lib.hid hr
          clear hr
          obtain ⟨e, add, q0, q1, q2⟩ := bytes_pair p v L p2 v2 ls vals m data hm hlm (by omega) (by omega)
          have Q1 := Lib.hid q1
          have Q2 := Lib.hid q2
          clear q1 q2
          go_wp2_with fail
          refine (copyBytes_any g1 A1 m c1 data _ DA.out (by omega)).mono ?_
          rintro e0 w3 ⟨A3, c3, rfl, r1, r2, r3⟩
          obtain ⟨gi, s3, n3⟩ := r1.open_ r2
          have X3 := Lib.hid s3
          have N3 : Hid (data ≠ [] → NF w3 gi ∧ wr.heap.size ≤ gi ∧ gi < w3.heap.size) := Lib.hid (fun h => by have h0 := n3 h; have := SA.out; exact ⟨h0.1, by omega, h0.2.2⟩)
          have I3 := Lib.hid (IA.out.quiet r3)
          have B3 := Lib.hid (keepCell BA.out r3 (fun x => x))
          have D3 := Lib.hid (DA.out.fr r3 (fun _ x => x))
          have S3 : Hid (wr.heap.size < w3.heap.size) := by have := r3.size; have := SA.out; show _ < _; omega
          clear r1 r2 r3 s3 n3 IA BA DA
          have z0 : w3.cell? ⟨wr.heap.size, 0, none⟩ = some (.int .i64 what) := by rw [cell_of_row w3 _ 0 _ _ _ B3.out]; rfl
          go_wp2_with fail
          refine (bring_eq what 3 1 _ (by decide) (by decide) HW.out.w0 HW.out.w1 HR.out).mono ?_
          rintro e0 w4 ⟨rfl, rfl⟩
          go_wp2_with fail
          refine (Q1.out _ gi A3 c3 I3.out.wr X3.out (fun hd h => absurd (Tw_lt hG.out.wr h) (by have := N3.out hd; omega))).mono ?_
          rintro e0 w4 ⟨rfl, v4, r1, r2, r3⟩
          have M4 : Hid (RW w4 p2 v2 ls vals) := I3.out.mid r2
          have hT : ¬ Tw p v wr.heap.size := fun h => absurd (Tw_lt hG.out.wr h) (Nat.lt_irrefl _)
          have hB : ¬ Tb p2 v2 vals wr.heap.size := fun h => absurd (Tb_lt hG.out.rw h) (Nat.lt_irrefl _)
          have B4 := Lib.hid (keepCell B3.out r2 hT)
          have D4 := Lib.hid (D3.out.frd r2 (fun hd h => absurd (hG.out.a1 _ h).1 (by have := hg1.out hd; omega)))
          have X4 := Lib.hid (X3.out.frd r2 (fun hd h => absurd (Tw_lt hG.out.wr h) (by have := N3.out hd; omega)))
          have Y4 : Hid (data ≠ [] → NF w4 gi) := Lib.hid (fun hd => (N3.out hd).1.fr r2 (fun h => absurd (Tw_lt hG.out.wr h) (by have := N3.out hd; omega)))
          have P1 := Lib.hid r1
          have P2 := Lib.hid r2
          have P3 := Lib.hid r3
          have HB := Lib.hid hB
          clear r1 r2 r3 hT hB B3 D3 X3 z0
          have z3 : w4.cell? ⟨wr.heap.size, 3, none⟩ = some (.slice A1 m c1) := by rw [cell_of_row w4 _ 3 _ _ _ B4.out]; rfl
          go_wp2_with fail
          refine (Q2.out _ g1 A1 c1 M4.out D4.out (fun hd h => absurd (hG.out.a2 _ h) (by have := hg1.out hd; omega))).mono ?_
          rintro e0 w5 ⟨rfl, r4⟩
          obtain ⟨v5, ls5, vals5, i5, hl5, t5⟩ := I3.out.both P1.out P2.out P3.out r4
          obtain ⟨LL, hLL⟩ : ∃ LL, L ++ add = LL := ⟨_, rfl⟩
          have hLL2 : LL.length ≤ (j + 1) * 1048600 := by rw [← hLL, List.length_append]; omega
          rw [hLL] at i5
          have I5 := Lib.hid i5
          have hn5 := Lib.hid (fun (hd : data ≠ []) => hG.out.band (Nat.le_of_lt S3.out) P3.out t5 gi (N3.out hd).2.1 (N3.out hd).2.2)
          have F5 := RStep.fr r4
          have B5 := Lib.hid (keepCell B4.out F5 HB.out)
          have D5 := Lib.hid (D4.out.frd F5 (fun hd h => absurd (hG.out.a2 _ h) (by have := hg1.out hd; omega)))
          have hgB : Hid (data ≠ [] → ¬ Tb p2 v2 vals gi) := Lib.hid (fun hd h => absurd (Tb_lt hG.out.rw h) (by have := N3.out hd; omega))
          have X5 := Lib.hid (X4.out.frd F5 (fun hd h => hgB.out hd h))
          have Y5 : Hid (data ≠ [] → NF w5 gi) := Lib.hid (fun hd => (Y4.out hd).fr F5 (fun h => hgB.out hd h))
          have G5 : Hid (data ≠ [] → gi < w5.heap.size) := Lib.hid (fun hd => heap_lt (Y5.out hd).choose_spec.choose_spec)
          obtain ⟨NN, hNN⟩ : ∃ NN, LL.length = NN := ⟨_, rfl⟩
          have hNB : NN ≤ 100000000 := by rw [← hNN]; omega
          have HNN := Lib.hid hNN
          have hl9 : Hid (ls5.length ≤ 1000) := by show _ ≤ _; omega
          clear r4 i5 t5 F5 B4 D4 X4 Y4 M4 P1 P2 P3 I3 Q1 Q2 hgB hLL HB z3
          go_wp2_with fail
          refine (wout_nf p v4 LL NN w5 I5.out.wr HNN.out (by omega)).mono ?_
          rintro e0 w6 ⟨rfl, r1, r2, r3⟩
          have I6 := Lib.hid (I5.out.quiet r3)
          have T6 := Lib.hid r1
          have U6 := Lib.hid r2
          have X6 := Lib.hid (X5.out.fr r3 (fun _ x => x))
          have Y6 : Hid (data ≠ [] → NF w6 gi) := Lib.hid (fun hd => (Y5.out hd).fr r3 (fun x => x))
          have D6 := Lib.hid (D5.out.fr r3 (fun _ x => x))
          have B6 := Lib.hid (keepCell B5.out r3 (fun x => x))
          clear r1 r2 r3 B5 D5 X5 Y5
          have z3 : w6.cell? ⟨wr.heap.size, 3, none⟩ = some (.slice A1 m c1) := by rw [cell_of_row w6 _ 3 _ _ _ B6.out]; rfl
          go_wp2_with fail
          refine (eq_self gi g1 A3 A1 m m c3 c1 data w6 X6.out D6.out).mono ?_
          rintro e0 w7 ⟨rfl, r3⟩
          have I7 := Lib.hid (I6.out.quiet r3)
          have T7 := Lib.hid (T6.out.fr r3 (fun _ x => x))
          have U7 := Lib.hid (U6.out.fr r3 (fun x => x))
          have X7 := Lib.hid (X6.out.fr r3 (fun _ x => x))
          have Y7 : Hid (data ≠ [] → NF w7 gi) := Lib.hid (fun hd => (Y6.out hd).fr r3 (fun x => x))
          clear r3 I6 T6 U6 X6 Y6 D6 B6 z3
          go_wp2_with fail
          refine (rout_eq p2 v5 ls5 vals5 LL NN w7 I7.out.rw I7.out.eq HNN.out (by omega) hl9.out).mono ?_
          rintro e0 w8 ⟨A8, c8, g8, rfl, r1, r3⟩
          have I8 := Lib.hid (I7.out.quiet r3)
          have T8 := Lib.hid (T7.out.fr r3 (fun _ x => x))
          have U8 := Lib.hid (U7.out.fr r3 (fun x => x))
          have X8 := Lib.hid (X7.out.fr r3 (fun _ x => x))
          have Y8 : Hid (data ≠ [] → NF w8 gi) := Lib.hid (fun hd => (Y7.out hd).fr r3 (fun x => x))
          have V8 := Lib.hid r1
          clear r1 r3 I7 T7 U7 X7 Y7
          go_wp2_with fail
          refine (eq_self w5.heap.size g8 _ A8 NN NN NN c8 LL w8 T8.out V8.out).mono ?_
          rintro e0 w9 ⟨rfl, r3⟩
          have I9 := Lib.hid (I8.out.quiet r3)
          have T9 := Lib.hid (T8.out.fr r3 (fun _ x => x))
          have U9 := Lib.hid (U8.out.fr r3 (fun x => x))
          have X9 := Lib.hid (X8.out.fr r3 (fun _ x => x))
          have Y9 : Hid (data ≠ [] → NF w9 gi) := Lib.hid (fun hd => (Y8.out hd).fr r3 (fun x => x))
          clear r3 I8 T8 U8 X8 Y8 V8
          go_wp2_with fail
          refine (spoil_any gi A3 m c3 data w9 X9.out Y9.out).mono ?_
          rintro e0 w10 ⟨rfl, r3⟩
          have I10 : Hid (WI w p v4 LL p2 v5 ls5 vals5 w10) := I9.out.spoilt r3 (fun hd => ⟨by have := (N3.out hd).2.1; have := hG.out.fr.size; omega, hn5.out hd⟩)
          have T10 := Lib.hid (T9.out.frd r3 (fun _ h => absurd h.1 (by have := G5.out h.2; omega)))
          have U10 := Lib.hid (U9.out.fr r3 (fun h => absurd h.1 (by have := G5.out h.2; omega)))
          clear r3 I9 T9 U9 X9 Y9
          go_wp2_with fail
          refine (spoil_any w5.heap.size _ NN NN LL w10 T10.out (fun _ => U10.out)).mono ?_
          rintro e0 w11 ⟨rfl, r3⟩
          have I11 : Hid (WI w p v4 LL p2 v5 ls5 vals5 w11) := I10.out.spoilt r3 (fun _ => ⟨I5.out.fr.size, fun h => absurd (Tw_lt I5.out.wr h) (Nat.lt_irrefl _), fun h => absurd (Tb_lt I5.out.rw h) (Nat.lt_irrefl _)⟩)
          clear r3 I10 T10 U10
          go_wp2_with fail
          exact ⟨⟨j + 1, v4, LL, v5, ls5, vals5, by go_num, by omega, by omega, hLL2, by omega, I11⟩, by simp [intOf]; omega⟩
        · have HR := Lib.hid hr
          clear hr
          obtain ⟨e, add, q0, q1, q2⟩ := octets_pair p v L p2 v2 ls vals m data hm hlm (by omega) (by omega)
          have Q1 := Lib.hid q1
          have Q2 := Lib.hid q2
          clear q1 q2
          go_wp2_with fail
          refine (copyBytes_any g1 A1 m c1 data _ DA.out (by omega)).mono ?_
          rintro e0 w3 ⟨A3, c3, rfl, r1, r2, r3⟩
          obtain ⟨gi, s3, n3⟩ := r1.open_ r2
          have X3 := Lib.hid s3
          have N3 : Hid (data ≠ [] → NF w3 gi ∧ wr.heap.size ≤ gi ∧ gi < w3.heap.size) := Lib.hid (fun h => by have h0 := n3 h; have := SA.out; exact ⟨h0.1, by omega, h0.2.2⟩)
          have I3 := Lib.hid (IA.out.quiet r3)
          have B3 := Lib.hid (keepCell BA.out r3 (fun x => x))
          have D3 := Lib.hid (DA.out.fr r3 (fun _ x => x))
          have S3 : Hid (wr.heap.size < w3.heap.size) := by have := r3.size; have := SA.out; show _ < _; omega
          clear r1 r2 r3 s3 n3 IA BA DA
          have z0 : w3.cell? ⟨wr.heap.size, 0, none⟩ = some (.int .i64 what) := by rw [cell_of_row w3 _ 0 _ _ _ B3.out]; rfl
          go_wp2_with fail
          refine (bring_eq what 3 2 _ (by decide) (by decide) HW.out.w0 HW.out.w1 HR.out).mono ?_
          rintro e0 w4 ⟨rfl, rfl⟩
          go_wp2_with fail
          refine (Q1.out _ gi A3 c3 I3.out.wr X3.out (fun hd h => absurd (Tw_lt hG.out.wr h) (by have := N3.out hd; omega))).mono ?_
          rintro e0 w4 ⟨rfl, v4, r1, r2, r3⟩
          have M4 : Hid (RW w4 p2 v2 ls vals) := I3.out.mid r2
          have hT : ¬ Tw p v wr.heap.size := fun h => absurd (Tw_lt hG.out.wr h) (Nat.lt_irrefl _)
          have hB : ¬ Tb p2 v2 vals wr.heap.size := fun h => absurd (Tb_lt hG.out.rw h) (Nat.lt_irrefl _)
          have B4 := Lib.hid (keepCell B3.out r2 hT)
          have D4 := Lib.hid (D3.out.frd r2 (fun hd h => absurd (hG.out.a1 _ h).1 (by have := hg1.out hd; omega)))
          have X4 := Lib.hid (X3.out.frd r2 (fun hd h => absurd (Tw_lt hG.out.wr h) (by have := N3.out hd; omega)))
          have Y4 : Hid (data ≠ [] → NF w4 gi) := Lib.hid (fun hd => (N3.out hd).1.fr r2 (fun h => absurd (Tw_lt hG.out.wr h) (by have := N3.out hd; omega)))
          have P1 := Lib.hid r1
          have P2 := Lib.hid r2
          have P3 := Lib.hid r3
          have HB := Lib.hid hB
          clear r1 r2 r3 hT hB B3 D3 X3 z0
          have z3 : w4.cell? ⟨wr.heap.size, 3, none⟩ = some (.slice A1 m c1) := by rw [cell_of_row w4 _ 3 _ _ _ B4.out]; rfl
          go_wp2_with fail
          refine (Q2.out _ g1 A1 c1 M4.out D4.out (fun hd h => absurd (hG.out.a2 _ h) (by have := hg1.out hd; omega))).mono ?_
          rintro e0 w5 ⟨rfl, r4⟩
          obtain ⟨v5, ls5, vals5, i5, hl5, t5⟩ := I3.out.both P1.out P2.out P3.out r4
          obtain ⟨LL, hLL⟩ : ∃ LL, L ++ add = LL := ⟨_, rfl⟩
          have hLL2 : LL.length ≤ (j + 1) * 1048600 := by rw [← hLL, List.length_append]; omega
          rw [hLL] at i5
          have I5 := Lib.hid i5
          have hn5 := Lib.hid (fun (hd : data ≠ []) => hG.out.band (Nat.le_of_lt S3.out) P3.out t5 gi (N3.out hd).2.1 (N3.out hd).2.2)
          have F5 := RStep.fr r4
          have B5 := Lib.hid (keepCell B4.out F5 HB.out)
          have D5 := Lib.hid (D4.out.frd F5 (fun hd h => absurd (hG.out.a2 _ h) (by have := hg1.out hd; omega)))
          have hgB : Hid (data ≠ [] → ¬ Tb p2 v2 vals gi) := Lib.hid (fun hd h => absurd (Tb_lt hG.out.rw h) (by have := N3.out hd; omega))
          have X5 := Lib.hid (X4.out.frd F5 (fun hd h => hgB.out hd h))
          have Y5 : Hid (data ≠ [] → NF w5 gi) := Lib.hid (fun hd => (Y4.out hd).fr F5 (fun h => hgB.out hd h))
          have G5 : Hid (data ≠ [] → gi < w5.heap.size) := Lib.hid (fun hd => heap_lt (Y5.out hd).choose_spec.choose_spec)
          obtain ⟨NN, hNN⟩ : ∃ NN, LL.length = NN := ⟨_, rfl⟩
          have hNB : NN ≤ 100000000 := by rw [← hNN]; omega
          have HNN := Lib.hid hNN
          have hl9 : Hid (ls5.length ≤ 1000) := by show _ ≤ _; omega
          clear r4 i5 t5 F5 B4 D4 X4 Y4 M4 P1 P2 P3 I3 Q1 Q2 hgB hLL HB z3
          go_wp2_with fail
          refine (wout_nf p v4 LL NN w5 I5.out.wr HNN.out (by omega)).mono ?_
          rintro e0 w6 ⟨rfl, r1, r2, r3⟩
          have I6 := Lib.hid (I5.out.quiet r3)
          have T6 := Lib.hid r1
          have U6 := Lib.hid r2
          have X6 := Lib.hid (X5.out.fr r3 (fun _ x => x))
          have Y6 : Hid (data ≠ [] → NF w6 gi) := Lib.hid (fun hd => (Y5.out hd).fr r3 (fun x => x))
          have D6 := Lib.hid (D5.out.fr r3 (fun _ x => x))
          have B6 := Lib.hid (keepCell B5.out r3 (fun x => x))
          clear r1 r2 r3 B5 D5 X5 Y5
          have z3 : w6.cell? ⟨wr.heap.size, 3, none⟩ = some (.slice A1 m c1) := by rw [cell_of_row w6 _ 3 _ _ _ B6.out]; rfl
          go_wp2_with fail
          refine (eq_self gi g1 A3 A1 m m c3 c1 data w6 X6.out D6.out).mono ?_
          rintro e0 w7 ⟨rfl, r3⟩
          have I7 := Lib.hid (I6.out.quiet r3)
          have T7 := Lib.hid (T6.out.fr r3 (fun _ x => x))
          have U7 := Lib.hid (U6.out.fr r3 (fun x => x))
          have X7 := Lib.hid (X6.out.fr r3 (fun _ x => x))
          have Y7 : Hid (data ≠ [] → NF w7 gi) := Lib.hid (fun hd => (Y6.out hd).fr r3 (fun x => x))
          clear r3 I6 T6 U6 X6 Y6 D6 B6 z3
          go_wp2_with fail
          refine (rout_eq p2 v5 ls5 vals5 LL NN w7 I7.out.rw I7.out.eq HNN.out (by omega) hl9.out).mono ?_
          rintro e0 w8 ⟨A8, c8, g8, rfl, r1, r3⟩
          have I8 := Lib.hid (I7.out.quiet r3)
          have T8 := Lib.hid (T7.out.fr r3 (fun _ x => x))
          have U8 := Lib.hid (U7.out.fr r3 (fun x => x))
          have X8 := Lib.hid (X7.out.fr r3 (fun _ x => x))
          have Y8 : Hid (data ≠ [] → NF w8 gi) := Lib.hid (fun hd => (Y7.out hd).fr r3 (fun x => x))
          have V8 := Lib.hid r1
          clear r1 r3 I7 T7 U7 X7 Y7
          go_wp2_with fail
          refine (eq_self w5.heap.size g8 _ A8 NN NN NN c8 LL w8 T8.out V8.out).mono ?_
          rintro e0 w9 ⟨rfl, r3⟩
          have I9 := Lib.hid (I8.out.quiet r3)
          have T9 := Lib.hid (T8.out.fr r3 (fun _ x => x))
          have U9 := Lib.hid (U8.out.fr r3 (fun x => x))
          have X9 := Lib.hid (X8.out.fr r3 (fun _ x => x))
          have Y9 : Hid (data ≠ [] → NF w9 gi) := Lib.hid (fun hd => (Y8.out hd).fr r3 (fun x => x))
          clear r3 I8 T8 U8 X8 Y8 V8
          go_wp2_with fail
          refine (spoil_any gi A3 m c3 data w9 X9.out Y9.out).mono ?_
          rintro e0 w10 ⟨rfl, r3⟩
          have I10 : Hid (WI w p v4 LL p2 v5 ls5 vals5 w10) := I9.out.spoilt r3 (fun hd => ⟨by have := (N3.out hd).2.1; have := hG.out.fr.size; omega, hn5.out hd⟩)
          have T10 := Lib.hid (T9.out.frd r3 (fun _ h => absurd h.1 (by have := G5.out h.2; omega)))
          have U10 := Lib.hid (U9.out.fr r3 (fun h => absurd h.1 (by have := G5.out h.2; omega)))
          clear r3 I9 T9 U9 X9 Y9
          go_wp2_with fail
          refine (spoil_any w5.heap.size _ NN NN LL w10 T10.out (fun _ => U10.out)).mono ?_
          rintro e0 w11 ⟨rfl, r3⟩
          have I11 : Hid (WI w p v4 LL p2 v5 ls5 vals5 w11) := I10.out.spoilt r3 (fun _ => ⟨I5.out.fr.size, fun h => absurd (Tw_lt I5.out.wr h) (Nat.lt_irrefl _), fun h => absurd (Tb_lt I5.out.rw h) (Nat.lt_irrefl _)⟩)
          clear r3 I10 T10 U10
          go_wp2_with fail
          exact ⟨⟨j + 1, v4, LL, v5, ls5, vals5, by go_num, by omega, by omega, hLL2, by omega, I11⟩, by simp [intOf]; omega⟩
      · obtain ⟨NN, hNN⟩ : ∃ NN, L.length = NN := ⟨_, rfl⟩
        have HNN := Lib.hid hNN
        have hNB : NN ≤ 100000000 := by rw [← hNN]; omega
        go_wp2_with fail
        refine (wout_nf p v L NN wr hG.out.wr HNN.out (by omega)).mono ?_
        rintro e0 w6 ⟨rfl, r1, r2, r3⟩
        have I6 := Lib.hid (hG.out.quiet r3)
        have T6 := Lib.hid r1
        clear r1 r2 r3
        go_wp2_with fail
        refine (rout_eq p2 v2 ls vals L NN w6 I6.out.rw I6.out.eq HNN.out (by omega) (by omega)).mono ?_
        rintro e0 w7 ⟨A7, c7, g7, rfl, r1, r3⟩
        have I7 := Lib.hid (I6.out.quiet r3)
        have T7 := Lib.hid (T6.out.fr r3 (fun _ x => x))
        have V7 := Lib.hid r1
        clear r1 r3 I6 T6
        go_wp2_with fail
        refine (eq_self wr.heap.size g7 _ A7 NN NN NN c7 L w7 T7.out V7.out).mono ?_
        rintro e0 w8 ⟨rfl, r3⟩
        have I8 := Lib.hid (I7.out.quiet r3)
        clear r3 I7 T7 V7
        go_wp2_with fail
        refine (works_any _).mono ?_
        rintro e0 w9 ⟨rfl, r1⟩
        go_wp2
        go_ret
        exact ⟨rfl, I8.out.fr.trans r1⟩
    · obtain ⟨NN, hNN⟩ : ∃ NN, L.length = NN := ⟨_, rfl⟩
      have HNN := Lib.hid hNN
      have hNB : NN ≤ 100000000 := by rw [← hNN]; omega
      go_wp2_with fail
      refine (wout_nf p v L NN wr hG.out.wr HNN.out (by omega)).mono ?_
      rintro e0 w6 ⟨rfl, r1, r2, r3⟩
      have I6 := Lib.hid (hG.out.quiet r3)
      have T6 := Lib.hid r1
      clear r1 r2 r3
      go_wp2_with fail
      refine (rout_eq p2 v2 ls vals L NN w6 I6.out.rw I6.out.eq HNN.out (by omega) (by omega)).mono ?_
      rintro e0 w7 ⟨A7, c7, g7, rfl, r1, r3⟩
      have I7 := Lib.hid (I6.out.quiet r3)
      have T7 := Lib.hid (T6.out.fr r3 (fun _ x => x))
      have V7 := Lib.hid r1
      clear r1 r3 I6 T6
      go_wp2_with fail
      refine (eq_self wr.heap.size g7 _ A7 NN NN NN c7 L w7 T7.out V7.out).mono ?_
      rintro e0 w8 ⟨rfl, r3⟩
      have I8 := Lib.hid (I7.out.quiet r3)
      clear r3 I7 T7 V7
      go_wp2_with fail
      refine (works_any _).mono ?_
      rintro e0 w9 ⟨rfl, r1⟩
      go_wp2
      go_ret
      exact ⟨rfl, I8.out.fr.trans r1⟩
end Go.Proofs.Ytkkicekhkidhjaa
