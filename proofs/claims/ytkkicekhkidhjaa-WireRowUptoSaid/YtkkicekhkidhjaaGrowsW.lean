/- The walk of WireGrows: what was written grows at its end alone, and a reader takes just as many bytes off. Condition: the calls that came in lie in memory. -/
import Derived.Test.YtkkicekhkidhjaaEats
import Derived.StillTailTactics
namespace Go.Proofs.Ytkkicekhkidhjaa
set_option linter.unusedSimpArgs false
set_option linter.unusedVariables false
open Go.RowKit

theorem wout_N (p : Nat) (v : Value) (l : List Int) (N : Nat) (w : World) (h : Wr w p v l) (hlen : N ≤ 140737488355328) (hN : l.length = N) :
    Calls Try.prog 21 #[.pointer (some ⟨p, 0, none⟩)] w fun e w' => e = .returned (.slice (some ⟨w.heap.size, 0, none⟩) N N) ∧ Sl w' w.heap.size (.slice (some ⟨w.heap.size, 0, none⟩) N N) l ∧ Fr (fun _ => False) w w' := by
  subst hN
  exact wout_any p v l w h hlen
theorem slice_from (A : Option Addr) (n c k : Nat) (hk : k ≤ n) (hc : n ≤ c) : ∃ A', (∀ W : World, (Instr.sliceAt 27 (.slice A n c) (some (.int .i64 (k : Int))) none none).run Try.prog W = .ok (.slice A' (n - k) (c - k)) W) ∧
    ∀ (W : World) (g : Nat) (l : List Int), Sl W g (.slice A n c) l → Sl W g (.slice A' (n - k) (c - k)) (l.drop k) := by
  refine ⟨if c = k then A else A.map (·.add k), fun W => ?_, fun W g l h => ?_⟩
  · rw [run_sliceAt_slice W 27 _ _ _ _ under27, run_slice_l W 27 A n c under27 .i64 k (by omega) (by omega), Int.toNat_natCast, elem27]
    simp only [Result.andThen, sliced, Nat.mul_one]
  · have := h.drop k (by rw [h.len]; exact hk)
    rwa [h.len] at this

/-- One of the calls that came in. -/
structure CallAt (W : World) (b off i : Nat) (what n size : Int) (A : Option Addr) (m c g : Nat) (data : List Int) : Prop where
  c0 : W.cell? ⟨b, off + i * 4, none⟩ = some (.int .i64 what)
  c1 : W.cell? ⟨b, off + i * 4 + 1, none⟩ = some (.int .i64 n)
  c2 : W.cell? ⟨b, off + i * 4 + 2, none⟩ = some (.int .i64 size)
  c3 : W.cell? ⟨b, off + i * 4 + 3, none⟩ = some (.slice A m c)
  sl : Sl W g (.slice A m c) data
  w0 : -9223372036854775808 ≤ what
  w1 : what ≤ 9223372036854775807
  n1 : n ≤ 9223372036854775807
  s0 : -9223372036854775808 ≤ size
  s1 : size ≤ 9223372036854775807
  lt : data ≠ [] → g < W.heap.size

theorem CallAt.keep {W W' : World} {b off i : Nat} {what n size : Int} {A : Option Addr} {m c g : Nat} {data : List Int} (h : CallAt W b off i what n size A m c g data) (hf : Fr (fun _ => False) W W') : CallAt W' b off i what n size A m c g data := by
  have hb : b < W.heap.size := World.block_lt_of_cell? _ _ h.c0
  have k : ∀ o, W'.cell? ⟨b, o, none⟩ = W.cell? ⟨b, o, none⟩ := fun o => World.cell?_of_block (w := W) (hf.block b hb (fun x => x))
  exact ⟨(k _).trans h.c0, (k _).trans h.c1, (k _).trans h.c2, (k _).trans h.c3, h.sl.fr hf (fun _ x => x), h.w0, h.w1, h.n1, h.s0, h.s1, fun hd => Nat.lt_of_lt_of_le (h.lt hd) hf.size⟩

/-- The loop's relation, behind j rounds. -/
structure GR (w : World) (p j : Nat) (n c : Nat) (A : Option Addr) (g : Nat) (v : Value) (L : List Int) (wr : World) : Prop where
  mine : Mine w p v L wr
  was : Sl wr g (.slice A n c) L
  bound : L.length ≤ j * 402
  apart : ¬ Tw p v g

theorem Mine.lt {w : World} {p : Nat} {v : Value} {l : List Int} {W : World} (h : Mine w p v l W) {i : Nat} (ht : Tw p v i) : i < W.heap.size := by
  rcases ht with rfl | e
  · exact heap_lt h.wr.1
  · exact (h.wr.2.1.lt i e).2
theorem octets_ok' (p g : Nat) (v : Value) (l k : List Int) (A : Option Addr) (m c : Nat) (w : World) (h : Wr w p v l) (hs : Sl w g (.slice A m c) k) (hm : m ≤ 65535) (hp : k ≠ [] → ¬ Tw p v g) (hlen : l.length ≤ 140737488280000) :
    Calls Try.prog 19 #[.pointer (some ⟨p, 0, none⟩), .slice A m c] w fun e w' => e = .returned (.int .i64 0) ∧ ∃ v', Wr w' p v' (l ++ (beN m 2 ++ k)) ∧ Fr (Tw p v) w w' ∧ (∀ k, v'.ownBlock = some k → v.ownBlock = some k ∨ w.heap.size ≤ k) := by
  by_cases hk : k = []
  · subst hk
    exact octets_ok p w.heap.size v l [] A m c w h (hs.any _) hm (fun h => absurd h (Nat.lt_irrefl _)) hlen
  · exact octets_ok p g v l k A m c w h hs hm (fun _ => hp hk) hlen


theorem putE_zero {n size : Int} (h : putE n size = 0) : 1 ≤ size ∧ size ≤ 8 ∧ 0 ≤ n ∧ (size < 8 → n < (256 : Int) ^ size.toNat) := by
  unfold putE at h
  split at h
  · cases h
  · rename_i h1
    split at h
    · cases h
    · rename_i h2
      refine ⟨by omega, by omega, by omega, fun h3 => ?_⟩
      rcases Int.lt_or_le n ((256 : Int) ^ size.toNat) with h4 | h4
      · exact h4
      · exact absurd (.inr ⟨h3, h4⟩) h2

theorem put_E (p : Nat) (v : Value) (l : List Int) (n size E : Int) (w : World) (h : Wr w p v l) (hm : n ≤ 9223372036854775807) (hlen : l.length ≤ 140737488355000) (hE : putE n size = E) (h0 : E ≠ 0) :
    Calls Try.prog 15 #[.pointer (some ⟨p, 0, none⟩), .int .i64 n, .int .i64 size] w fun e w' => e = .returned (.int .i64 E) ∧ ∃ v', Wr w' p v' (l ++ []) ∧ Fr (Tw p v) w w' ∧ (∀ k, v'.ownBlock = some k → v.ownBlock = some k ∨ w.heap.size ≤ k) := by
  have := put_any p v l n size w h hm hlen
  have e : pl n size = [] := by unfold pl; rw [if_neg (by rw [hE]; exact h0)]
  rwa [hE, e] at this

set_option maxRecDepth 100000 in
set_option maxHeartbeats 8000000 in
theorem grows_any (b off len cap : Nat) (w : World) (hlen : len ≤ 140737488355328) (hC : ∀ i, i < len → ∃ what n size A m c g data, CallAt w b off i what n size A m c g data) :
    Calls Try.prog 5 #[.slice (some ⟨b, off, none⟩) len cap] w fun e w' => e = .returned (.bool true) ∧ Fr (fun _ => False) w w' := by
  have HC := Lib.hid hC
  clear hC
  go_enter Try.func5, Try.ntmps5
  go_wp2_with fail
  refine (works_any _).mono ?_
  rintro e w1 ⟨rfl, r1⟩
  have F1 := Lib.hid r1
  clear r1
  go_wp2_with fail
  refine (write_any _).mono ?_
  rintro e w2 ⟨rfl, r1, r2⟩
  have M2 : Hid (Mine w w1.heap.size (.slice none 0 0) [] w2) := ⟨r1, F1.out.trans r2, F1.out.size, fun k e => by cases e⟩
  clear r1 r2
  go_wp2_with fail
  go_loopw [4, 5] (fun s i wr => ∃ (j n c g : Nat) (A : Option Addr) (v : Value) (L : List Int), i = .int .i64 j ∧ j ≤ len ∧ j ≤ 60 ∧ s = .slice A n c ∧ Hid (GR w w1.heap.size j n c A g v L wr)) (fun _ i _ => len - (intOf i).toNat)
  case atStart => exact ⟨0, 0, 0, w2.heap.size, none, _, [], rfl, by omega, by omega, rfl, ⟨M2.out, Sl.nil _ _, by simp, fun h => absurd (M2.out.lt h) (Nat.lt_irrefl _)⟩⟩
  case round =>
    obtain ⟨j, n, c, g, A, v, L, rfl, h1, h2, rfl, hG⟩ := hrel
    by_cases h3 : j < len
    · by_cases h4 : j < 60
      · obtain ⟨what, vn, size, A1, m, c1, g1, data, hca⟩ := HC.out j h3
        have hcw := hca.keep hG.out.mine.fr
        have HWg : Hid (data ≠ [] → g1 < w.heap.size) := hca.lt
        have k0 := hcw.c0
        have k1 := hcw.c1
        have k2 := hcw.c2
        have k3 := hcw.c3
        obtain ⟨M, hM⟩ : ∃ M, M = min m 400 := ⟨_, rfl⟩
        have hcap := hcw.sl.cap
        unfold maxLen at hcap
        have hmin : (if (400 : Int) < (m : Int) then (400 : Int) else (m : Int)) = (M : Int) := by split <;> omega
        have hsl := slice_to A1 m c1 M (by omega)
        have HW := Lib.hid hcw
        have HM := Lib.hid hM
        clear hcw hca hM
        have hr : what % 3 = 0 ∨ what % 3 = 1 ∨ what % 3 = 2 := by omega
        rcases hr with hr | hr | hr
        · by_cases hE : putE vn size = 0
          · obtain ⟨z1, z8, hv0, zf⟩ := putE_zero hE
            obtain ⟨k, rfl⟩ := Int.eq_ofNat_of_zero_le (show 0 ≤ size by omega)
            have hk1 : 1 ≤ k := by omega
            have hk8 : k ≤ 8 := by omega
            have HF : Hid (vn < (256 : Int) ^ k) := by
              show _ < _
              rcases Nat.lt_or_ge k 8 with h | h
              · have := zf (by omega); rwa [Int.toNat_natCast] at this
              · obtain rfl : k = 8 := by omega
                have := HW.out.n1
                omega
            clear hE z1 z8 zf
            have HR := Lib.hid hr
            clear hr
            have hPL : Hid ((beN vn k).length = k) := beN_length _ _ (by omega)
            go_wp2_with fail
            obtain ⟨O, hO⟩ : ∃ O, O = Obj.cells #[.int .i64 what, .int .i64 vn, .int .i64 k, .slice A1 m c1] 29 := ⟨_, rfl⟩
            have FA : Hid (Fr (fun _ => False) wr (wr.alloc O)) := (Fr.refl _ _).alloc _
            have MA : Hid (Mine w w1.heap.size v L (wr.alloc O)) := hG.out.mine.quiet FA.out
            have BA : Hid ((wr.alloc O).heap[wr.heap.size]? = some O) := heap_alloc_new wr O
            have HO : Hid (O = Obj.cells #[.int .i64 what, .int .i64 vn, .int .i64 k, .slice A1 m c1] 29) := hO
            skip
            subst hO
            refine (bring_eq what 3 0 _ (by decide) (by decide) HW.out.w0 HW.out.w1 HR.out).mono ?_
            rintro e w3 ⟨rfl, rfl⟩
            have hbd : Hid (L.length + 402 ≤ 140737488355000) := by have := hG.out.bound; show _ ≤ _; omega
            have hdl : Hid ((data.take M).length = M) := by have := HW.out.sl.len; have := HM.out; show _ = _; rw [List.length_take]; omega
            go_wp2_with fail
            refine (put_ok w1.heap.size v L vn k _ MA.out.wr hk1 hk8 hv0 HW.out.n1 (fun _ => HF.out) (by have := hbd.out; omega)).mono ?_
            rintro e w4 ⟨rfl, v4, r1, r2, r3⟩
            have M4 : Hid (Mine w w1.heap.size v4 (L ++ beN vn k) w4) := MA.out.step r1 r2 r3
            have B4 : Hid (w4.heap[wr.heap.size]? = some (Obj.cells #[.int .i64 what, .int .i64 vn, .int .i64 k, .slice A1 m c1] 29)) := (r2.block _ (heap_lt BA.out) (fun h => absurd (hG.out.mine.lt h) (Nat.lt_irrefl _))).trans (BA.out)
            have hn : Hid (L.length = n) := hG.out.was.len
            have hLN : Hid ((L ++ beN vn k).length = n + k) := by
              show _ = _
              rw [List.length_append, hn.out, hPL.out]
            have S4 : Hid (Sl w4 g (.slice A n c) L) := (hG.out.was.fr FA.out (fun _ x => x)).fr r2 (fun _ => hG.out.apart)
            clear r1 r2 r3 MA BA HO FA
            have hb1 : n + 402 ≤ 140737488355000 := by have := hbd.out; have := hn.out; omega
            have hKM : k ≤ 402 := by first | omega | (have := HM.out; omega)
            have hb2 : n + k ≤ 140737488355000 := by omega
            go_wp2_with fail
            refine (wout_N w1.heap.size v4 _ (n + k) _ M4.out.wr (by omega) hLN.out).mono ?_
            rintro e w5 ⟨rfl, r1, r2⟩
            have M5 := Lib.hid (M4.out.quiet r2)
            have X5 := Lib.hid r1
            have B5 : Hid (w5.heap[wr.heap.size]? = some _) := (r2.block _ (heap_lt B4.out) (fun x => x)).trans B4.out
            have S5 := Lib.hid (S4.out.fr r2 (fun _ x => x))
            have N5 : Hid (¬ Tw w1.heap.size v4 w4.heap.size) := fun h => absurd (M4.out.lt h) (Nat.lt_irrefl _)
            clear r1 r2 M4 B4 S4
            have hsl1 := slice_to (some ⟨w4.heap.size, 0, none⟩) (n + k) (n + k) n (by omega)
            obtain ⟨A6, hsl2, hsl3⟩ := slice_from (some ⟨w4.heap.size, 0, none⟩) (n + k) (n + k) n (by omega) (Nat.le_refl _)
            have X6 : Hid (Sl w5 w4.heap.size (.slice A6 (k) (k)) (beN vn k)) := by
              have := hsl3 w5 _ _ X5.out
              rwa [Nat.add_sub_cancel_left, List.drop_append_of_le_length (by rw [hn.out]; exact Nat.le_refl _), List.drop_of_length_le (by rw [hn.out]; exact Nat.le_refl _), List.nil_append] at this
            rw [Nat.add_sub_cancel_left] at hsl2
            clear hsl3
            have q5 : w5.cell? ⟨wr.heap.size, 0, none⟩ = some (.int .i64 what) := by rw [cell_of_row w5 _ 0 _ _ _ B5.out]; rfl
            go_wp2_with fail
            refine (eqBytes_true w4.heap.size g _ _ _ _ _ _ (List.take n (L ++ beN vn k)) L w5 (X5.out.take n (by rw [hLN.out]; omega)) S5.out (by rw [List.take_append_of_le_length (by rw [hn.out]; exact Nat.le_refl _), List.take_of_length_le (by rw [hn.out]; exact Nat.le_refl _)])).mono ?_
            rintro e w6 ⟨rfl, r1⟩
            have M6 := Lib.hid (M5.out.quiet r1)
            have X6' := Lib.hid (X6.out.fr r1 (fun _ x => x))
            have Y6 := Lib.hid (X5.out.fr r1 (fun _ x => x))
            have q6 : w6.cell? ⟨wr.heap.size, 0, none⟩ = some (.int .i64 what) := (World.cell?_of_block (w := w5) (r1.block wr.heap.size (heap_lt B5.out) (fun x => x))).trans q5
            clear r1 M5 X5 X6 B5 S5 q5
            go_wp2_with fail
            refine wp_region_still_tail 11 (by kernel_rfl) (by kernel_rfl) ?_
            simp only [List.take_succ_cons, List.take_zero, List.drop_succ_cons, List.drop_zero]
            iterate 9 still_step
            refine wpStill_step (fun K hK => ?_)
            go_simp
            refine ⟨_, (bring_eq what 3 0 _ (by decide) (by decide) HW.out.w0 HW.out.w1 HR.out).mono (fun _ _ h => ⟨h.1, h.2.symm⟩), hK _ ?_⟩
            clear hK K
            still_step
            refine wpStill_nil ?_
            change wpList _ _ _ _ _ w6.drew
            have M7 : Hid (Mine w w1.heap.size v4 (L ++ beN vn k) w6.drew) := M6.out.quiet ((Fr.refl _ _).drew)
            have X7 : Hid (Sl w6.drew w4.heap.size (.slice A6 (k) (k)) (beN vn k)) := X6'.out
            have Y7 : Hid (Sl w6.drew w4.heap.size (.slice (some ⟨w4.heap.size, 0, none⟩) (n + k) (n + k)) (L ++ beN vn k)) := Y6.out
            clear M6 X6' Y6 q6
            generalize w6.drew = w7 at *
            go_wp2_with fail
            refine (eats_0 w4.heap.size A6 k k _ _ X7.out hk1 hk8 (by rw [num_beN _ _ hk8 hv0 HW.out.n1 HF.out]; exact HW.out.n1)).mono ?_
            rintro e w8 ⟨rfl, r1⟩
            have M8 := Lib.hid (M7.out.quiet r1)
            have Y8 := Lib.hid (Y7.out.fr r1 (fun _ x => x))
            clear r1 M7 X7 Y7
            go_wp2_with fail
            refine ⟨⟨j + 1, n + k, n + k, w4.heap.size, _, v4, _, by go_num, by omega, by omega, rfl, ⟨M8.out, Y8.out, ?_, N5.out⟩⟩, by simp [intOf]; omega⟩
            rw [hLN.out]
            have := hG.out.bound
            have := hn.out
            omega
          · obtain ⟨E, hEE⟩ : ∃ E, putE vn size = E := ⟨_, rfl⟩
            have HE : Hid (putE vn size = E) := hEE
            have HE0 : Hid (E ≠ 0) := by show E ≠ 0; rw [← hEE]; exact hE
            clear hE hEE
            have HR := Lib.hid hr
            clear hr
            have hPL : Hid (([] : List Int).length = 0) := rfl
            have eE : (E == 0) = false := by simp; exact HE0.out
            have eE2 : (E != 0) = true := by simp; exact HE0.out
            go_wp2_with fail
            obtain ⟨O, hO⟩ : ∃ O, O = Obj.cells #[.int .i64 what, .int .i64 vn, .int .i64 size, .slice A1 m c1] 29 := ⟨_, rfl⟩
            have FA : Hid (Fr (fun _ => False) wr (wr.alloc O)) := (Fr.refl _ _).alloc _
            have MA : Hid (Mine w w1.heap.size v L (wr.alloc O)) := hG.out.mine.quiet FA.out
            have BA : Hid ((wr.alloc O).heap[wr.heap.size]? = some O) := heap_alloc_new wr O
            have HO : Hid (O = Obj.cells #[.int .i64 what, .int .i64 vn, .int .i64 size, .slice A1 m c1] 29) := hO
            skip
            subst hO
            refine (bring_eq what 3 0 _ (by decide) (by decide) HW.out.w0 HW.out.w1 HR.out).mono ?_
            rintro e w3 ⟨rfl, rfl⟩
            have hbd : Hid (L.length + 402 ≤ 140737488355000) := by have := hG.out.bound; show _ ≤ _; omega
            have hdl : Hid ((data.take M).length = M) := by have := HW.out.sl.len; have := HM.out; show _ = _; rw [List.length_take]; omega
            go_wp2_with fail
            refine (put_E w1.heap.size v L vn size E _ MA.out.wr HW.out.n1 (by have := hbd.out; omega) HE.out HE0.out).mono ?_
            rintro e w4 ⟨rfl, v4, r1, r2, r3⟩
            have M4 : Hid (Mine w w1.heap.size v4 (L ++ []) w4) := MA.out.step r1 r2 r3
            have B4 : Hid (w4.heap[wr.heap.size]? = some (Obj.cells #[.int .i64 what, .int .i64 vn, .int .i64 size, .slice A1 m c1] 29)) := (r2.block _ (heap_lt BA.out) (fun h => absurd (hG.out.mine.lt h) (Nat.lt_irrefl _))).trans (BA.out)
            have hn : Hid (L.length = n) := hG.out.was.len
            have hLN : Hid ((L ++ []).length = n + 0) := by
              show _ = _
              rw [List.length_append, hn.out, hPL.out]
            have S4 : Hid (Sl w4 g (.slice A n c) L) := (hG.out.was.fr FA.out (fun _ x => x)).fr r2 (fun _ => hG.out.apart)
            clear r1 r2 r3 MA BA HO FA
            have hb1 : n + 402 ≤ 140737488355000 := by have := hbd.out; have := hn.out; omega
            have hKM : 0 ≤ 402 := by first | omega | (have := HM.out; omega)
            have hb2 : n + 0 ≤ 140737488355000 := by omega
            go_wp2_with fail
            refine (wout_N w1.heap.size v4 _ (n + 0) _ M4.out.wr (by omega) hLN.out).mono ?_
            rintro e w5 ⟨rfl, r1, r2⟩
            have M5 := Lib.hid (M4.out.quiet r2)
            have X5 := Lib.hid r1
            have B5 : Hid (w5.heap[wr.heap.size]? = some _) := (r2.block _ (heap_lt B4.out) (fun x => x)).trans B4.out
            have S5 := Lib.hid (S4.out.fr r2 (fun _ x => x))
            have N5 : Hid (¬ Tw w1.heap.size v4 w4.heap.size) := fun h => absurd (M4.out.lt h) (Nat.lt_irrefl _)
            clear r1 r2 M4 B4 S4
            have hsl1 := slice_to (some ⟨w4.heap.size, 0, none⟩) (n + 0) (n + 0) n (by omega)
            obtain ⟨A6, hsl2, hsl3⟩ := slice_from (some ⟨w4.heap.size, 0, none⟩) (n + 0) (n + 0) n (by omega) (Nat.le_refl _)
            have X6 : Hid (Sl w5 w4.heap.size (.slice A6 (0) (0)) ([])) := by
              have := hsl3 w5 _ _ X5.out
              rwa [Nat.add_sub_cancel_left, List.drop_append_of_le_length (by rw [hn.out]; exact Nat.le_refl _), List.drop_of_length_le (by rw [hn.out]; exact Nat.le_refl _), List.nil_append] at this
            rw [Nat.add_sub_cancel_left] at hsl2
            clear hsl3
            have q5 : w5.cell? ⟨wr.heap.size, 0, none⟩ = some (.int .i64 what) := by rw [cell_of_row w5 _ 0 _ _ _ B5.out]; rfl
            go_wp2_with fail
            refine (eqBytes_true w4.heap.size g _ _ _ _ _ _ (List.take n (L ++ [])) L w5 (X5.out.take n (by rw [hLN.out]; omega)) S5.out (by rw [List.take_append_of_le_length (by rw [hn.out]; exact Nat.le_refl _), List.take_of_length_le (by rw [hn.out]; exact Nat.le_refl _)])).mono ?_
            rintro e w6 ⟨rfl, r1⟩
            have M6 := Lib.hid (M5.out.quiet r1)
            have X6' := Lib.hid (X6.out.fr r1 (fun _ x => x))
            have Y6 := Lib.hid (X5.out.fr r1 (fun _ x => x))
            have q6 : w6.cell? ⟨wr.heap.size, 0, none⟩ = some (.int .i64 what) := (World.cell?_of_block (w := w5) (r1.block wr.heap.size (heap_lt B5.out) (fun x => x))).trans q5
            clear r1 M5 X5 X6 B5 S5 q5
            go_wp2_with fail
            go_quiet (fail)
            have M8 : Hid (Mine w w1.heap.size v4 (L ++ []) (w6.drewN nq)) := M6.out.quiet ((Fr.refl _ _).drewN nq)
            have Y8 : Hid (Sl (w6.drewN nq) w4.heap.size (.slice (some ⟨w4.heap.size, 0, none⟩) (n + 0) (n + 0)) (L ++ [])) := Y6.out
            clear M6 X6' Y6 q6
            generalize w6.drewN nq = w8 at *
            go_wp2_with fail
            refine ⟨⟨j + 1, n + 0, n + 0, w4.heap.size, _, v4, _, by go_num, by omega, by omega, rfl, ⟨M8.out, Y8.out, ?_, N5.out⟩⟩, by simp [intOf]; omega⟩
            rw [hLN.out]
            have := hG.out.bound
            have := hn.out
            omega
        · skip
          have HR := Lib.hid hr
          clear hr
          have hPL : Hid ((data.take M).length = M) := by have := HW.out.sl.len; have := HM.out; show _ = _; rw [List.length_take]; omega
          go_wp2_with fail
          obtain ⟨O, hO⟩ : ∃ O, O = Obj.cells #[.int .i64 what, .int .i64 vn, .int .i64 size, .slice A1 m c1] 29 := ⟨_, rfl⟩
          have FA : Hid (Fr (fun _ => False) wr (wr.alloc O)) := (Fr.refl _ _).alloc _
          have MA : Hid (Mine w w1.heap.size v L (wr.alloc O)) := hG.out.mine.quiet FA.out
          have BA : Hid ((wr.alloc O).heap[wr.heap.size]? = some O) := heap_alloc_new wr O
          have HO : Hid (O = Obj.cells #[.int .i64 what, .int .i64 vn, .int .i64 size, .slice A1 m c1] 29) := hO
          rw [← hO]
          clear hO
          refine (bring_eq what 3 1 _ (by decide) (by decide) HW.out.w0 HW.out.w1 HR.out).mono ?_
          rintro e w3 ⟨rfl, rfl⟩
          have hbd : Hid (L.length + 402 ≤ 140737488355000) := by have := hG.out.bound; show _ ≤ _; omega
          have hdl : Hid ((data.take M).length = M) := by have := HW.out.sl.len; have := HM.out; show _ = _; rw [List.length_take]; omega
          go_wp2_with fail
          have HS : Hid (Sl (wr.alloc O) g1 (.slice A1 M c1) (data.take M)) := (HW.out.sl.take M (by have := HW.out.sl.len; have := HM.out; omega)).fr FA.out (fun _ x => x)
          refine (wbytes_any w1.heap.size g1 v L (data.take M) A1 M c1 _ MA.out.wr HS.out (by have := hbd.out; have := HM.out; omega)).mono ?_
          rintro e w4 ⟨rfl, v4, r1, r2, r3⟩
          have M4 : Hid (Mine w w1.heap.size v4 (L ++ data.take M) w4) := MA.out.step r1 r2 r3
          have B4 : Hid (w4.heap[wr.heap.size]? = some (Obj.cells #[.int .i64 what, .int .i64 vn, .int .i64 size, .slice A1 m c1] 29)) := (r2.block _ (heap_lt BA.out) (fun h => absurd (hG.out.mine.lt h) (Nat.lt_irrefl _))).trans (BA.out.trans (congrArg some HO.out))
          have hn : Hid (L.length = n) := hG.out.was.len
          have hLN : Hid ((L ++ data.take M).length = n + M) := by
            show _ = _
            rw [List.length_append, hn.out, hPL.out]
          have S4 : Hid (Sl w4 g (.slice A n c) L) := (hG.out.was.fr FA.out (fun _ x => x)).fr r2 (fun _ => hG.out.apart)
          clear r1 r2 r3 MA BA HO FA
          have hb1 : n + 402 ≤ 140737488355000 := by have := hbd.out; have := hn.out; omega
          have hKM : M ≤ 402 := by first | omega | (have := HM.out; omega)
          have hb2 : n + M ≤ 140737488355000 := by omega
          go_wp2_with fail
          refine (wout_N w1.heap.size v4 _ (n + M) _ M4.out.wr (by omega) hLN.out).mono ?_
          rintro e w5 ⟨rfl, r1, r2⟩
          have M5 := Lib.hid (M4.out.quiet r2)
          have X5 := Lib.hid r1
          have B5 : Hid (w5.heap[wr.heap.size]? = some _) := (r2.block _ (heap_lt B4.out) (fun x => x)).trans B4.out
          have S5 := Lib.hid (S4.out.fr r2 (fun _ x => x))
          have N5 : Hid (¬ Tw w1.heap.size v4 w4.heap.size) := fun h => absurd (M4.out.lt h) (Nat.lt_irrefl _)
          clear r1 r2 M4 B4 S4
          have hsl1 := slice_to (some ⟨w4.heap.size, 0, none⟩) (n + M) (n + M) n (by omega)
          obtain ⟨A6, hsl2, hsl3⟩ := slice_from (some ⟨w4.heap.size, 0, none⟩) (n + M) (n + M) n (by omega) (Nat.le_refl _)
          have X6 : Hid (Sl w5 w4.heap.size (.slice A6 (M) (M)) (data.take M)) := by
            have := hsl3 w5 _ _ X5.out
            rwa [Nat.add_sub_cancel_left, List.drop_append_of_le_length (by rw [hn.out]; exact Nat.le_refl _), List.drop_of_length_le (by rw [hn.out]; exact Nat.le_refl _), List.nil_append] at this
          rw [Nat.add_sub_cancel_left] at hsl2
          clear hsl3
          have q5 : w5.cell? ⟨wr.heap.size, 0, none⟩ = some (.int .i64 what) := by rw [cell_of_row w5 _ 0 _ _ _ B5.out]; rfl
          go_wp2_with fail
          refine (eqBytes_true w4.heap.size g _ _ _ _ _ _ (List.take n (L ++ data.take M)) L w5 (X5.out.take n (by rw [hLN.out]; omega)) S5.out (by rw [List.take_append_of_le_length (by rw [hn.out]; exact Nat.le_refl _), List.take_of_length_le (by rw [hn.out]; exact Nat.le_refl _)])).mono ?_
          rintro e w6 ⟨rfl, r1⟩
          have M6 := Lib.hid (M5.out.quiet r1)
          have X6' := Lib.hid (X6.out.fr r1 (fun _ x => x))
          have Y6 := Lib.hid (X5.out.fr r1 (fun _ x => x))
          have q6 : w6.cell? ⟨wr.heap.size, 0, none⟩ = some (.int .i64 what) := (World.cell?_of_block (w := w5) (r1.block wr.heap.size (heap_lt B5.out) (fun x => x))).trans q5
          clear r1 M5 X5 X6 B5 S5 q5
          go_wp2_with fail
          refine wp_region_still_tail 11 (by kernel_rfl) (by kernel_rfl) ?_
          simp only [List.take_succ_cons, List.take_zero, List.drop_succ_cons, List.drop_zero]
          iterate 9 still_step
          refine wpStill_step (fun K hK => ?_)
          go_simp
          refine ⟨_, (bring_eq what 3 1 _ (by decide) (by decide) HW.out.w0 HW.out.w1 HR.out).mono (fun _ _ h => ⟨h.1, h.2.symm⟩), hK _ ?_⟩
          clear hK K
          still_step
          refine wpStill_nil ?_
          change wpList _ _ _ _ _ w6.drew
          have M7 : Hid (Mine w w1.heap.size v4 (L ++ data.take M) w6.drew) := M6.out.quiet ((Fr.refl _ _).drew)
          have X7 : Hid (Sl w6.drew w4.heap.size (.slice A6 (M) (M)) (data.take M)) := X6'.out
          have Y7 : Hid (Sl w6.drew w4.heap.size (.slice (some ⟨w4.heap.size, 0, none⟩) (n + M) (n + M)) (L ++ data.take M)) := Y6.out
          clear M6 X6' Y6 q6
          generalize w6.drew = w7 at *
          go_wp2_with fail
          refine (eats_1 w4.heap.size A6 M M (data.take M) _ X7.out (by omega)).mono ?_
          rintro e w8 ⟨rfl, r1⟩
          have M8 := Lib.hid (M7.out.quiet r1)
          have Y8 := Lib.hid (Y7.out.fr r1 (fun _ x => x))
          clear r1 M7 X7 Y7
          go_wp2_with fail
          refine ⟨⟨j + 1, n + M, n + M, w4.heap.size, _, v4, _, by go_num, by omega, by omega, rfl, ⟨M8.out, Y8.out, ?_, N5.out⟩⟩, by simp [intOf]; omega⟩
          rw [hLN.out]
          have := hG.out.bound
          have := hn.out
          omega
        · skip
          have HR := Lib.hid hr
          clear hr
          have hPL : Hid ((beN M 2 ++ data.take M).length = M + 2) := by have := HW.out.sl.len; have := HM.out; show _ = _; rw [List.length_append, List.length_take, beN_length _ _ (by decide)]; omega
          have hMi : (M : Int) ≤ 400 := by have := HM.out; omega
          go_wp2_with fail
          obtain ⟨O, hO⟩ : ∃ O, O = Obj.cells #[.int .i64 what, .int .i64 vn, .int .i64 size, .slice A1 m c1] 29 := ⟨_, rfl⟩
          have FA : Hid (Fr (fun _ => False) wr (wr.alloc O)) := (Fr.refl _ _).alloc _
          have MA : Hid (Mine w w1.heap.size v L (wr.alloc O)) := hG.out.mine.quiet FA.out
          have BA : Hid ((wr.alloc O).heap[wr.heap.size]? = some O) := heap_alloc_new wr O
          have HO : Hid (O = Obj.cells #[.int .i64 what, .int .i64 vn, .int .i64 size, .slice A1 m c1] 29) := hO
          rw [← hO]
          clear hO
          refine (bring_eq what 3 2 _ (by decide) (by decide) HW.out.w0 HW.out.w1 HR.out).mono ?_
          rintro e w3 ⟨rfl, rfl⟩
          have hbd : Hid (L.length + 402 ≤ 140737488355000) := by have := hG.out.bound; show _ ≤ _; omega
          have hdl : Hid ((data.take M).length = M) := by have := HW.out.sl.len; have := HM.out; show _ = _; rw [List.length_take]; omega
          go_wp2_with fail
          have HS : Hid (Sl (wr.alloc O) g1 (.slice A1 M c1) (data.take M)) := (HW.out.sl.take M (by have := HW.out.sl.len; have := HM.out; omega)).fr FA.out (fun _ x => x)
          refine (octets_ok' w1.heap.size g1 v L (data.take M) A1 M c1 _ MA.out.wr HS.out (by have := HM.out; omega) (fun hd => hG.out.mine.apart (.inl (HWg.out (fun e => hd (by rw [e, List.take_nil]))))) (by have := hG.out.bound; omega)).mono ?_
          rintro e w4 ⟨rfl, v4, r1, r2, r3⟩
          have M4 : Hid (Mine w w1.heap.size v4 (L ++ (beN M 2 ++ data.take M)) w4) := MA.out.step r1 r2 r3
          have B4 : Hid (w4.heap[wr.heap.size]? = some (Obj.cells #[.int .i64 what, .int .i64 vn, .int .i64 size, .slice A1 m c1] 29)) := (r2.block _ (heap_lt BA.out) (fun h => absurd (hG.out.mine.lt h) (Nat.lt_irrefl _))).trans (BA.out.trans (congrArg some HO.out))
          have hn : Hid (L.length = n) := hG.out.was.len
          have hLN : Hid ((L ++ (beN M 2 ++ data.take M)).length = n + (M + 2)) := by
            show _ = _
            rw [List.length_append, hn.out, hPL.out]
          have S4 : Hid (Sl w4 g (.slice A n c) L) := (hG.out.was.fr FA.out (fun _ x => x)).fr r2 (fun _ => hG.out.apart)
          clear r1 r2 r3 MA BA HO FA
          have hb1 : n + 402 ≤ 140737488355000 := by have := hbd.out; have := hn.out; omega
          have hKM : (M + 2) ≤ 402 := by first | omega | (have := HM.out; omega)
          have hb2 : n + (M + 2) ≤ 140737488355000 := by omega
          go_wp2_with fail
          refine (wout_N w1.heap.size v4 _ (n + (M + 2)) _ M4.out.wr (by omega) hLN.out).mono ?_
          rintro e w5 ⟨rfl, r1, r2⟩
          have M5 := Lib.hid (M4.out.quiet r2)
          have X5 := Lib.hid r1
          have B5 : Hid (w5.heap[wr.heap.size]? = some _) := (r2.block _ (heap_lt B4.out) (fun x => x)).trans B4.out
          have S5 := Lib.hid (S4.out.fr r2 (fun _ x => x))
          have N5 : Hid (¬ Tw w1.heap.size v4 w4.heap.size) := fun h => absurd (M4.out.lt h) (Nat.lt_irrefl _)
          clear r1 r2 M4 B4 S4
          have hsl1 := slice_to (some ⟨w4.heap.size, 0, none⟩) (n + (M + 2)) (n + (M + 2)) n (by omega)
          obtain ⟨A6, hsl2, hsl3⟩ := slice_from (some ⟨w4.heap.size, 0, none⟩) (n + (M + 2)) (n + (M + 2)) n (by omega) (Nat.le_refl _)
          have X6 : Hid (Sl w5 w4.heap.size (.slice A6 ((M + 2)) ((M + 2))) ((beN M 2 ++ data.take M))) := by
            have := hsl3 w5 _ _ X5.out
            rwa [Nat.add_sub_cancel_left, List.drop_append_of_le_length (by rw [hn.out]; exact Nat.le_refl _), List.drop_of_length_le (by rw [hn.out]; exact Nat.le_refl _), List.nil_append] at this
          rw [Nat.add_sub_cancel_left] at hsl2
          clear hsl3
          have q5 : w5.cell? ⟨wr.heap.size, 0, none⟩ = some (.int .i64 what) := by rw [cell_of_row w5 _ 0 _ _ _ B5.out]; rfl
          go_wp2_with fail
          refine (eqBytes_true w4.heap.size g _ _ _ _ _ _ (List.take n (L ++ (beN M 2 ++ data.take M))) L w5 (X5.out.take n (by rw [hLN.out]; omega)) S5.out (by rw [List.take_append_of_le_length (by rw [hn.out]; exact Nat.le_refl _), List.take_of_length_le (by rw [hn.out]; exact Nat.le_refl _)])).mono ?_
          rintro e w6 ⟨rfl, r1⟩
          have M6 := Lib.hid (M5.out.quiet r1)
          have X6' := Lib.hid (X6.out.fr r1 (fun _ x => x))
          have Y6 := Lib.hid (X5.out.fr r1 (fun _ x => x))
          have q6 : w6.cell? ⟨wr.heap.size, 0, none⟩ = some (.int .i64 what) := (World.cell?_of_block (w := w5) (r1.block wr.heap.size (heap_lt B5.out) (fun x => x))).trans q5
          clear r1 M5 X5 X6 B5 S5 q5
          go_wp2_with fail
          refine wp_region_still_tail 11 (by kernel_rfl) (by kernel_rfl) ?_
          simp only [List.take_succ_cons, List.take_zero, List.drop_succ_cons, List.drop_zero]
          iterate 9 still_step
          refine wpStill_step (fun K hK => ?_)
          go_simp
          refine ⟨_, (bring_eq what 3 2 _ (by decide) (by decide) HW.out.w0 HW.out.w1 HR.out).mono (fun _ _ h => ⟨h.1, h.2.symm⟩), hK _ ?_⟩
          clear hK K
          still_step
          refine wpStill_nil ?_
          change wpList _ _ _ _ _ w6.drew
          have M7 : Hid (Mine w w1.heap.size v4 (L ++ (beN M 2 ++ data.take M)) w6.drew) := M6.out.quiet ((Fr.refl _ _).drew)
          have X7 : Hid (Sl w6.drew w4.heap.size (.slice A6 ((M + 2)) ((M + 2))) ((beN M 2 ++ data.take M))) := X6'.out
          have Y7 : Hid (Sl w6.drew w4.heap.size (.slice (some ⟨w4.heap.size, 0, none⟩) (n + (M + 2)) (n + (M + 2))) (L ++ (beN M 2 ++ data.take M))) := Y6.out
          clear M6 X6' Y6 q6
          generalize w6.drew = w7 at *
          go_wp2_with fail
          refine (eats_2 w4.heap.size A6 (M + 2) (M + 2) _ (data.take M) M _ X7.out rfl hdl.out (by have := HM.out; omega)).mono ?_
          rintro e w8 ⟨rfl, r1⟩
          have M8 := Lib.hid (M7.out.quiet r1)
          have Y8 := Lib.hid (Y7.out.fr r1 (fun _ x => x))
          clear r1 M7 X7 Y7
          go_wp2_with fail
          refine ⟨⟨j + 1, n + (M + 2), n + (M + 2), w4.heap.size, _, v4, _, by go_num, by omega, by omega, rfl, ⟨M8.out, Y8.out, ?_, N5.out⟩⟩, by simp [intOf]; omega⟩
          rw [hLN.out]
          have := hG.out.bound
          have := hn.out
          omega
      · go_wp2_with fail
        go_ret
        exact ⟨rfl, hG.out.mine.fr⟩
    · go_wp2_with fail
      go_ret
      exact ⟨rfl, hG.out.mine.fr⟩
end Go.Proofs.Ytkkicekhkidhjaa
