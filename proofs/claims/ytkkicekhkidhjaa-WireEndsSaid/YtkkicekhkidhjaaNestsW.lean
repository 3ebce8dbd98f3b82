/- The walk of WireNests: octets within octets are found as they were. Condition: what came in lies in memory. -/
import Derived.Test.YtkkicekhkidhjaaGrowsW
import Derived.Deep.RegionHeld3
namespace Go.Proofs.Ytkkicekhkidhjaa
open Go.RowKit

structure RowAt (W : World) (b off i : Nat) (A : Option Addr) (m c g : Nat) (data : List Int) : Prop where
  c0 : W.cell? ⟨b, off + i, none⟩ = some (.slice A m c)
  sl : Sl W g (.slice A m c) data
  lt : data ≠ [] → g < W.heap.size
theorem RowAt.keep {W W' : World} {b off i : Nat} {A : Option Addr} {m c g : Nat} {data : List Int} (h : RowAt W b off i A m c g data) (hf : Fr (fun _ => False) W W') : RowAt W' b off i A m c g data := by
  have hb : b < W.heap.size := World.block_lt_of_cell? _ _ h.c0
  exact ⟨(World.cell?_of_block (w := W) (hf.block b hb (fun x => x))).trans h.c0, h.sl.fr hf (fun _ x => x), fun hd => Nat.lt_of_lt_of_le (h.lt hd) hf.size⟩

theorem Sl.lt {w : World} {g : Nat} {v : Value} {l : List Int} (h : Sl w g v l) (hl : l ≠ []) : g < w.heap.size := by
  obtain ⟨_, A, c, _, _, _, hx⟩ := h
  obtain ⟨o, _, hg, _⟩ := hx hl
  exact hg
theorem Sl.fr' {S : Nat → Prop} {w w' : World} {g : Nat} {v : Value} {l : List Int} (h : Sl w g v l) (hf : Fr S w w') (hn : l ≠ [] → ¬ S g) : Sl w' g v l := by
  by_cases hl : l = []
  · subst hl
    obtain ⟨hb, A, c, e, h1, h2, _⟩ := h
    exact ⟨hb, A, c, e, h1, h2, fun h => absurd rfl h⟩
  · exact h.fr hf (fun _ => hn hl)

/-- Octets. -/
def oct (l : List Int) : List Int := beN l.length 2 ++ l
/-- What is written round by round. -/
def nest (b : List Int) (a c : Nat → List Int) : Nat → List Int
  | 0 => b
  | i + 1 => oct (a i) ++ (oct (nest b a c i) ++ c i)
theorem oct_length (l : List Int) : (oct l).length = l.length + 2 := by
  unfold oct
  rw [List.length_append, beN_length _ _ (by decide)]
  omega
theorem nest_length (b : List Int) (a c : Nat → List Int) (hb : b.length ≤ 300) (ha : ∀ i, (a i).length ≤ 50) (hc : ∀ i, (c i).length ≤ 50) : ∀ i, (nest b a c i).length ≤ 300 + i * 104
  | 0 => by unfold nest; omega
  | i + 1 => by
    have h1 := nest_length b a c hb ha hc i
    have h2 := ha i
    have h3 := hc i
    unfold nest
    rw [List.length_append, List.length_append, oct_length, oct_length]
    omega

theorem eqBytes_q (g1 g2 : Nat) (A B : Option Addr) (n m c d : Nat) (l k : List Int) (w : World) (h1 : Sl w g1 (.slice A n c) l) (h2 : Sl w g2 (.slice B m d) k) (h : l = k) :
    Calls Try.prog 22 #[.slice A n c, .slice B m d] w fun e w' => e = .returned (.bool true) ∧ ∃ q, w' = w.drewN q := by
  refine (eqBytes_any g1 g2 A B n m c d l k w h1 h2).mono ?_
  rintro e w' ⟨rfl, r⟩
  exact ⟨by rw [decide_eq_true h], r⟩

set_option maxRecDepth 100000 in
set_option maxHeartbeats 8000000 in
theorem nests_zero (A AA BB : Option Addr) (n c g : Nat) (l : List Int) (la ca lb cb : Nat) (w : World) (hs : Sl w g (.slice A n c) l) (hz : la = 0 ∨ lb = 0) (hla : la ≤ 140737488355328) (hlb : lb ≤ 140737488355328) :
    Calls Try.prog 8 #[.slice A n c, .slice AA la ca, .slice BB lb cb] w fun e w' => e = .returned (.bool true) ∧ Fr (fun _ => False) w w' := by
  have hcap := hs.cap
  unfold maxLen at hcap
  obtain ⟨M, hM⟩ : ∃ M, M = min n 300 := ⟨_, rfl⟩
  have hmin : (if (300 : Int) < (n : Int) then (300 : Int) else (n : Int)) = (M : Int) := by split <;> omega
  have hsl := slice_to A n c M (by omega)
  have hmin3 : ∀ W : World, (Builtin.min_ #[3, 3, 3] 3 #[.int .i64 (la : Int), .int .i64 (lb : Int), .int .i64 20]).run Try.prog W = .ok (.int .i64 0) W := by
    intro W
    have e : (if (20 : Int) < (if (lb : Int) < (la : Int) then (lb : Int) else (la : Int)) then (20 : Int) else (if (lb : Int) < (la : Int) then (lb : Int) else (la : Int))) = 0 := by
      by_cases h1 : (lb : Int) < (la : Int)
      · rw [if_pos h1]; split <;> omega
      · rw [if_neg h1]; split <;> omega
    rw [← e]
    simp [Builtin.min_, Builtin.min2]
  have hM300 : M ≤ 300 := by omega
  have HS : Hid (Sl w g (.slice A M c) (l.take M)) := hs.take M (by rw [hs.len]; omega)
  clear hs hM hz
  go_enter Try.func8, Try.ntmps8
  go_wp2_with fail
  refine (works_any _).mono ?_
  rintro e w1 ⟨rfl, r1⟩
  have F1 := Lib.hid r1
  clear r1
  go_wp2_with fail
  refine (copyBytes_any g A M c _ w1 (HS.out.fr F1.out (fun _ x => x)) (by omega)).mono ?_
  rintro e w2 ⟨A2, c2, rfl, r1, r2, r3⟩
  have S2 := Lib.hid r1.sl
  have F2 : Hid (Fr (fun _ => False) w w2) := F1.out.trans r3
  clear r1 r2 r3
  go_wp2_with fail
  refine wp_loop_rounds 1 ?_
  rw [rounds_succ]
  go_wp2_with fail
  refine wp_loop_rounds 1 ?_
  rw [rounds_succ]
  go_wp2_with fail
  refine (eqBytes_true _ g _ _ _ _ _ _ _ _ _ S2.out (HS.out.fr F2.out (fun _ x => x)) rfl).mono ?_
  rintro e w9 ⟨rfl, r1⟩
  have F9 := Lib.hid (F2.out.trans r1)
  clear r1
  go_wp2_with fail
  go_ret
  exact ⟨rfl, F9.out⟩

set_option maxRecDepth 100000 in
set_option maxHeartbeats 16000000 in
theorem nests_any (A : Option Addr) (n c g : Nat) (l : List Int) (ba oa la ca bb ob lb cb : Nat) (w : World) (hs : Sl w g (.slice A n c) l)
    (DA DB : Nat → List Int) (hA : ∀ i, i < la → ∃ A m c g, RowAt w ba oa i A m c g (DA i)) (hB : ∀ i, i < lb → ∃ A m c g, RowAt w bb ob i A m c g (DB i)) (hla : la ≤ 140737488355328) (hlb : lb ≤ 140737488355328) :
    Calls Try.prog 8 #[.slice A n c, .slice (some ⟨ba, oa, none⟩) la ca, .slice (some ⟨bb, ob, none⟩) lb cb] w fun e w' => e = .returned (.bool true) ∧ Fr (fun _ => False) w w' := by
  have hcap := hs.cap
  unfold maxLen at hcap
  obtain ⟨M, hM⟩ : ∃ M, M = min n 300 := ⟨_, rfl⟩
  have hmin : (if (300 : Int) < (n : Int) then (300 : Int) else (n : Int)) = (M : Int) := by split <;> omega
  have hsl := slice_to A n c M (by omega)
  obtain ⟨N, hN⟩ : ∃ N, N = min (min la lb) 20 := ⟨_, rfl⟩
  have hmin3 : ∀ W : World, (Builtin.min_ #[3, 3, 3] 3 #[.int .i64 (la : Int), .int .i64 (lb : Int), .int .i64 20]).run Try.prog W = .ok (.int .i64 (N : Int)) W := by
    intro W
    have e : (if (20 : Int) < (if (lb : Int) < (la : Int) then (lb : Int) else (la : Int)) then (20 : Int) else (if (lb : Int) < (la : Int) then (lb : Int) else (la : Int))) = (N : Int) := by
      by_cases h1 : (lb : Int) < (la : Int)
      · rw [if_pos h1]; split <;> omega
      · rw [if_neg h1]; split <;> omega
    rw [← e]
    simp [Builtin.min_, Builtin.min2]
  have hN20 : N ≤ 20 := by omega
  have hNa : N ≤ la := by omega
  have hNb : N ≤ lb := by omega
  have hM300 : M ≤ 300 := by omega
  have HS : Hid (Sl w g (.slice A M c) (l.take M)) := hs.take M (by rw [hs.len]; omega)
  have HA := Lib.hid hA
  have HB := Lib.hid hB
  obtain ⟨b, hb⟩ : ∃ b, b = l.take M := ⟨_, rfl⟩
  obtain ⟨fa, hfa⟩ : ∃ f : Nat → List Int, f = fun i => (DA i).take 50 := ⟨_, rfl⟩
  obtain ⟨fb, hfb⟩ : ∃ f : Nat → List Int, f = fun i => (DB i).take 50 := ⟨_, rfl⟩
  have hlen : Hid (∀ i, (nest b fa fb i).length ≤ 300 + i * 104) :=
    nest_length b fa fb (by rw [hb, List.length_take]; omega) (fun i => by rw [hfa]; simp only [List.length_take]; omega) (fun i => by rw [hfb]; simp only [List.length_take]; omega)
  rw [← hb] at HS
  have Hb := Lib.hid hb
  have Hfa := Lib.hid hfa
  have Hfb := Lib.hid hfb
  clear hs hA hB hM hN hb hfa hfb
  go_enter Try.func8, Try.ntmps8
  go_wp2_with fail
  refine (works_any _).mono ?_
  rintro e w1 ⟨rfl, r1⟩
  have F1 := Lib.hid r1
  clear r1
  go_wp2_with fail
  refine (copyBytes_any g A M c b w1 (HS.out.fr F1.out (fun _ x => x)) (by omega)).mono ?_
  rintro e w2 ⟨A2, c2, rfl, r1, r2, r3⟩
  have S2 : Hid (Sl w2 _ (.slice A2 M c2) (nest b fa fb 0)) := r1.sl
  have F2 : Hid (Fr (fun _ => False) w w2) := F1.out.trans r3
  clear r1 r2 r3
  go_wp2_with fail
  go_loopw [8, 9] (fun s i wr => ∃ (j m c g : Nat) (A : Option Addr), i = .int .i64 j ∧ j ≤ N ∧ s = .slice A m c ∧ Hid (Sl wr g (.slice A m c) (nest b fa fb j)) ∧ Hid (Fr (fun _ => False) w wr)) (fun _ i _ => N - (intOf i).toNat)
  case atStart => exact ⟨0, M, c2, _, A2, rfl, Nat.zero_le _, rfl, S2.out, F2.out⟩
  case round =>
    obtain ⟨j, m, c3, g3, A3, rfl, hj, rfl, hS, hF⟩ := hrel
    by_cases hlt : j < N
    · obtain ⟨Aa, ma, ka, ga, ra⟩ := HA.out j (by omega)
      obtain ⟨Ab, mb, kb, gb, rb⟩ := HB.out j (by omega)
      have hcapa := ra.sl.cap
      have hcapb := rb.sl.cap
      unfold maxLen at hcapa hcapb
      obtain ⟨Ma, hMa⟩ : ∃ Ma, Ma = min ma 50 := ⟨_, rfl⟩
      obtain ⟨Mb, hMb⟩ : ∃ Mb, Mb = min mb 50 := ⟨_, rfl⟩
      have hmina : (if (50 : Int) < (ma : Int) then (50 : Int) else (ma : Int)) = (Ma : Int) := by split <;> omega
      have hminb : (if (50 : Int) < (mb : Int) then (50 : Int) else (mb : Int)) = (Mb : Int) := by split <;> omega
      have hsla := slice_to Aa ma ka Ma (by omega)
      have hslb := slice_to Ab mb kb Mb (by omega)
      have hja : (j : Int) < (la : Int) := by omega
      have hjb : (j : Int) < (lb : Int) := by omega
      have hj0 : (0 : Int) ≤ (j : Int) := by omega
      have hMa50 : Ma ≤ 50 := by omega
      have hMb50 : Mb ≤ 50 := by omega
      have TA : Hid (Sl w ga (.slice Aa Ma ka) (fa j)) := by
        show Sl _ _ _ _
        rw [Hfa.out]
        have := ra.sl.take Ma (by rw [ra.sl.len]; omega)
        have e : (DA j).take Ma = (DA j).take 50 := by
          rcases Nat.lt_or_ge 50 ma with h | h
          · rw [show Ma = 50 by omega]
          · rw [List.take_of_length_le (by rw [ra.sl.len]; omega), List.take_of_length_le (by rw [ra.sl.len]; omega)]
        rwa [e] at this
      have TB : Hid (Sl w gb (.slice Ab Mb kb) (fb j)) := by
        show Sl _ _ _ _
        rw [Hfb.out]
        have := rb.sl.take Mb (by rw [rb.sl.len]; omega)
        have e : (DB j).take Mb = (DB j).take 50 := by
          rcases Nat.lt_or_ge 50 mb with h | h
          · rw [show Mb = 50 by omega]
          · rw [List.take_of_length_le (by rw [rb.sl.len]; omega), List.take_of_length_le (by rw [rb.sl.len]; omega)]
        rwa [e] at this
      have ca0 := (ra.keep hF.out).c0
      have cb0 := (rb.keep hF.out).c0
      have GA : Hid (fa j ≠ [] → ga < w.heap.size) := fun h => ra.lt (by intro e; rw [Hfa.out] at h; exact h (by show List.take 50 (DA j) = []; rw [e, List.take_nil]))
      have lba : ba < wr.heap.size := World.block_lt_of_cell? _ _ ca0
      have lbb : bb < wr.heap.size := World.block_lt_of_cell? _ _ cb0
      have RA := Lib.hid ra
      have RB := Lib.hid rb
      clear ra rb hMa hMb
      go_wp2_with fail
      refine (write_any _).mono ?_
      rintro e w4 ⟨rfl, r1, r2⟩
      have M4 : Hid (Mine wr wr.heap.size (.slice none 0 0) [] w4) := ⟨r1, r2, Nat.le_refl _, fun k e => by cases e⟩
      have ca4 : w4.cell? ⟨ba, oa + j, none⟩ = some (.slice Aa ma ka) := (World.cell?_of_block (w := wr) (r2.block ba lba (fun x => x))).trans ca0
      have cb4 : w4.cell? ⟨bb, ob + j, none⟩ = some (.slice Ab mb kb) := (World.cell?_of_block (w := wr) (r2.block bb lbb (fun x => x))).trans cb0
      clear r1 r2
      go_wp2_with fail
      have M4' : Hid (Mine wr wr.heap.size (.slice none 0 0) [] w4.drew) := M4.out.quiet ((Fr.refl _ _).drew)
      have F4' : Hid (Fr (fun _ => False) w w4.drew) := hF.out.trans M4'.out.fr
      clear M4
      go_region_held3 (fun w' => w'.cell? ⟨ba, oa + j, none⟩ = some (.slice Aa ma ka) ∧ w'.cell? ⟨bb, ob + j, none⟩ = some (.slice Ab mb kb)) (first | go_keep | exact ⟨by assumption, by assumption⟩)
        (first
          | (go_at_call 19
             refine (octets_ok' wr.heap.size ga (.slice none 0 0) [] (fa j) Aa Ma ka _ M4'.out.wr (TA.out.fr F4'.out (fun _ x => x)) (by omega) (fun h => M4'.out.apart (.inl (Nat.lt_of_lt_of_le (GA.out h) hF.out.size))) (by decide)).mono ?_
             rintro e w5 ⟨rfl, v5, r1, r2, r3⟩
             have M5 : Hid (Mine wr wr.heap.size v5 (beN Ma 2 ++ fa j) w5) := M4'.out.step r1 r2 r3
             have ca5 : w5.cell? ⟨ba, oa + j, none⟩ = some (.slice Aa ma ka) := (World.cell?_of_block (w := wr) (M5.out.fr.block ba lba (fun x => x))).trans ca0
             have cb5 : w5.cell? ⟨bb, ob + j, none⟩ = some (.slice Ab mb kb) := (World.cell?_of_block (w := wr) (M5.out.fr.block bb lbb (fun x => x))).trans cb0
             clear r1 r2 r3 M4' F4')
          | (go_at_call 19
             refine (octets_ok' wr.heap.size g3 v5 _ (nest b fa fb j) A3 m c3 _ M5.out.wr (hS.out.fr M5.out.fr (fun _ x => x)) (by have h1 := hS.out.len; have h2 := hlen.out j; omega) (fun h => M5.out.apart (.inl (hS.out.lt h))) (by rw [List.length_append, beN_length _ _ (by decide), TA.out.len]; omega)).mono ?_
             rintro e w6 ⟨rfl, v6, r1, r2, r3⟩
             have M6 : Hid (Mine wr wr.heap.size v6 ((beN Ma 2 ++ fa j) ++ (beN m 2 ++ nest b fa fb j)) w6) := M5.out.step r1 r2 r3
             have ca6 : w6.cell? ⟨ba, oa + j, none⟩ = some (.slice Aa ma ka) := (World.cell?_of_block (w := wr) (M6.out.fr.block ba lba (fun x => x))).trans ca0
             have cb6 : w6.cell? ⟨bb, ob + j, none⟩ = some (.slice Ab mb kb) := (World.cell?_of_block (w := wr) (M6.out.fr.block bb lbb (fun x => x))).trans cb0
             clear r1 r2 r3 M5)
          | (go_at_call 17
             refine (wbytes_any wr.heap.size gb v6 _ (fb j) Ab Mb kb _ M6.out.wr (TB.out.fr (hF.out.trans M6.out.fr) (fun _ x => x)) (by rw [List.length_append, List.length_append, List.length_append, beN_length _ _ (by decide), beN_length _ _ (by decide), TA.out.len]; have h2 := hlen.out j; omega)).mono ?_
             rintro e w7 ⟨rfl, v7, r1, r2, r3⟩
             have M7 : Hid (Mine wr wr.heap.size v7 (((beN Ma 2 ++ fa j) ++ (beN m 2 ++ nest b fa fb j)) ++ fb j) w7) := M6.out.step r1 r2 r3
             have ca7 : w7.cell? ⟨ba, oa + j, none⟩ = some (.slice Aa ma ka) := (World.cell?_of_block (w := wr) (M7.out.fr.block ba lba (fun x => x))).trans ca0
             have cb7 : w7.cell? ⟨bb, ob + j, none⟩ = some (.slice Ab mb kb) := (World.cell?_of_block (w := wr) (M7.out.fr.block bb lbb (fun x => x))).trans cb0
             clear r1 r2 r3 M6))
      have eL : Hid (((beN Ma 2 ++ fa j) ++ (beN m 2 ++ nest b fa fb j)) ++ fb j = nest b fa fb (j + 1)) := by
        show _ = _
        have h1 := TA.out.len
        have h2 := hS.out.len
        conv => rhs; unfold nest oct
        rw [h1, h2]
        simp only [List.append_assoc]
      obtain ⟨N2, hN2⟩ : ∃ N2, (((beN Ma 2 ++ fa j) ++ (beN m 2 ++ nest b fa fb j)) ++ fb j).length = N2 := ⟨_, rfl⟩
      have hNb2 : N2 ≤ 140737488355328 := by
        have h := hlen.out (j + 1)
        rw [← eL.out, hN2] at h
        omega
      have HN2 := Lib.hid hN2
      clear hN2
      go_wp2_with fail
      refine (wout_N wr.heap.size v7 _ N2 _ M7.out.wr hNb2 HN2.out).mono ?_
      rintro e w8 ⟨rfl, r1, r2⟩
      have S8 : Hid (Sl w8 w7.heap.size (.slice (some ⟨w7.heap.size, 0, none⟩) N2 N2) (nest b fa fb (j + 1))) := by
        show Sl _ _ _ _
        rw [← eL.out]; exact r1
      have F8 : Hid (Fr (fun _ => False) w w8) := (hF.out.trans M7.out.fr).trans r2
      clear r1 r2 M7
      go_wp2_with fail
      exact ⟨⟨j + 1, N2, N2, w7.heap.size, _, by go_num, by omega, rfl, S8.out, F8.out⟩, by simp [intOf]; omega⟩
    · obtain rfl : j = N := by omega
      go_wp2_with fail
      obtain ⟨wo, rfl⟩ : ∃ wo : World, wo = wr := ⟨_, rfl⟩
      go_loopw [8, 11] (fun s i wr => ∃ (t m c g : Nat) (A : Option Addr) (x : Int), i = .int .i64 x ∧ Hid (x = (t : Int) - 1) ∧ t ≤ j ∧ s = .slice A m c ∧ Hid (Sl wr g (.slice A m c) (nest b fa fb t)) ∧ Hid (Fr (fun _ => False) w wr)) (fun _ i _ => (intOf i + 1).toNat)
      case atStart => exact ⟨j, m, c3, g3, A3, _, rfl, rfl, Nat.le_refl _, rfl, hS.out, hF.out⟩
      case round =>
        obtain ⟨t, mt, c4, g4, A4, x, rfl, hx, ht, rfl, hS4, hF4⟩ := hrel
        rcases t with _ | t
        · obtain rfl : x = -1 := by have := hx.out; omega
          go_wp2_with fail
          refine (eqBytes_true g4 g _ _ _ _ _ _ _ _ _ hS4.out (HS.out.fr hF4.out (fun _ x => x)) rfl).mono ?_
          rintro e w9 ⟨rfl, r1⟩
          have F9 := Lib.hid (hF4.out.trans r1)
          clear r1
          go_wp2_with fail
          go_ret
          exact ⟨rfl, F9.out⟩
        · obtain rfl : x = (t : Int) := by have := hx.out; omega
          clear hx
          obtain ⟨Aa, ma, ka, ga, ra⟩ := HA.out t (by omega)
          obtain ⟨Ab, mb, kb, gb, rb⟩ := HB.out t (by omega)
          have hcapa := ra.sl.cap
          have hcapb := rb.sl.cap
          unfold maxLen at hcapa hcapb
          obtain ⟨Ma, hMa⟩ : ∃ Ma, Ma = min ma 50 := ⟨_, rfl⟩
          obtain ⟨Mb, hMb⟩ : ∃ Mb, Mb = min mb 50 := ⟨_, rfl⟩
          have hmina : (if (50 : Int) < (ma : Int) then (50 : Int) else (ma : Int)) = (Ma : Int) := by split <;> omega
          have hminb : (if (50 : Int) < (mb : Int) then (50 : Int) else (mb : Int)) = (Mb : Int) := by split <;> omega
          have hsla := slice_to Aa ma ka Ma (by omega)
          have hslb := slice_to Ab mb kb Mb (by omega)
          have hta : (t : Int) < (la : Int) := by omega
          have htb : (t : Int) < (lb : Int) := by omega
          have ht0 : (0 : Int) ≤ (t : Int) := by omega
          have hMa50 : Ma ≤ 50 := by omega
          have hMb50 : Mb ≤ 50 := by omega
          have TA : Hid (Sl w ga (.slice Aa Ma ka) (fa t)) := by
            show Sl _ _ _ _
            rw [Hfa.out]
            have := ra.sl.take Ma (by rw [ra.sl.len]; omega)
            have e : (DA t).take Ma = (DA t).take 50 := by
              rcases Nat.lt_or_ge 50 ma with h | h
              · rw [show Ma = 50 by omega]
              · rw [List.take_of_length_le (by rw [ra.sl.len]; omega), List.take_of_length_le (by rw [ra.sl.len]; omega)]
            rwa [e] at this
          have TB : Hid (Sl w gb (.slice Ab Mb kb) (fb t)) := by
            show Sl _ _ _ _
            rw [Hfb.out]
            have := rb.sl.take Mb (by rw [rb.sl.len]; omega)
            have e : (DB t).take Mb = (DB t).take 50 := by
              rcases Nat.lt_or_ge 50 mb with h | h
              · rw [show Mb = 50 by omega]
              · rw [List.take_of_length_le (by rw [rb.sl.len]; omega), List.take_of_length_le (by rw [rb.sl.len]; omega)]
            rwa [e] at this
          have ca0 := (ra.keep hF4.out).c0
          have cb0 := (rb.keep hF4.out).c0
          have lba : ba < wr.heap.size := World.block_lt_of_cell? _ _ ca0
          have lbb : bb < wr.heap.size := World.block_lt_of_cell? _ _ cb0
          have hta2 : (t : Int) < (la : Int) := by omega
          clear ra rb hMa hMb
          have hmt : mt ≤ 140737488355328 := by have h1 := hS4.out.len; have h2 := hlen.out (t + 1); omega
          go_wp2_with fail
          refine (new_any g4 A4 mt c4 _ _ hS4.out hmt).mono ?_
          rintro e w9 ⟨p, q, rfl, r1, r2, r3, r4⟩
          obtain ⟨K, hK⟩ : ∃ K, (nest b fa fb t).length = K := ⟨_, rfl⟩
          have hK2 : K ≤ 3000 := by have := hlen.out t; omega
          have eN : Hid (nest b fa fb (t + 1) = ((Ma : Int) / 256 % 256) :: ((Ma : Int) % 256) :: (fa t ++ (((K : Int) / 256 % 256) :: ((K : Int) % 256) :: (nest b fa fb t ++ fb t)))) := by
            show _ = _
            conv => lhs; unfold nest oct
            rw [TA.out.len, hK]
            rfl
          have HK := Lib.hid hK
          clear hK
          have R9 : Hid (Read wr p q (((Ma : Int) / 256 % 256) :: ((Ma : Int) % 256) :: (fa t ++ (((K : Int) / 256 % 256) :: ((K : Int) % 256) :: (nest b fa fb t ++ fb t)))) w9) := ⟨by rw [← eN.out]; exact r1, r4, r2, r3⟩
          clear r1 r2 r3 r4
          go_wp2_with fail
          refine (roct_ok Ma p q _ _ _ 50 w9 R9.out.rd (by simp only [num, List.foldl]; omega) (by omega) (by rw [List.length_append, TA.out.len]; omega) (by rw [List.length_append, TA.out.len]; simp only [List.length_cons, List.length_append, HK.out, TB.out.len]; omega) (by omega)).mono ?_
          rintro e w10 ⟨q5, rfl, r1, r2, r3, r4⟩
          have R10 : Hid (Read wr p q (((K : Int) / 256 % 256) :: ((K : Int) % 256) :: (nest b fa fb t ++ fb t)) w10) := R9.out.step (by rwa [List.drop_append_of_le_length (by rw [TA.out.len]; exact Nat.le_refl _), List.drop_of_length_le (by rw [TA.out.len]; exact Nat.le_refl _), List.nil_append] at r3) r4
          have X10 : Hid (Sl w10 q5 (.slice (some ⟨q5, 0, none⟩) Ma Ma) (fa t)) := by
            show Sl _ _ _ _
            rwa [List.take_append_of_le_length (by rw [TA.out.len]; exact Nat.le_refl _), List.take_of_length_le (by rw [TA.out.len]; exact Nat.le_refl _)] at r1
          have n5 : q5 ≠ p := by have := heap_lt R9.out.rd.choose_spec.1; omega
          clear r1 r2 r3 r4 R9
          go_wp2_with fail
          refine (roct_ok K p q _ _ _ 65535 w10 R10.out.rd (by simp only [num, List.foldl]; omega) (by omega) (by rw [List.length_append, HK.out]; omega) (by rw [List.length_append, HK.out, TB.out.len]; omega) (by omega)).mono ?_
          rintro e w11 ⟨q6, rfl, r1, r2, r3, r4⟩
          have R11 : Hid (Read wr p q (fb t) w11) := R10.out.step (by rwa [List.drop_append_of_le_length (by rw [HK.out]; exact Nat.le_refl _), List.drop_of_length_le (by rw [HK.out]; exact Nat.le_refl _), List.nil_append] at r3) r4
          have Y11 : Hid (Sl w11 q6 (.slice (some ⟨q6, 0, none⟩) K K) (nest b fa fb t)) := by
            show Sl _ _ _ _
            rwa [List.take_append_of_le_length (by rw [HK.out]; exact Nat.le_refl _), List.take_of_length_le (by rw [HK.out]; exact Nat.le_refl _)] at r1
          have X11 := Lib.hid (X10.out.fr r4 (fun _ => n5))
          have n6 : q6 ≠ p := by have := heap_lt R10.out.rd.choose_spec.1; omega
          clear r1 r2 r3 r4 R10 X10
          go_wp2_with fail
          refine (left_any p q (fb t) _ R11.out.rd).mono ?_
          rw [TB.out.len]
          rintro e w12 ⟨rfl, rfl⟩
          go_wp2_with fail
          refine (rbytes_ok p q (fb t) Mb w11 R11.out.rd (by rw [TB.out.len]; exact Nat.le_refl _) (by rw [TB.out.len]; omega)).mono ?_
          rintro e w13 ⟨q7, rfl, r1, r2, r3, r4⟩
          have R13 : Hid (Read wr p q [] w13) := R11.out.step (by rwa [List.drop_of_length_le (by rw [TB.out.len]; exact Nat.le_refl _)] at r3) r4
          have Z13 : Hid (Sl w13 q7 (.slice (some ⟨q7, 0, none⟩) Mb Mb) (fb t)) := by
            show Sl _ _ _ _
            rwa [List.take_of_length_le (by rw [TB.out.len]; exact Nat.le_refl _)] at r1
          have X13 := Lib.hid (X11.out.fr r4 (fun _ => n5))
          have Y13 := Lib.hid (Y11.out.fr r4 (fun _ => n6))
          have F13 : Hid (Fr (fun _ => False) w w13) := hF4.out.trans R13.out.fr
          have TA13 : Hid (Sl w13 ga (.slice Aa Ma ka) (fa t)) := TA.out.fr F13.out (fun _ x => x)
          have TB13 : Hid (Sl w13 gb (.slice Ab Mb kb) (fb t)) := TB.out.fr F13.out (fun _ x => x)
          have ca13 : w13.cell? ⟨ba, oa + t, none⟩ = some (.slice Aa ma ka) := (World.cell?_of_block (w := wr) (R13.out.fr.block ba lba (fun x => x))).trans ca0
          have cb13 : w13.cell? ⟨bb, ob + t, none⟩ = some (.slice Ab mb kb) := (World.cell?_of_block (w := wr) (R13.out.fr.block bb lbb (fun x => x))).trans cb0
          clear r1 r2 r3 r4 R11 X11 Y11
          go_wp2_with fail
          go_quiet ((first
            | (go_at_call 22; (with_reducible refine Calls.quiet_of (eqBytes_q q5 ga (some ⟨q5, 0, none⟩) Aa Ma Ma Ma ka (fa t) (fa t) _ ?_ ?_ rfl)) <;> first | exact X13.out | exact TA13.out)
            | (go_at_call 22; (with_reducible refine Calls.quiet_of (eqBytes_q q7 gb (some ⟨q7, 0, none⟩) Ab Mb Mb Mb kb (fb t) (fb t) _ ?_ ?_ rfl)) <;> first | exact Z13.out | exact TB13.out)))
          go_wp2_with fail
          exact ⟨⟨t, K, K, q6, _, _, rfl, by show (t : Int) - 1 = _; rfl, by omega, rfl, Y13.out, F13.out.drewN _⟩, by simp [intOf]⟩
end Go.Proofs.Ytkkicekhkidhjaa
