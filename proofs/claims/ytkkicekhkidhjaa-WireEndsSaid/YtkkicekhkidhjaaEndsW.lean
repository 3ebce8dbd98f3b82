/- The walk of WireEnds: the chapter's examples, both ends, and what is none. No condition. -/
import Derived.Test.YtkkicekhkidhjaaGrowsW
import Derived.Test.YtkkicekhkidhjaaNone
import Derived.Test.YtkkicekhkidhjaaHoldsW
import Derived.Test.YtkkicekhkidhjaaNestsW
import Derived.Test.YtkkicekhkidhjaaInvG
import Derived.Deep.RegionHeld3
import Derived.Deep.DeepCutAuto
namespace Go.Proofs.Ytkkicekhkidhjaa
set_option linter.unusedSimpArgs false
set_option linter.unusedVariables false
open Go.RowKit

theorem end_nil (p g : Nat) (w : World) (h : Rd w p g []) : Calls Try.prog 36 #[.pointer (some ⟨p, 0, none⟩)] w fun e w' => e = .returned (.int .i64 0) ∧ w = w' := end_any p g [] w h
theorem end_some (p g : Nat) (x : Int) (l : List Int) (w : World) (h : Rd w p g (x :: l)) : Calls Try.prog 36 #[.pointer (some ⟨p, 0, none⟩)] w fun e w' => e = .returned (.int .i64 4) ∧ w = w' := end_any p g (x :: l) w h
theorem left_N (p g N : Nat) (l : List Int) (w : World) (h : Rd w p g l) (hN : l.length = N) : Calls Try.prog 34 #[.pointer (some ⟨p, 0, none⟩)] w fun e w' => e = .returned (.int .i64 N) ∧ w = w' := by
  subst hN
  exact left_any p g l w h
theorem eqBytes_at (g1 g2 : Nat) (A B : Option Addr) (n m c d : Nat) (l : List Int) (w : World) (h1 : Sl w g1 (.slice A n c) l) (h2 : Sl w g2 (.slice B m d) l) :
    Calls Try.prog 22 #[.slice A n c, .slice B m d] w fun e w' => e = .returned (.bool true) ∧ Fr (fun _ => False) w w' := eqBytes_true g1 g2 A B n m c d l l w h1 h2 rfl
/-- A slice that a make lays. -/
theorem make_big (n : Nat) (hn : n ≤ 140737488355328) : ∃ Z : Array Value, (∀ W : World, (Instr.makeSlice 27 (.int .i64 (n : Int)) (.int .i64 (n : Int))).run Try.prog W = .ok (.slice (some ⟨W.heap.size, 0, none⟩) n n) (W.alloc (.cells Z 5))) ∧
    ∃ l : List Int, l.length = n ∧ ∀ W : World, Sl (W.alloc (.cells Z 5)) W.heap.size (.slice (some ⟨W.heap.size, 0, none⟩) n n) l := by
  refine ⟨_, run_mk n hn, List.replicate n 0, List.length_replicate, fun W => ?_⟩
  have e : (List.replicate n (Value.int .u8 0)).toArray = (bs (List.replicate n 0)).toArray := by simp [bs]
  rw [e]
  exact Sl.whole n (heap_alloc_new W _) (fun b hb => by rw [List.eq_of_mem_replicate hb]; omega) List.length_replicate (by simp only [maxLen]; omega)

theorem eqBytes_blk (q g n m c d : Nat) (l : List Int) (w : World) (h1 : Sl w q (.slice (some ⟨q, 0, none⟩) n c) l) (h2 : Sl w g (.slice (some ⟨g, 0, none⟩) m d) l) :
    Calls Try.prog 22 #[.slice (some ⟨q, 0, none⟩) n c, .slice (some ⟨g, 0, none⟩) m d] w fun e w' => e = .returned (.bool true) ∧ Fr (fun _ => False) w w' := eqBytes_true q g _ _ n m c d l l w h1 h2 rfl
theorem Sl.lit' (w : World) (l : List Int) (cs : Array Value) (N : Nat) (hcs : cs = (bs l).toArray) (hb : l.all (fun b => decide (0 ≤ b) && decide (b ≤ 255)) = true) (hN : l.length = N) (hm : decide (N ≤ 1000) = true) :
    Sl (w.alloc (.cells cs 5)) w.heap.size (.slice (some ⟨w.heap.size, 0, none⟩) N N) l := by
  subst hN
  have := of_decide_eq_true hm
  exact Sl.lit w l (Bys.of_all hb) (by simp only [maxLen]; omega) cs hcs

theorem lput_S (n size : Int) (N : Nat) (l : List Int) (w : World) (hm : n ≤ 9223372036854775807) (hl : pl n size = l) (hN : l.length = N) :
    Calls Try.prog 39 #[.int .i64 n, .int .i64 size] w fun e w' => ∃ q, e = .returned (.slice (some ⟨q, 0, none⟩) N N) ∧ Sl w' q (.slice (some ⟨q, 0, none⟩) N N) l ∧ w.heap.size ≤ q ∧ Fr (fun _ => False) w w' := by
  subst hl
  subst hN
  exact lput_any n size w hm

set_option maxRecDepth 100000 in
set_option maxHeartbeats 40000000 in
theorem ends_any (w : World) : Calls Try.prog 10 #[] w fun e w' => e = .returned (.bool true) ∧ Fr (fun _ => False) w w' := by
  obtain ⟨Z6, hm6, l6, hl6, hs6⟩ := make_big 65536 (by decide)
  obtain ⟨Z5, hm5, l5, hl5, hs5⟩ := make_big 65535 (by decide)
  have HL5 := Lib.hid hl5
  have HS5 := Lib.hid hs5
  clear hl6 hs6 hl5 hs5
  have m6 : ∀ W : World, (Instr.makeSlice 27 (.int .i64 65536) (.int .i64 65536)).run Try.prog W = .ok (.slice (some ⟨W.heap.size, 0, none⟩) 65536 65536) (W.alloc (.cells Z6 5)) := hm6
  have m5 : ∀ W : World, (Instr.makeSlice 27 (.int .i64 65535) (.int .i64 65535)).run Try.prog W = .ok (.slice (some ⟨W.heap.size, 0, none⟩) 65535 65535) (W.alloc (.cells Z5 5)) := hm5
  clear hm6 hm5
  go_enter Try.func10, Try.ntmps10
  go_wp2_with fail
  refine (write_any _).mono ?_
  rintro e w1 ⟨rfl, r1, r2⟩
  have M1 := Lib.hid (Mine.mk r1 r2 (Nat.le_refl _) (fun k e => by cases e))
  clear r1 r2
  go_wp2_with fail
  refine (put_big w.heap.size _ [] 4660 1 w1 M1.out.wr (by decide) (by decide) (by decide) (by decide) (by decide)).mono ?_
  rintro e w2 ⟨rfl, rfl⟩
  go_wp2_with fail
  refine (put_neg w.heap.size _ [] (-9) 4 w1 M1.out.wr (by decide) (by decide) (by decide)).mono ?_
  rintro e w2 ⟨rfl, rfl⟩
  go_wp2_with fail
  refine (put_arg w.heap.size _ [] 3 (-1) w1 M1.out.wr (by decide)).mono ?_
  rintro e w2 ⟨rfl, rfl⟩
  go_wp2_with fail
  refine (put_arg w.heap.size _ [] 3 12 w1 M1.out.wr (by decide)).mono ?_
  rintro e w2 ⟨rfl, rfl⟩
  go_wp2_with fail
  refine (put_arg w.heap.size _ [] (-1) 0 w1 M1.out.wr (by decide)).mono ?_
  rintro e w2 ⟨rfl, rfl⟩
  go_wp2_with fail
  refine (put_neg w.heap.size _ [] (-9223372036854775808) 8 w1 M1.out.wr (by decide) (by decide) (by decide)).mono ?_
  rintro e w2 ⟨rfl, rfl⟩
  go_wp2_with fail
  refine (put_big w.heap.size _ [] 9223372036854775807 7 w1 M1.out.wr (by decide) (by decide) (by decide) (by decide) (by decide)).mono ?_
  rintro e w2 ⟨rfl, rfl⟩
  go_wp2_with fail
  have M2 : Hid (Mine w w.heap.size (.slice none 0 0) [] (w1.alloc (.cells Z6 5))) := M1.out.quiet ((Fr.refl _ _).alloc _)
  refine (octets_big w.heap.size _ [] _ 65536 65536 _ M2.out.wr (by decide) (by decide)).mono ?_
  rintro e w2 ⟨rfl, rfl⟩
  go_wp2_with fail
  refine (wout_N w.heap.size _ [] 0 _ M2.out.wr (by decide) rfl).mono ?_
  rintro e w3 ⟨rfl, r1, r2⟩
  have M3 := Lib.hid (M2.out.quiet r2)
  clear r1 r2 M1 M2
  go_upto_region 4 with fail
  go_cut [4] (fun v W => v = .bool true ∧ Hid (Mine w w.heap.size (.slice none 0 0) [] W))
  case first =>
    refine wp_region_invG (fun b a w' => ∃ g0 g1 g6 g7 g11 g12 g16 g17 : Nat, Fr (fun _ => False) w3 w' ∧ (b 0 = true → Sl w' g0 (.slice (some ⟨g0, 0, none⟩) 3 3) [0, 18, 52]) ∧ (b 1 = true → Sl w' g1 (.slice (some ⟨g1, 0, none⟩) 3 3) [0, 18, 52]) ∧ (b 6 = true → Sl w' g6 (.slice (some ⟨g6, 0, none⟩) 8 8) [127, 255, 255, 255, 255, 255, 255, 254]) ∧ (b 7 = true → Sl w' g7 (.slice (some ⟨g7, 0, none⟩) 8 8) [127, 255, 255, 255, 255, 255, 255, 254]) ∧ (b 11 = true → Sl w' g11 (.slice (some ⟨g11, 0, none⟩) 1 1) [255]) ∧ (b 12 = true → Sl w' g12 (.slice (some ⟨g12, 0, none⟩) 1 1) [255]) ∧ (b 16 = true → Sl w' g16 (.slice (some ⟨g16, 0, none⟩) 5 5) [0, 0, 0, 0, 0]) ∧ (b 17 = true → Sl w' g17 (.slice (some ⟨g17, 0, none⟩) 5 5) [0, 0, 0, 0, 0]) ∧ a = ⟨#[Value.bool false, Value.int IntKind.i64 9223372036854775807, Value.pointer (some { block := w.heap.size, off := 0 }), Value.bool true, if b 20 = true then .bool true else undef, undef, undef, undef, undef, undef, undef, undef, undef, undef, undef, undef, undef, undef, undef, undef, undef, undef, undef, undef, undef, undef, undef, undef, undef, undef, undef, undef, undef, undef, undef, undef, undef, undef, undef, undef, undef, undef, undef, Value.pointer (some { block := w.heap.size, off := 0 }), Value.pointer (some { block := w.heap.size, off := 0 }), Value.int IntKind.i64 9, Value.bool true, Value.bool true, Value.pointer (some { block := w.heap.size, off := 0 }), Value.int IntKind.i64 9, Value.bool true, Value.bool true, Value.bool true, Value.pointer (some { block := w.heap.size, off := 0 }), Value.int IntKind.i64 2, Value.bool true, Value.bool true, Value.bool true, Value.pointer (some { block := w.heap.size, off := 0 }), Value.int IntKind.i64 2, Value.bool true, Value.bool true, Value.bool true, Value.pointer (some { block := w.heap.size, off := 0 }), Value.int IntKind.i64 2, Value.bool true, Value.bool true, Value.bool true, Value.pointer (some { block := w.heap.size, off := 0 }), Value.int IntKind.i64 9, Value.bool true, Value.bool true, Value.bool true, Value.pointer (some { block := w.heap.size, off := 0 }), Value.int IntKind.i64 9223372036854775807, Value.int IntKind.i64 9, Value.bool true, Value.bool true, Value.bool true, Value.pointer (some { block := w.heap.size, off := 0 }), Value.slice (some { block := w1.heap.size, off := 0 }) 65536 65536, Value.int IntKind.i64 5, Value.bool true, Value.bool true, Value.bool true, Value.pointer (some { block := w.heap.size, off := 0 }), Value.slice (some { block := w1.heap.size + 1, off := 0 }) 0 0, Value.int IntKind.i64 0, Value.bool true, Value.bool true, if b 0 = true then .slice (some ⟨g0, 0, none⟩) 3 3 else undef, if b 1 = true then .slice (some ⟨g1, 0, none⟩) 3 3 else undef, if b 2 = true then .bool true else undef, if b 3 = true then .bool true else undef, if b 4 = true then .int .i64 9223372036854775807 else undef, if b 5 = true then .int .i64 9223372036854775806 else undef, if b 6 = true then .slice (some ⟨g6, 0, none⟩) 8 8 else undef, if b 7 = true then .slice (some ⟨g7, 0, none⟩) 8 8 else undef, if b 8 = true then .bool true else undef, if b 9 = true then .bool true else undef, if b 10 = true then .bool true else undef, if b 11 = true then .slice (some ⟨g11, 0, none⟩) 1 1 else undef, if b 12 = true then .slice (some ⟨g12, 0, none⟩) 1 1 else undef, if b 13 = true then .bool true else undef, if b 14 = true then .bool true else undef, if b 15 = true then .bool true else undef, if b 16 = true then .slice (some ⟨g16, 0, none⟩) 5 5 else undef, if b 17 = true then .slice (some ⟨g17, 0, none⟩) 5 5 else undef, if b 18 = true then .bool true else undef, if b 19 = true then .bool true else undef, undef, undef, undef, undef, undef, undef, undef, undef, undef, undef, undef, undef, undef, undef, undef, undef, undef, undef, undef, undef, undef, undef, undef, undef, undef, undef, undef, undef, undef, undef, undef, undef, undef, undef, undef, undef, undef, undef, undef, undef, undef, undef, undef, undef, undef, undef, undef, undef, undef, undef, undef, undef, undef, undef, undef, undef, undef, undef, undef, undef, undef, undef, undef, undef, undef, undef, undef, undef, undef, undef, undef, undef, undef, undef, undef, undef, undef, undef, undef, undef, undef, undef, undef, undef, undef, undef, undef, undef, undef, undef, undef, undef, undef, undef, undef, undef, undef, undef, undef, undef, undef, undef, undef, undef, undef, undef, undef, undef, undef, undef, undef, undef, undef, undef, undef, undef, undef, undef, undef, undef, undef, undef, undef, undef, undef, undef, undef, undef, undef, undef, undef, undef, undef, undef, undef, undef, undef, undef, undef, undef, undef, undef, undef, undef, undef, undef, undef, undef, undef, undef, undef, undef, undef, undef, undef, undef, undef, undef, undef, undef, undef, undef, undef, undef, undef, undef, undef, undef, undef, undef, undef, undef, undef, undef, undef, undef, undef, undef, undef, undef, undef, undef, undef, undef, undef, undef, undef, undef, undef, undef, undef, undef, undef, undef, undef, undef, undef, undef, undef, undef, undef, undef, undef, undef, undef, undef, undef, undef, undef, undef, undef, undef, undef, undef, undef, undef, undef, undef, undef, undef, undef, undef, undef, undef, undef, undef, undef], []⟩) (by kernel_rfl) (by kernel_rfl) ?start4 ?step4 ?done4
    case start4 => exact ⟨0, 0, 0, 0, 0, 0, 0, 0, ⟨rfl, rfl, rfl, Nat.le_refl _, fun _ _ _ => rfl⟩, by simp, by simp, by simp, by simp, by simp, by simp, by simp, by simp, by simp⟩
    case step4 =>
      intro i o b a w1 ho hI hb hr
      obtain ⟨g0, g1, g6, g7, g11, g12, g16, g17, hF, h0, h1, h6, h7, h11, h12, h16, h17, rfl⟩ := hI
      match i, ho with
      | 0, ho =>
        injection ho with ho
        subst ho
        simp [Region.binds] at hr
        refine ⟨by kernel_rfl, ?_⟩
        refine wp_enter 39 #[.int .i64 4660, .int .i64 3] (by kernel_rfl) ((lput_S 4660 3 3 [0, 18, 52] w1 (by decide) (by decide) rfl).mono ?_)
        rintro e w2 ⟨q, rfl, hs, hq, hw2⟩
        refine ⟨q, g1, g6, g7, g11, g12, g16, g17, hF.trans hw2, ?_, ?_, ?_, ?_, ?_, ?_, ?_, ?_, ?_⟩
        · intro _
          exact hs
        · intro hx
          exact (h1 (by simpa [upd] using hx)).fr hw2 (fun _ x => x)
        · intro hx
          exact (h6 (by simpa [upd] using hx)).fr hw2 (fun _ x => x)
        · intro hx
          exact (h7 (by simpa [upd] using hx)).fr hw2 (fun _ x => x)
        · intro hx
          exact (h11 (by simpa [upd] using hx)).fr hw2 (fun _ x => x)
        · intro hx
          exact (h12 (by simpa [upd] using hx)).fr hw2 (fun _ x => x)
        · intro hx
          exact (h16 (by simpa [upd] using hx)).fr hw2 (fun _ x => x)
        · intro hx
          exact (h17 (by simpa [upd] using hx)).fr hw2 (fun _ x => x)
        · simp [upd, Act.put, hr]
      | 1, ho =>
        injection ho with ho
        subst ho
        simp [Region.binds] at hr
        refine ⟨by kernel_rfl, ?_⟩
        have hs := Sl.lit' w1 [0, 18, 52] #[.int .u8 0, .int .u8 18, .int .u8 52] 3 rfl rfl rfl rfl
        have hw2 : Fr (fun _ => False) w1 (w1.alloc (.cells #[.int .u8 0, .int .u8 18, .int .u8 52] 5)) := (Fr.refl _ _).alloc _
        refine wp_value (.slice (some ⟨w1.heap.size, 0, none⟩) 3 3) (w1.alloc (.cells #[.int .u8 0, .int .u8 18, .int .u8 52] 5)) (by kernel_rfl) ?_
        refine ⟨g0, w1.heap.size, g6, g7, g11, g12, g16, g17, hF.trans hw2, ?_, ?_, ?_, ?_, ?_, ?_, ?_, ?_, ?_⟩
        · intro hx
          exact (h0 (by simpa [upd] using hx)).fr hw2 (fun _ x => x)
        · intro _
          exact hs
        · intro hx
          exact (h6 (by simpa [upd] using hx)).fr hw2 (fun _ x => x)
        · intro hx
          exact (h7 (by simpa [upd] using hx)).fr hw2 (fun _ x => x)
        · intro hx
          exact (h11 (by simpa [upd] using hx)).fr hw2 (fun _ x => x)
        · intro hx
          exact (h12 (by simpa [upd] using hx)).fr hw2 (fun _ x => x)
        · intro hx
          exact (h16 (by simpa [upd] using hx)).fr hw2 (fun _ x => x)
        · intro hx
          exact (h17 (by simpa [upd] using hx)).fr hw2 (fun _ x => x)
        · simp [upd, Act.put, hr]
      | 2, ho =>
        injection ho with ho
        subst ho
        simp [Region.binds] at hr
        have d0 : b 0 = true := by simp only [hr]
        have d1 : b 1 = true := by simp only [hr]
        simp only [hr, if_true]
        refine ⟨by kernel_rfl, ?_⟩
        refine wp_quiet_here (.bool true) (quiet_call 22 #[.slice (some ⟨g0, 0, none⟩) 3 3, .slice (some ⟨g1, 0, none⟩) 3 3] (.bool true) (fun w => by kernel_rfl) (fun W h => (eqBytes_blk g0 g1 3 3 3 3 [0, 18, 52] W ((h0 d0).fr h (fun _ x => x)) ((h1 d1).fr h (fun _ x => x))).mono (fun e w' hh => ⟨hh.1, Fr.trans h hh.2⟩)) rfl) (fun w2 hw2 => ?_)
        refine ⟨g0, g1, g6, g7, g11, g12, g16, g17, hF.trans hw2, ?_, ?_, ?_, ?_, ?_, ?_, ?_, ?_, ?_⟩
        · intro hx
          exact (h0 (by simpa [upd] using hx)).fr hw2 (fun _ x => x)
        · intro hx
          exact (h1 (by simpa [upd] using hx)).fr hw2 (fun _ x => x)
        · intro hx
          exact (h6 (by simpa [upd] using hx)).fr hw2 (fun _ x => x)
        · intro hx
          exact (h7 (by simpa [upd] using hx)).fr hw2 (fun _ x => x)
        · intro hx
          exact (h11 (by simpa [upd] using hx)).fr hw2 (fun _ x => x)
        · intro hx
          exact (h12 (by simpa [upd] using hx)).fr hw2 (fun _ x => x)
        · intro hx
          exact (h16 (by simpa [upd] using hx)).fr hw2 (fun _ x => x)
        · intro hx
          exact (h17 (by simpa [upd] using hx)).fr hw2 (fun _ x => x)
        · simp [upd, Act.put, hr]
      | 3, ho =>
        injection ho with ho
        subst ho
        simp [Region.binds] at hr
        have d2 : b 2 = true := by simp only [hr]
        simp only [hr, if_true]
        refine ⟨by kernel_rfl, ?_⟩
        refine wp_quiet_here (.bool true) (quiet_run _ (fun _ _ => by kernel_rfl) rfl) (fun w2 hw2 => ?_)
        refine ⟨g0, g1, g6, g7, g11, g12, g16, g17, hF.trans hw2, ?_, ?_, ?_, ?_, ?_, ?_, ?_, ?_, ?_⟩
        · intro hx
          exact (h0 (by simpa [upd] using hx)).fr hw2 (fun _ x => x)
        · intro hx
          exact (h1 (by simpa [upd] using hx)).fr hw2 (fun _ x => x)
        · intro hx
          exact (h6 (by simpa [upd] using hx)).fr hw2 (fun _ x => x)
        · intro hx
          exact (h7 (by simpa [upd] using hx)).fr hw2 (fun _ x => x)
        · intro hx
          exact (h11 (by simpa [upd] using hx)).fr hw2 (fun _ x => x)
        · intro hx
          exact (h12 (by simpa [upd] using hx)).fr hw2 (fun _ x => x)
        · intro hx
          exact (h16 (by simpa [upd] using hx)).fr hw2 (fun _ x => x)
        · intro hx
          exact (h17 (by simpa [upd] using hx)).fr hw2 (fun _ x => x)
        · simp [upd, Act.put, hr]
      | 4, ho =>
        injection ho with ho
        subst ho
        simp [Region.binds] at hr
        simp only [hr, if_true]
        refine ⟨by kernel_rfl, ?_⟩
        refine wp_quiet_here (.int .i64 9223372036854775807) (quiet_run _ (fun _ _ => by kernel_rfl) rfl) (fun w2 hw2 => ?_)
        refine ⟨g0, g1, g6, g7, g11, g12, g16, g17, hF.trans hw2, ?_, ?_, ?_, ?_, ?_, ?_, ?_, ?_, ?_⟩
        · intro hx
          exact (h0 (by simpa [upd] using hx)).fr hw2 (fun _ x => x)
        · intro hx
          exact (h1 (by simpa [upd] using hx)).fr hw2 (fun _ x => x)
        · intro hx
          exact (h6 (by simpa [upd] using hx)).fr hw2 (fun _ x => x)
        · intro hx
          exact (h7 (by simpa [upd] using hx)).fr hw2 (fun _ x => x)
        · intro hx
          exact (h11 (by simpa [upd] using hx)).fr hw2 (fun _ x => x)
        · intro hx
          exact (h12 (by simpa [upd] using hx)).fr hw2 (fun _ x => x)
        · intro hx
          exact (h16 (by simpa [upd] using hx)).fr hw2 (fun _ x => x)
        · intro hx
          exact (h17 (by simpa [upd] using hx)).fr hw2 (fun _ x => x)
        · simp [upd, Act.put, hr]
      | 5, ho =>
        injection ho with ho
        subst ho
        simp [Region.binds] at hr
        have d4 : b 4 = true := by simp only [hr]
        simp only [hr, if_true]
        refine ⟨by kernel_rfl, ?_⟩
        refine wp_quiet_here (.int .i64 9223372036854775806) (quiet_run _ (fun _ _ => by kernel_rfl) rfl) (fun w2 hw2 => ?_)
        refine ⟨g0, g1, g6, g7, g11, g12, g16, g17, hF.trans hw2, ?_, ?_, ?_, ?_, ?_, ?_, ?_, ?_, ?_⟩
        · intro hx
          exact (h0 (by simpa [upd] using hx)).fr hw2 (fun _ x => x)
        · intro hx
          exact (h1 (by simpa [upd] using hx)).fr hw2 (fun _ x => x)
        · intro hx
          exact (h6 (by simpa [upd] using hx)).fr hw2 (fun _ x => x)
        · intro hx
          exact (h7 (by simpa [upd] using hx)).fr hw2 (fun _ x => x)
        · intro hx
          exact (h11 (by simpa [upd] using hx)).fr hw2 (fun _ x => x)
        · intro hx
          exact (h12 (by simpa [upd] using hx)).fr hw2 (fun _ x => x)
        · intro hx
          exact (h16 (by simpa [upd] using hx)).fr hw2 (fun _ x => x)
        · intro hx
          exact (h17 (by simpa [upd] using hx)).fr hw2 (fun _ x => x)
        · simp [upd, Act.put, hr]
      | 6, ho =>
        injection ho with ho
        subst ho
        simp [Region.binds] at hr
        have d5 : b 5 = true := by simp only [hr]
        simp only [hr, if_true]
        refine ⟨by kernel_rfl, ?_⟩
        refine wp_enter 39 #[.int .i64 9223372036854775806, .int .i64 8] (by kernel_rfl) ((lput_S 9223372036854775806 8 8 [127, 255, 255, 255, 255, 255, 255, 254] w1 (by decide) (by decide) rfl).mono ?_)
        rintro e w2 ⟨q, rfl, hs, hq, hw2⟩
        refine ⟨g0, g1, q, g7, g11, g12, g16, g17, hF.trans hw2, ?_, ?_, ?_, ?_, ?_, ?_, ?_, ?_, ?_⟩
        · intro hx
          exact (h0 (by simpa [upd] using hx)).fr hw2 (fun _ x => x)
        · intro hx
          exact (h1 (by simpa [upd] using hx)).fr hw2 (fun _ x => x)
        · intro _
          exact hs
        · intro hx
          exact (h7 (by simpa [upd] using hx)).fr hw2 (fun _ x => x)
        · intro hx
          exact (h11 (by simpa [upd] using hx)).fr hw2 (fun _ x => x)
        · intro hx
          exact (h12 (by simpa [upd] using hx)).fr hw2 (fun _ x => x)
        · intro hx
          exact (h16 (by simpa [upd] using hx)).fr hw2 (fun _ x => x)
        · intro hx
          exact (h17 (by simpa [upd] using hx)).fr hw2 (fun _ x => x)
        · simp [upd, Act.put, hr]
      | 7, ho =>
        injection ho with ho
        subst ho
        simp [Region.binds] at hr
        simp only [hr, if_true]
        refine ⟨by kernel_rfl, ?_⟩
        have hs := Sl.lit' w1 [127, 255, 255, 255, 255, 255, 255, 254] #[.int .u8 127, .int .u8 255, .int .u8 255, .int .u8 255, .int .u8 255, .int .u8 255, .int .u8 255, .int .u8 254] 8 rfl rfl rfl rfl
        have hw2 : Fr (fun _ => False) w1 (w1.alloc (.cells #[.int .u8 127, .int .u8 255, .int .u8 255, .int .u8 255, .int .u8 255, .int .u8 255, .int .u8 255, .int .u8 254] 5)) := (Fr.refl _ _).alloc _
        refine wp_value (.slice (some ⟨w1.heap.size, 0, none⟩) 8 8) (w1.alloc (.cells #[.int .u8 127, .int .u8 255, .int .u8 255, .int .u8 255, .int .u8 255, .int .u8 255, .int .u8 255, .int .u8 254] 5)) (by kernel_rfl) ?_
        refine ⟨g0, g1, g6, w1.heap.size, g11, g12, g16, g17, hF.trans hw2, ?_, ?_, ?_, ?_, ?_, ?_, ?_, ?_, ?_⟩
        · intro hx
          exact (h0 (by simpa [upd] using hx)).fr hw2 (fun _ x => x)
        · intro hx
          exact (h1 (by simpa [upd] using hx)).fr hw2 (fun _ x => x)
        · intro hx
          exact (h6 (by simpa [upd] using hx)).fr hw2 (fun _ x => x)
        · intro _
          exact hs
        · intro hx
          exact (h11 (by simpa [upd] using hx)).fr hw2 (fun _ x => x)
        · intro hx
          exact (h12 (by simpa [upd] using hx)).fr hw2 (fun _ x => x)
        · intro hx
          exact (h16 (by simpa [upd] using hx)).fr hw2 (fun _ x => x)
        · intro hx
          exact (h17 (by simpa [upd] using hx)).fr hw2 (fun _ x => x)
        · simp [upd, Act.put, hr]
      | 8, ho =>
        injection ho with ho
        subst ho
        simp [Region.binds] at hr
        have d6 : b 6 = true := by simp only [hr]
        have d7 : b 7 = true := by simp only [hr]
        simp only [hr, if_true]
        refine ⟨by kernel_rfl, ?_⟩
        refine wp_quiet_here (.bool true) (quiet_call 22 #[.slice (some ⟨g6, 0, none⟩) 8 8, .slice (some ⟨g7, 0, none⟩) 8 8] (.bool true) (fun w => by kernel_rfl) (fun W h => (eqBytes_blk g6 g7 8 8 8 8 [127, 255, 255, 255, 255, 255, 255, 254] W ((h6 d6).fr h (fun _ x => x)) ((h7 d7).fr h (fun _ x => x))).mono (fun e w' hh => ⟨hh.1, Fr.trans h hh.2⟩)) rfl) (fun w2 hw2 => ?_)
        refine ⟨g0, g1, g6, g7, g11, g12, g16, g17, hF.trans hw2, ?_, ?_, ?_, ?_, ?_, ?_, ?_, ?_, ?_⟩
        · intro hx
          exact (h0 (by simpa [upd] using hx)).fr hw2 (fun _ x => x)
        · intro hx
          exact (h1 (by simpa [upd] using hx)).fr hw2 (fun _ x => x)
        · intro hx
          exact (h6 (by simpa [upd] using hx)).fr hw2 (fun _ x => x)
        · intro hx
          exact (h7 (by simpa [upd] using hx)).fr hw2 (fun _ x => x)
        · intro hx
          exact (h11 (by simpa [upd] using hx)).fr hw2 (fun _ x => x)
        · intro hx
          exact (h12 (by simpa [upd] using hx)).fr hw2 (fun _ x => x)
        · intro hx
          exact (h16 (by simpa [upd] using hx)).fr hw2 (fun _ x => x)
        · intro hx
          exact (h17 (by simpa [upd] using hx)).fr hw2 (fun _ x => x)
        · simp [upd, Act.put, hr]
      | 9, ho =>
        injection ho with ho
        subst ho
        simp [Region.binds] at hr
        have d3 : b 3 = true := by simp only [hr]
        have d8 : b 8 = true := by simp only [hr]
        simp only [hr, if_true]
        refine ⟨by kernel_rfl, ?_⟩
        refine wp_quiet_here (.bool true) (quiet_run _ (fun _ _ => by kernel_rfl) rfl) (fun w2 hw2 => ?_)
        refine ⟨g0, g1, g6, g7, g11, g12, g16, g17, hF.trans hw2, ?_, ?_, ?_, ?_, ?_, ?_, ?_, ?_, ?_⟩
        · intro hx
          exact (h0 (by simpa [upd] using hx)).fr hw2 (fun _ x => x)
        · intro hx
          exact (h1 (by simpa [upd] using hx)).fr hw2 (fun _ x => x)
        · intro hx
          exact (h6 (by simpa [upd] using hx)).fr hw2 (fun _ x => x)
        · intro hx
          exact (h7 (by simpa [upd] using hx)).fr hw2 (fun _ x => x)
        · intro hx
          exact (h11 (by simpa [upd] using hx)).fr hw2 (fun _ x => x)
        · intro hx
          exact (h12 (by simpa [upd] using hx)).fr hw2 (fun _ x => x)
        · intro hx
          exact (h16 (by simpa [upd] using hx)).fr hw2 (fun _ x => x)
        · intro hx
          exact (h17 (by simpa [upd] using hx)).fr hw2 (fun _ x => x)
        · simp [upd, Act.put, hr]
      | 10, ho =>
        injection ho with ho
        subst ho
        simp [Region.binds] at hr
        have d9 : b 9 = true := by simp only [hr]
        simp only [hr, if_true]
        refine ⟨by kernel_rfl, ?_⟩
        refine wp_quiet_here (.bool true) (quiet_run _ (fun _ _ => by kernel_rfl) rfl) (fun w2 hw2 => ?_)
        refine ⟨g0, g1, g6, g7, g11, g12, g16, g17, hF.trans hw2, ?_, ?_, ?_, ?_, ?_, ?_, ?_, ?_, ?_⟩
        · intro hx
          exact (h0 (by simpa [upd] using hx)).fr hw2 (fun _ x => x)
        · intro hx
          exact (h1 (by simpa [upd] using hx)).fr hw2 (fun _ x => x)
        · intro hx
          exact (h6 (by simpa [upd] using hx)).fr hw2 (fun _ x => x)
        · intro hx
          exact (h7 (by simpa [upd] using hx)).fr hw2 (fun _ x => x)
        · intro hx
          exact (h11 (by simpa [upd] using hx)).fr hw2 (fun _ x => x)
        · intro hx
          exact (h12 (by simpa [upd] using hx)).fr hw2 (fun _ x => x)
        · intro hx
          exact (h16 (by simpa [upd] using hx)).fr hw2 (fun _ x => x)
        · intro hx
          exact (h17 (by simpa [upd] using hx)).fr hw2 (fun _ x => x)
        · simp [upd, Act.put, hr]
      | 11, ho =>
        injection ho with ho
        subst ho
        simp [Region.binds] at hr
        simp only [hr, if_true]
        refine ⟨by kernel_rfl, ?_⟩
        refine wp_enter 39 #[.int .i64 255, .int .i64 1] (by kernel_rfl) ((lput_S 255 1 1 [255] w1 (by decide) (by decide) rfl).mono ?_)
        rintro e w2 ⟨q, rfl, hs, hq, hw2⟩
        refine ⟨g0, g1, g6, g7, q, g12, g16, g17, hF.trans hw2, ?_, ?_, ?_, ?_, ?_, ?_, ?_, ?_, ?_⟩
        · intro hx
          exact (h0 (by simpa [upd] using hx)).fr hw2 (fun _ x => x)
        · intro hx
          exact (h1 (by simpa [upd] using hx)).fr hw2 (fun _ x => x)
        · intro hx
          exact (h6 (by simpa [upd] using hx)).fr hw2 (fun _ x => x)
        · intro hx
          exact (h7 (by simpa [upd] using hx)).fr hw2 (fun _ x => x)
        · intro _
          exact hs
        · intro hx
          exact (h12 (by simpa [upd] using hx)).fr hw2 (fun _ x => x)
        · intro hx
          exact (h16 (by simpa [upd] using hx)).fr hw2 (fun _ x => x)
        · intro hx
          exact (h17 (by simpa [upd] using hx)).fr hw2 (fun _ x => x)
        · simp [upd, Act.put, hr]
      | 12, ho =>
        injection ho with ho
        subst ho
        simp [Region.binds] at hr
        simp only [hr, if_true]
        refine ⟨by kernel_rfl, ?_⟩
        have hs := Sl.lit' w1 [255] #[.int .u8 255] 1 rfl rfl rfl rfl
        have hw2 : Fr (fun _ => False) w1 (w1.alloc (.cells #[.int .u8 255] 5)) := (Fr.refl _ _).alloc _
        refine wp_value (.slice (some ⟨w1.heap.size, 0, none⟩) 1 1) (w1.alloc (.cells #[.int .u8 255] 5)) (by kernel_rfl) ?_
        refine ⟨g0, g1, g6, g7, g11, w1.heap.size, g16, g17, hF.trans hw2, ?_, ?_, ?_, ?_, ?_, ?_, ?_, ?_, ?_⟩
        · intro hx
          exact (h0 (by simpa [upd] using hx)).fr hw2 (fun _ x => x)
        · intro hx
          exact (h1 (by simpa [upd] using hx)).fr hw2 (fun _ x => x)
        · intro hx
          exact (h6 (by simpa [upd] using hx)).fr hw2 (fun _ x => x)
        · intro hx
          exact (h7 (by simpa [upd] using hx)).fr hw2 (fun _ x => x)
        · intro hx
          exact (h11 (by simpa [upd] using hx)).fr hw2 (fun _ x => x)
        · intro _
          exact hs
        · intro hx
          exact (h16 (by simpa [upd] using hx)).fr hw2 (fun _ x => x)
        · intro hx
          exact (h17 (by simpa [upd] using hx)).fr hw2 (fun _ x => x)
        · simp [upd, Act.put, hr]
      | 13, ho =>
        injection ho with ho
        subst ho
        simp [Region.binds] at hr
        have d11 : b 11 = true := by simp only [hr]
        have d12 : b 12 = true := by simp only [hr]
        simp only [hr, if_true]
        refine ⟨by kernel_rfl, ?_⟩
        refine wp_quiet_here (.bool true) (quiet_call 22 #[.slice (some ⟨g11, 0, none⟩) 1 1, .slice (some ⟨g12, 0, none⟩) 1 1] (.bool true) (fun w => by kernel_rfl) (fun W h => (eqBytes_blk g11 g12 1 1 1 1 [255] W ((h11 d11).fr h (fun _ x => x)) ((h12 d12).fr h (fun _ x => x))).mono (fun e w' hh => ⟨hh.1, Fr.trans h hh.2⟩)) rfl) (fun w2 hw2 => ?_)
        refine ⟨g0, g1, g6, g7, g11, g12, g16, g17, hF.trans hw2, ?_, ?_, ?_, ?_, ?_, ?_, ?_, ?_, ?_⟩
        · intro hx
          exact (h0 (by simpa [upd] using hx)).fr hw2 (fun _ x => x)
        · intro hx
          exact (h1 (by simpa [upd] using hx)).fr hw2 (fun _ x => x)
        · intro hx
          exact (h6 (by simpa [upd] using hx)).fr hw2 (fun _ x => x)
        · intro hx
          exact (h7 (by simpa [upd] using hx)).fr hw2 (fun _ x => x)
        · intro hx
          exact (h11 (by simpa [upd] using hx)).fr hw2 (fun _ x => x)
        · intro hx
          exact (h12 (by simpa [upd] using hx)).fr hw2 (fun _ x => x)
        · intro hx
          exact (h16 (by simpa [upd] using hx)).fr hw2 (fun _ x => x)
        · intro hx
          exact (h17 (by simpa [upd] using hx)).fr hw2 (fun _ x => x)
        · simp [upd, Act.put, hr]
      | 14, ho =>
        injection ho with ho
        subst ho
        simp [Region.binds] at hr
        have d10 : b 10 = true := by simp only [hr]
        have d13 : b 13 = true := by simp only [hr]
        simp only [hr, if_true]
        refine ⟨by kernel_rfl, ?_⟩
        refine wp_quiet_here (.bool true) (quiet_run _ (fun _ _ => by kernel_rfl) rfl) (fun w2 hw2 => ?_)
        refine ⟨g0, g1, g6, g7, g11, g12, g16, g17, hF.trans hw2, ?_, ?_, ?_, ?_, ?_, ?_, ?_, ?_, ?_⟩
        · intro hx
          exact (h0 (by simpa [upd] using hx)).fr hw2 (fun _ x => x)
        · intro hx
          exact (h1 (by simpa [upd] using hx)).fr hw2 (fun _ x => x)
        · intro hx
          exact (h6 (by simpa [upd] using hx)).fr hw2 (fun _ x => x)
        · intro hx
          exact (h7 (by simpa [upd] using hx)).fr hw2 (fun _ x => x)
        · intro hx
          exact (h11 (by simpa [upd] using hx)).fr hw2 (fun _ x => x)
        · intro hx
          exact (h12 (by simpa [upd] using hx)).fr hw2 (fun _ x => x)
        · intro hx
          exact (h16 (by simpa [upd] using hx)).fr hw2 (fun _ x => x)
        · intro hx
          exact (h17 (by simpa [upd] using hx)).fr hw2 (fun _ x => x)
        · simp [upd, Act.put, hr]
      | 15, ho =>
        injection ho with ho
        subst ho
        simp [Region.binds] at hr
        have d14 : b 14 = true := by simp only [hr]
        simp only [hr, if_true]
        refine ⟨by kernel_rfl, ?_⟩
        refine wp_quiet_here (.bool true) (quiet_run _ (fun _ _ => by kernel_rfl) rfl) (fun w2 hw2 => ?_)
        refine ⟨g0, g1, g6, g7, g11, g12, g16, g17, hF.trans hw2, ?_, ?_, ?_, ?_, ?_, ?_, ?_, ?_, ?_⟩
        · intro hx
          exact (h0 (by simpa [upd] using hx)).fr hw2 (fun _ x => x)
        · intro hx
          exact (h1 (by simpa [upd] using hx)).fr hw2 (fun _ x => x)
        · intro hx
          exact (h6 (by simpa [upd] using hx)).fr hw2 (fun _ x => x)
        · intro hx
          exact (h7 (by simpa [upd] using hx)).fr hw2 (fun _ x => x)
        · intro hx
          exact (h11 (by simpa [upd] using hx)).fr hw2 (fun _ x => x)
        · intro hx
          exact (h12 (by simpa [upd] using hx)).fr hw2 (fun _ x => x)
        · intro hx
          exact (h16 (by simpa [upd] using hx)).fr hw2 (fun _ x => x)
        · intro hx
          exact (h17 (by simpa [upd] using hx)).fr hw2 (fun _ x => x)
        · simp [upd, Act.put, hr]
      | 16, ho =>
        injection ho with ho
        subst ho
        simp [Region.binds] at hr
        simp only [hr, if_true]
        refine ⟨by kernel_rfl, ?_⟩
        refine wp_enter 39 #[.int .i64 0, .int .i64 5] (by kernel_rfl) ((lput_S 0 5 5 [0, 0, 0, 0, 0] w1 (by decide) (by decide) rfl).mono ?_)
        rintro e w2 ⟨q, rfl, hs, hq, hw2⟩
        refine ⟨g0, g1, g6, g7, g11, g12, q, g17, hF.trans hw2, ?_, ?_, ?_, ?_, ?_, ?_, ?_, ?_, ?_⟩
        · intro hx
          exact (h0 (by simpa [upd] using hx)).fr hw2 (fun _ x => x)
        · intro hx
          exact (h1 (by simpa [upd] using hx)).fr hw2 (fun _ x => x)
        · intro hx
          exact (h6 (by simpa [upd] using hx)).fr hw2 (fun _ x => x)
        · intro hx
          exact (h7 (by simpa [upd] using hx)).fr hw2 (fun _ x => x)
        · intro hx
          exact (h11 (by simpa [upd] using hx)).fr hw2 (fun _ x => x)
        · intro hx
          exact (h12 (by simpa [upd] using hx)).fr hw2 (fun _ x => x)
        · intro _
          exact hs
        · intro hx
          exact (h17 (by simpa [upd] using hx)).fr hw2 (fun _ x => x)
        · simp [upd, Act.put, hr]
      | 17, ho =>
        injection ho with ho
        subst ho
        simp [Region.binds] at hr
        simp only [hr, if_true]
        refine ⟨by kernel_rfl, ?_⟩
        have hs := Sl.lit' w1 [0, 0, 0, 0, 0] #[.int .u8 0, .int .u8 0, .int .u8 0, .int .u8 0, .int .u8 0] 5 rfl rfl rfl rfl
        have hw2 : Fr (fun _ => False) w1 (w1.alloc (.cells #[.int .u8 0, .int .u8 0, .int .u8 0, .int .u8 0, .int .u8 0] 5)) := (Fr.refl _ _).alloc _
        refine wp_value (.slice (some ⟨w1.heap.size, 0, none⟩) 5 5) (w1.alloc (.cells #[.int .u8 0, .int .u8 0, .int .u8 0, .int .u8 0, .int .u8 0] 5)) (by kernel_rfl) ?_
        refine ⟨g0, g1, g6, g7, g11, g12, g16, w1.heap.size, hF.trans hw2, ?_, ?_, ?_, ?_, ?_, ?_, ?_, ?_, ?_⟩
        · intro hx
          exact (h0 (by simpa [upd] using hx)).fr hw2 (fun _ x => x)
        · intro hx
          exact (h1 (by simpa [upd] using hx)).fr hw2 (fun _ x => x)
        · intro hx
          exact (h6 (by simpa [upd] using hx)).fr hw2 (fun _ x => x)
        · intro hx
          exact (h7 (by simpa [upd] using hx)).fr hw2 (fun _ x => x)
        · intro hx
          exact (h11 (by simpa [upd] using hx)).fr hw2 (fun _ x => x)
        · intro hx
          exact (h12 (by simpa [upd] using hx)).fr hw2 (fun _ x => x)
        · intro hx
          exact (h16 (by simpa [upd] using hx)).fr hw2 (fun _ x => x)
        · intro _
          exact hs
        · simp [upd, Act.put, hr]
      | 18, ho =>
        injection ho with ho
        subst ho
        simp [Region.binds] at hr
        have d16 : b 16 = true := by simp only [hr]
        have d17 : b 17 = true := by simp only [hr]
        simp only [hr, if_true]
        refine ⟨by kernel_rfl, ?_⟩
        refine wp_quiet_here (.bool true) (quiet_call 22 #[.slice (some ⟨g16, 0, none⟩) 5 5, .slice (some ⟨g17, 0, none⟩) 5 5] (.bool true) (fun w => by kernel_rfl) (fun W h => (eqBytes_blk g16 g17 5 5 5 5 [0, 0, 0, 0, 0] W ((h16 d16).fr h (fun _ x => x)) ((h17 d17).fr h (fun _ x => x))).mono (fun e w' hh => ⟨hh.1, Fr.trans h hh.2⟩)) rfl) (fun w2 hw2 => ?_)
        refine ⟨g0, g1, g6, g7, g11, g12, g16, g17, hF.trans hw2, ?_, ?_, ?_, ?_, ?_, ?_, ?_, ?_, ?_⟩
        · intro hx
          exact (h0 (by simpa [upd] using hx)).fr hw2 (fun _ x => x)
        · intro hx
          exact (h1 (by simpa [upd] using hx)).fr hw2 (fun _ x => x)
        · intro hx
          exact (h6 (by simpa [upd] using hx)).fr hw2 (fun _ x => x)
        · intro hx
          exact (h7 (by simpa [upd] using hx)).fr hw2 (fun _ x => x)
        · intro hx
          exact (h11 (by simpa [upd] using hx)).fr hw2 (fun _ x => x)
        · intro hx
          exact (h12 (by simpa [upd] using hx)).fr hw2 (fun _ x => x)
        · intro hx
          exact (h16 (by simpa [upd] using hx)).fr hw2 (fun _ x => x)
        · intro hx
          exact (h17 (by simpa [upd] using hx)).fr hw2 (fun _ x => x)
        · simp [upd, Act.put, hr]
      | 19, ho =>
        injection ho with ho
        subst ho
        simp [Region.binds] at hr
        have d15 : b 15 = true := by simp only [hr]
        have d18 : b 18 = true := by simp only [hr]
        simp only [hr, if_true]
        refine ⟨by kernel_rfl, ?_⟩
        refine wp_quiet_here (.bool true) (quiet_run _ (fun _ _ => by kernel_rfl) rfl) (fun w2 hw2 => ?_)
        refine ⟨g0, g1, g6, g7, g11, g12, g16, g17, hF.trans hw2, ?_, ?_, ?_, ?_, ?_, ?_, ?_, ?_, ?_⟩
        · intro hx
          exact (h0 (by simpa [upd] using hx)).fr hw2 (fun _ x => x)
        · intro hx
          exact (h1 (by simpa [upd] using hx)).fr hw2 (fun _ x => x)
        · intro hx
          exact (h6 (by simpa [upd] using hx)).fr hw2 (fun _ x => x)
        · intro hx
          exact (h7 (by simpa [upd] using hx)).fr hw2 (fun _ x => x)
        · intro hx
          exact (h11 (by simpa [upd] using hx)).fr hw2 (fun _ x => x)
        · intro hx
          exact (h12 (by simpa [upd] using hx)).fr hw2 (fun _ x => x)
        · intro hx
          exact (h16 (by simpa [upd] using hx)).fr hw2 (fun _ x => x)
        · intro hx
          exact (h17 (by simpa [upd] using hx)).fr hw2 (fun _ x => x)
        · simp [upd, Act.put, hr]
      | 20, ho =>
        injection ho with ho
        subst ho
        simp [Region.binds] at hr
        have d19 : b 19 = true := by simp only [hr]
        simp only [hr, if_true]
        refine ⟨by kernel_rfl, ?_⟩
        refine wp_quiet_here (.bool true) (quiet_run _ (fun _ _ => by kernel_rfl) rfl) (fun w2 hw2 => ?_)
        refine ⟨g0, g1, g6, g7, g11, g12, g16, g17, hF.trans hw2, ?_, ?_, ?_, ?_, ?_, ?_, ?_, ?_, ?_⟩
        · intro hx
          exact (h0 (by simpa [upd] using hx)).fr hw2 (fun _ x => x)
        · intro hx
          exact (h1 (by simpa [upd] using hx)).fr hw2 (fun _ x => x)
        · intro hx
          exact (h6 (by simpa [upd] using hx)).fr hw2 (fun _ x => x)
        · intro hx
          exact (h7 (by simpa [upd] using hx)).fr hw2 (fun _ x => x)
        · intro hx
          exact (h11 (by simpa [upd] using hx)).fr hw2 (fun _ x => x)
        · intro hx
          exact (h12 (by simpa [upd] using hx)).fr hw2 (fun _ x => x)
        · intro hx
          exact (h16 (by simpa [upd] using hx)).fr hw2 (fun _ x => x)
        · intro hx
          exact (h17 (by simpa [upd] using hx)).fr hw2 (fun _ x => x)
        · simp [upd, Act.put, hr]
      | j + 21, ho => exact absurd ho (by simp)
    intro b a W4 hall hI
    obtain ⟨g0, g1, g6, g7, g11, g12, g16, g17, hF, h0, h1, h6, h7, h11, h12, h16, h17, rfl⟩ := hI
    have t0 : b 0 = true := hall 0 (by simp)
    have t1 : b 1 = true := hall 1 (by simp)
    have t2 : b 2 = true := hall 2 (by simp)
    have t3 : b 3 = true := hall 3 (by simp)
    have t4 : b 4 = true := hall 4 (by simp)
    have t5 : b 5 = true := hall 5 (by simp)
    have t6 : b 6 = true := hall 6 (by simp)
    have t7 : b 7 = true := hall 7 (by simp)
    have t8 : b 8 = true := hall 8 (by simp)
    have t9 : b 9 = true := hall 9 (by simp)
    have t10 : b 10 = true := hall 10 (by simp)
    have t11 : b 11 = true := hall 11 (by simp)
    have t12 : b 12 = true := hall 12 (by simp)
    have t13 : b 13 = true := hall 13 (by simp)
    have t14 : b 14 = true := hall 14 (by simp)
    have t15 : b 15 = true := hall 15 (by simp)
    have t16 : b 16 = true := hall 16 (by simp)
    have t17 : b 17 = true := hall 17 (by simp)
    have t18 : b 18 = true := hall 18 (by simp)
    have t19 : b 19 = true := hall 19 (by simp)
    have t20 : b 20 = true := hall 20 (by simp)
    simp only [t0, t1, t2, t3, t4, t5, t6, t7, t8, t9, t10, t11, t12, t13, t14, t15, t16, t17, t18, t19, t20, if_true]
    go_wp2_with fail
    go_meet
    exact ⟨rfl, M3.out.quiet hF⟩
  case rest =>
    obtain ⟨rfl, M4⟩ := hcut
    clear M3
    go_wp2_with fail
    have M5 : Hid (Mine w w.heap.size (.slice none 0 0) [] (wc.alloc (.cells Z5 5))) := M4.out.quiet ((Fr.refl _ _).alloc _)
    have Y5 : Hid (Sl (wc.alloc (.cells Z5 5)) wc.heap.size (.slice (some ⟨wc.heap.size, 0, none⟩) 65535 65535) l5) := HS5.out wc
    refine (octets_ok w.heap.size wc.heap.size _ [] l5 _ 65535 65535 _ M5.out.wr Y5.out (by decide) (fun _ h => M4.out.apart (.inr (Nat.le_refl _)) h) (by decide)).mono ?_
    rintro e w5 ⟨rfl, v5, r1, r2, r3⟩
    have M6 := Lib.hid (M5.out.step r1 r2 r3)
    have e6 : Hid (([] ++ (beN 65535 2 ++ l5)).length = 65537) := by
      show _ = _
      rw [List.nil_append, List.length_append, beN_length _ _ (by decide), HL5.out]
    clear r1 r2 r3 M5 Y5 M4 HS5 HL5
    go_wp2_with fail
    refine (wout_N w.heap.size v5 _ 65537 _ M6.out.wr (by decide) e6.out).mono ?_
    rintro e w6 ⟨rfl, r1, r2⟩
    have F6 : Hid (Fr (fun _ => False) w w6) := M6.out.fr.trans r2
    clear r1 r2 M6 e6
    go_wp2_with fail
    have L7 := Lib.hid (Sl.lit' w6 [128, 0, 0, 0, 0, 0, 0, 0] #[.int .u8 128, .int .u8 0, .int .u8 0, .int .u8 0, .int .u8 0, .int .u8 0, .int .u8 0, .int .u8 0] 8 rfl rfl rfl rfl)
    refine (new_any _ _ 8 8 _ _ L7.out (by decide)).mono ?_
    rintro e w7 ⟨p7, q7, rfl, r1, r2, r3, r4⟩
    have H7 : Hid (Read (w6.alloc (.cells #[.int .u8 128, .int .u8 0, .int .u8 0, .int .u8 0, .int .u8 0, .int .u8 0, .int .u8 0, .int .u8 0] 5)) p7 q7 [128, 0, 0, 0, 0, 0, 0, 0] w7) := ⟨r1, r4, r2, r3⟩
    have F7 : Hid (Fr (fun _ => False) w w7) := (F6.out.alloc _).trans r4
    clear r1 r2 r3 r4 L7 F6
    go_wp2_with fail
    refine (get_hi p7 q7 _ w7 H7.out.rd (by decide) (by decide)).mono ?_
    rintro e w8 ⟨rfl, r1, r2⟩
    have H8 := Lib.hid (H7.out.quiet r2)
    have z8 : w.heap.size ≤ w8.heap.size := Nat.le_trans F7.out.size r2.size
    have F8 := Lib.hid (F7.out.trans r2)
    clear r1 r2 H7 F7
    go_wp2_with fail
    have L9 := Lib.hid (Sl.lit' w8 [127, 255, 255, 255, 255, 255, 255, 255] #[.int .u8 127, .int .u8 255, .int .u8 255, .int .u8 255, .int .u8 255, .int .u8 255, .int .u8 255, .int .u8 255] 8 rfl rfl rfl rfl)
    refine (new_any2 _ _ 8 8 _ _ L9.out (by decide)).mono ?_
    rintro e w9 ⟨p9, q9, rfl, r1, r2, r3, r4, b1, b2⟩
    have R9 : Hid (Rd w9 p9 q9 [127, 255, 255, 255, 255, 255, 255, 255]) := r1
    have H9 := Lib.hid ((H8.out.quiet ((Fr.refl _ _).alloc _)).quiet r4)
    have F9 : Hid (Fr (fun _ => False) w w9) := (F8.out.alloc _).trans r4
    have lo9 : w8.heap.size + 1 ≤ p9 := by simpa using r2
    have z9 : w.heap.size ≤ w9.heap.size := F9.out.size
    have k9 : Hid (p7 < w8.heap.size ∧ q7 < w8.heap.size) := ⟨heap_lt H8.out.rd.choose_spec.1, H8.out.rd.choose_spec.2.1.lt (by decide)⟩
    clear r1 r2 r3 r4 L9 F8 H8
    go_wp2_with fail
    refine (get_whole p9 q9 _ 8 9223372036854775807 w9 R9.out (by decide) (by decide) rfl (by decide) (by decide)).mono ?_
    rintro e w10 ⟨rfl, r1, r2⟩
    have H10 : Hid (Rd w10 p7 q7 [128, 0, 0, 0, 0, 0, 0, 0]) := H9.out.rd.keep r2 (fun e => by have := k9.out; omega) (fun _ e => by have := k9.out; omega)
    have F10 : Hid (Fr (fun _ => False) w w10) := F9.out.trans' r2 (fun i hi e => by omega)
    have s10 : w9.heap.size ≤ w10.heap.size := r2.size
    clear r1 r2 R9 H9 F9
    go_wp2_with fail
    have L11 := Lib.hid (Sl.lit' w10 [0, 3, 119, 136] #[.int .u8 0, .int .u8 3, .int .u8 119, .int .u8 136] 4 rfl rfl rfl rfl)
    refine (new_any2 _ _ 4 4 _ _ L11.out (by decide)).mono ?_
    rintro e w11 ⟨p, q, rfl, r1, r2, r3, r4, b3, b4⟩
    have R11 : Hid (Rd w11 p q [0, 3, 119, 136]) := r1
    have H11 := Lib.hid ((H10.out.keep ((Fr.refl (fun _ => False) _).alloc (.cells #[.int .u8 0, .int .u8 3, .int .u8 119, .int .u8 136] 5)) (fun x => x) (fun _ x => x)).keep r4 (fun x => x) (fun _ x => x))
    have F11 : Hid (Fr (fun _ => False) w w11) := (F10.out.alloc _).trans r4
    have lop : w10.heap.size + 1 ≤ p := by simpa using r2
    have hpw : w.heap.size ≤ p := by omega
    clear r1 r2 r3 r4 L11 H10 F10
    go_wp2_with fail
    refine (roct_trunc 3 p q 0 3 [119, 136] 3 w11 R11.out (by decide) (by decide) (by decide) (by decide)).mono ?_
    rintro e w12 ⟨rfl, r1, r2⟩
    have R12 : Hid (Rd w12 p q [0, 3, 119, 136]) := r1
    have H12 := Lib.hid (H11.out.keep r2 (fun e => by have := k9.out; omega) (fun _ e => by have := k9.out; omega))
    have F12 : Hid (Fr (fun _ => False) w w12) := F11.out.trans' r2 (fun i hi e => by omega)
    clear r1 r2 R11 H11 F11
    go_wp2_with fail
    refine (roct_limit 3 p q 0 3 [119, 136] 2 w12 R12.out (by decide) (by decide) (by decide)).mono ?_
    rintro e w13 ⟨rfl, r1, r2⟩
    have R13 : Hid (Rd w13 p q [0, 3, 119, 136]) := r1
    have H13 := Lib.hid (H12.out.keep r2 (fun e => by have := k9.out; omega) (fun _ e => by have := k9.out; omega))
    have F13 : Hid (Fr (fun _ => False) w w13) := F12.out.trans' r2 (fun i hi e => by omega)
    clear r1 r2 R12 H12 F12
    go_wp2_with fail
    refine (roct_limit 3 p q 0 3 [119, 136] (-1) w13 R13.out (by decide) (by decide) (by decide)).mono ?_
    rintro e w14 ⟨rfl, r1, r2⟩
    have R14 : Hid (Rd w14 p q [0, 3, 119, 136]) := r1
    have H14 := Lib.hid (H13.out.keep r2 (fun e => by have := k9.out; omega) (fun _ e => by have := k9.out; omega))
    have F14 : Hid (Fr (fun _ => False) w w14) := F13.out.trans' r2 (fun i hi e => by omega)
    clear r1 r2 R13 H13 F13
    go_wp2_with fail
    refine (rbytes_neg p q _ (-1) w14 R14.out (by decide)).mono ?_
    rintro e wz ⟨rfl, rfl⟩
    go_wp2_with fail
    refine (rbytes_trunc p q _ 5 w14 R14.out (by decide) (by decide)).mono ?_
    rintro e wz ⟨rfl, rfl⟩
    go_wp2_with fail
    refine (get_arg p q _ 0 w14 R14.out (by decide)).mono ?_
    rintro e wz ⟨rfl, rfl⟩
    go_wp2_with fail
    refine (get_arg p q _ 9 w14 R14.out (by decide)).mono ?_
    rintro e wz ⟨rfl, rfl⟩
    go_wp2_with fail
    refine (get_trunc p q _ 5 w14 R14.out (by decide) (by decide) (by decide)).mono ?_
    rintro e wz ⟨rfl, rfl⟩
    go_wp2_with fail
    refine (end_some p q 0 [3, 119, 136] w14 R14.out).mono ?_
    rintro e wz ⟨rfl, rfl⟩
    go_wp2_with fail
    refine (rbytes_ok2 p q _ 4 w14 R14.out (by decide) (by decide)).mono ?_
    rintro e w20 ⟨q20, rfl, r1, r2, r3, r4, b5, r5⟩
    have X20 : Hid (Sl w20 q20 (.slice (some ⟨q20, 0, none⟩) 4 4) [0, 3, 119, 136]) := r1
    have R20 : Hid (Rd w20 p q []) := r3
    have H20 := Lib.hid (H14.out.keep r4 (fun e => by have := k9.out; omega) (fun _ e => by have := k9.out; omega))
    have F20 : Hid (Fr (fun _ => False) w w20) := F14.out.trans' r4 (fun i hi e => by omega)
    have n20 : q20 ≠ p := by have := heap_lt R14.out.choose_spec.1; omega
    clear r1 r2 r3 r4 r5 R14 H14 F14
    go_wp2_with fail
    refine (roct_short p q [] 9 w20 R20.out (by decide)).mono ?_
    rintro e w21 ⟨rfl, r1, r2⟩
    have R21 : Hid (Rd w21 p q []) := r1
    have X21 := Lib.hid (X20.out.fr r2 (fun _ => n20))
    have H21 := Lib.hid (H20.out.keep r2 (fun e => by have := k9.out; omega) (fun _ e => by have := k9.out; omega))
    have F21 : Hid (Fr (fun _ => False) w w21) := F20.out.trans' r2 (fun i hi e => by omega)
    clear r1 r2 R20 X20 H20 F20
    go_wp2_with fail
    refine (left_N p7 q7 8 _ w21 H21.out rfl).mono ?_
    rintro e wz ⟨rfl, rfl⟩
    go_wp2_with fail
    have L22 := Lib.hid (Sl.lit' w21 [0, 3, 119, 136] #[.int .u8 0, .int .u8 3, .int .u8 119, .int .u8 136] 4 rfl rfl rfl rfl)
    have F22 : Hid (Fr (fun _ => False) w21 (w21.alloc (.cells #[.int .u8 0, .int .u8 3, .int .u8 119, .int .u8 136] 5))) := (Fr.refl _ _).alloc _
    refine (eqBytes_at q20 _ _ _ 4 4 4 4 [0, 3, 119, 136] _ (X21.out.fr F22.out (fun _ x => x)) L22.out).mono ?_
    rintro e w23 ⟨rfl, r1⟩
    have R23 := Lib.hid ((R21.out.keep F22.out (fun x => x) (fun _ x => x)).keep r1 (fun x => x) (fun _ x => x))
    have F23 := Lib.hid ((F21.out.trans F22.out).trans r1)
    clear r1 R21 X21 H21 F21 F22 L22
    go_wp2_with fail
    refine (end_nil p q w23 R23.out).mono ?_
    rintro e wz ⟨rfl, rfl⟩
    clear R23
    go_wp2_with fail
    refine wp_loop_rounds 3 ?_
    rw [rounds_succ]
    go_wp2_with fail
    refine (get_none (.pointer none) 0 _ (.inl rfl)).mono ?_
    rintro e wz ⟨rfl, rfl⟩
    go_wp2_with fail
    refine (rbytes_none (.pointer none) (-1) _ (.inl rfl)).mono ?_
    rintro e wz ⟨rfl, rfl⟩
    go_wp2_with fail
    refine (roct_none (.pointer none) (-1) _ (.inl rfl)).mono ?_
    rintro e w24 ⟨rfl, r1⟩
    have F24 : Hid (Fr (fun _ => False) w w24) := F23.out.trans r1
    clear r1
    go_wp2_with fail
    refine (put_none (.pointer none) (-1) 0 _ (.inl rfl)).mono ?_
    rintro e wz ⟨rfl, rfl⟩
    go_wp2_with fail
    refine (wbytes_none (.pointer none) _ _ (.inl rfl)).mono ?_
    rintro e wz ⟨rfl, rfl⟩
    go_wp2_with fail
    refine (woctets_none (.pointer none) _ _ (.inl rfl)).mono ?_
    rintro e wz ⟨rfl, rfl⟩
    go_wp2_with fail
    refine (wout_none (.pointer none) _ (.inl rfl)).mono ?_
    rintro e wz ⟨rfl, rfl⟩
    go_wp2_with fail
    refine (left_none (.pointer none) _ (.inl rfl)).mono ?_
    rintro e wz ⟨rfl, rfl⟩
    go_wp2_with fail
    refine (end_none (.pointer none) _ (.inl rfl)).mono ?_
    rintro e wz ⟨rfl, rfl⟩
    go_wp2_with fail
    rw [rounds_succ]
    go_wp2_with fail
    obtain ⟨_, hW1, hW2⟩ := heap3 w24 (.cells Z6 5) (.cells #[.bool false, .slice none 0 0] 60) (.cells #[.bool false, .slice none 0 0] 61)
    have A34 : Hid (NoneAt (((w24.alloc (.cells Z6 5)).alloc (.cells #[.bool false, .slice none 0 0] 60)).alloc (.cells #[.bool false, .slice none 0 0] 61)) (.pointer (some ⟨w24.heap.size + 1, 0, none⟩))) := .inr ⟨_, rfl, by rw [cell_of_row _ _ 0 _ _ _ hW1]; rfl⟩
    have A35 : Hid (NoneAt (((w24.alloc (.cells Z6 5)).alloc (.cells #[.bool false, .slice none 0 0] 60)).alloc (.cells #[.bool false, .slice none 0 0] 61)) (.pointer (some ⟨w24.heap.size + 1 + 1, 0, none⟩))) := .inr ⟨_, rfl, by rw [cell_of_row _ _ 0 _ _ _ hW2]; rfl⟩
    have F25 : Hid (Fr (fun _ => False) w (((w24.alloc (.cells Z6 5)).alloc (.cells #[.bool false, .slice none 0 0] 60)).alloc (.cells #[.bool false, .slice none 0 0] 61))) := ((F24.out.alloc _).alloc _).alloc _
    clear hW1 hW2 F24
    generalize ((w24.alloc (.cells Z6 5)).alloc (.cells #[.bool false, .slice none 0 0] 60)).alloc (.cells #[.bool false, .slice none 0 0] 61) = w25 at *
    refine (get_none _ 0 _ A35.out).mono ?_
    rintro e wz ⟨rfl, rfl⟩
    go_wp2_with fail
    refine (rbytes_none _ (-1) _ A35.out).mono ?_
    rintro e wz ⟨rfl, rfl⟩
    go_wp2_with fail
    refine (roct_none _ (-1) _ A35.out).mono ?_
    rintro e w26 ⟨rfl, r1⟩
    have F26 : Hid (Fr (fun _ => False) w w26) := F25.out.trans r1
    have B34 := Lib.hid (A34.out.keep r1)
    have B35 := Lib.hid (A35.out.keep r1)
    clear r1 A34 A35 F25
    go_wp2_with fail
    refine (put_none _ (-1) 0 _ B34.out).mono ?_
    rintro e wz ⟨rfl, rfl⟩
    go_wp2_with fail
    refine (wbytes_none _ _ _ B34.out).mono ?_
    rintro e wz ⟨rfl, rfl⟩
    go_wp2_with fail
    have D34 : Hid (NoneAt (w26.alloc (.cells Z6 5)) _) := B34.out.keep ((Fr.refl _ _).alloc _)
    have D35 : Hid (NoneAt (w26.alloc (.cells Z6 5)) _) := B35.out.keep ((Fr.refl _ _).alloc _)
    refine (woctets_none _ _ _ D34.out).mono ?_
    rintro e wz ⟨rfl, rfl⟩
    go_wp2_with fail
    refine (wout_none _ _ D34.out).mono ?_
    rintro e wz ⟨rfl, rfl⟩
    go_wp2_with fail
    refine (left_none _ _ D35.out).mono ?_
    rintro e wz ⟨rfl, rfl⟩
    go_wp2_with fail
    refine (end_none _ _ D35.out).mono ?_
    rintro e wz ⟨rfl, rfl⟩
    clear B34 B35 D34 D35
    go_wp2_with fail
    rw [rounds_succ]
    go_wp2_with fail
    refine (works_any _).mono ?_
    rintro e w27 ⟨rfl, r1⟩
    have F27 : Hid (Fr (fun _ => False) w w27) := (((F26.out.alloc _).alloc _).alloc _).trans r1
    clear r1
    go_wp2_with fail
    go_ret
    exact ⟨rfl, F27.out⟩
end Go.Proofs.Ytkkicekhkidhjaa
