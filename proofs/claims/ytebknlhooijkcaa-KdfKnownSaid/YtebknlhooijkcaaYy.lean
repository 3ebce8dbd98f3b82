/- The program's Two, Three: contracts. Conditions: a chain of 32 bytes, slices that lie in memory, lengths below 2^47. -/
import Derived.Test.YtebknlhooijkcaaYx
import Derived.Laws.Cover3
namespace Go.Proofs.Ytebknlhooijkcaa
set_option linter.unusedSimpArgs false
set_option linter.unusedVariables false
open Go.ChangeShapes Go.WideShapes Go.ChangeAt Go.RowKit


theorem exs2 (k b : List Int) : (exs k b ((64 + 31) / 32)).take 64 = ex k b 1 ++ ex k b 2 := by
  rw [show (64 + 31) / 32 = 2 from rfl, List.take_of_length_le (by rw [exs_length]; decide), exs, exs, exs, List.nil_append]
theorem exs3 (k b : List Int) : (exs k b ((96 + 31) / 32)).take 96 = (ex k b 1 ++ ex k b 2) ++ ex k b 3 := by
  rw [show (96 + 31) / 32 = 3 from rfl, List.take_of_length_le (by rw [exs_length]; decide), exs, exs, exs, exs, List.nil_append]
theorem zeroKY : ∀ W : World, (zeroValue 32).run Try.prog W = .ok (.agg (vs .u8 (List.replicate 32 0))) W := fun _ => by kernel_rfl
theorem szKY : (Try.prog.info? 32).map (·.size) = some 32 := by kernel_rfl
theorem app_l {l m : List Int} {j : Nat} {x : Int} (h : l[j]? = some x) : (l ++ m)[0 + j]? = some x := by
  rw [Nat.zero_add, List.getElem?_append_left (List.getElem?_eq_some_iff.1 h).1]; exact h
theorem app_r {l m : List Int} {j n : Nat} {x : Int} (hl : l.length = n) (h : m[j]? = some x) : (l ++ m)[n + j]? = some x := by
  rw [List.getElem?_append_right (by omega), hl, show n + j - n = j by omega]; exact h
theorem calm3r {w : World} {A B C : Obj} {W0 : World} (h : ((w.alloc A).alloc B).alloc C = W0) : W0.heap[w.heap.size]? = some A ∧ W0.heap[w.heap.size + 1]? = some B ∧ W0.heap[w.heap.size + 2]? = some C ∧ Fr (fun _ => False) w W0 := by
  subst h
  have h1 := calm2 (w := w) (A := A) (B := B) rfl
  refine ⟨?_, ?_, ?_, (h1.2.2).alloc _⟩
  · exact (Below.heap_alloc _ _ _ (heap_lt h1.1)).trans h1.1
  · exact (Below.heap_alloc _ _ _ (heap_lt h1.2.1)).trans h1.2.1
  · have e := heap_alloc_new ((w.alloc A).alloc B) C
    have es : ((w.alloc A).alloc B).heap.size = w.heap.size + 2 := by
      show ((w.heap.push A).push B).size = _
      rw [Array.size_push, Array.size_push]
    rwa [es] at e
theorem calm4r {w : World} {A B C D : Obj} {W0 : World} (h : (((w.alloc A).alloc B).alloc C).alloc D = W0) : W0.heap[w.heap.size]? = some A ∧ W0.heap[w.heap.size + 1]? = some B ∧ W0.heap[w.heap.size + 2]? = some C ∧ W0.heap[w.heap.size + 3]? = some D ∧ Fr (fun _ => False) w W0 := by
  subst h
  obtain ⟨h1, h2, h3, h4⟩ := calm3r (w := w) (A := A) (B := B) (C := C) rfl
  refine ⟨?_, ?_, ?_, ?_, h4.alloc _⟩
  · exact (Below.heap_alloc _ _ _ (heap_lt h1)).trans h1
  · exact (Below.heap_alloc _ _ _ (heap_lt h2)).trans h2
  · exact (Below.heap_alloc _ _ _ (heap_lt h3)).trans h3
  · have e := heap_alloc_new (((w.alloc A).alloc B).alloc C) D
    have es : (((w.alloc A).alloc B).alloc C).heap.size = w.heap.size + 3 := by
      show (((w.heap.push A).push B).push C).size = _
      rw [Array.size_push, Array.size_push, Array.size_push]
    rwa [es] at e

set_option maxRecDepth 100000 in
set_option maxHeartbeats 16000000 in
theorem ktwo_is (ch : List Int) (g2 : Nat) (A2 : Option Addr) (m2 c2 : Nat) (b : List Int) (w : World) (lc : ch.length = 32) (bc : Bys ch) (h2 : Sl w g2 (.slice A2 m2 c2) b) (hm2 : m2 ≤ 140737488355328) :
    Calls Try.prog 20 #[.agg (vs .u8 ch), .slice A2 m2 c2] w fun e w' => e = .returned (.tuple #[.agg (vs .u8 (ex (ext ch b) [] 1)), .agg (vs .u8 (ex (ext ch b) [] 2))]) ∧ Fr (fun _ => False) w w' := by
  obtain ⟨K, hK⟩ : ∃ K, K = ext ch b := ⟨_, rfl⟩
  obtain ⟨E1, hE1⟩ : ∃ E, E = ex K [] 1 := ⟨_, rfl⟩
  have l1 : Hid (E1.length = 32 ∧ Bys E1) := by rw [hE1]; exact ⟨ex_length _ _ _, ex_bys _ _ _⟩
  have s1 : Hid ((Try.prog.info? 32).map (·.size) = some (vs .u8 E1).size) := by show _ = _; rw [szKY, vs_size, l1.out.1]
  have q1 : Hid ((Try.prog.info? 32).map (·.size) = some E1.length) := by show _ = _; rw [szKY, l1.out.1]
  obtain ⟨E2, hE2⟩ : ∃ E, E = ex K [] 2 := ⟨_, rfl⟩
  have l2 : Hid (E2.length = 32 ∧ Bys E2) := by rw [hE2]; exact ⟨ex_length _ _ _, ex_bys _ _ _⟩
  have s2 : Hid ((Try.prog.info? 32).map (·.size) = some (vs .u8 E2).size) := by show _ = _; rw [szKY, vs_size, l2.out.1]
  have q2 : Hid ((Try.prog.info? 32).map (·.size) = some E2.length) := by show _ = _; rw [szKY, l2.out.1]
  have CX : ∀ W bx, Fr (fun _ => False) w W → Ar W bx 32 .u8 ch → Calls Try.prog 16 #[.slice (some ⟨bx, 0, none⟩) 32 32, .slice A2 m2 c2] W fun e w' => e = .returned (.agg (vs .u8 K)) ∧ Fr (fun _ => False) W w' := fun W bx hf ha => by
    rw [hK]
    exact kextract_is bx _ 32 32 ch g2 A2 m2 c2 b W (ha.slt bc lc (by decide)) (by decide) (h2.fr hf (fun _ x => x)) hm2
  obtain ⟨L, hL⟩ : ∃ L, L = E1 ++ E2 := ⟨_, rfl⟩
  have lL : Hid (L.length = 64) := by show _ = _; rw [hL]; simp only [List.length_append, l1.out.1, l2.out.1]
  have CP : ∀ W, Calls Try.prog 30 #[.agg (vs .u8 K), .slice none 0 0, .int .i64 64] W fun e w' => ∃ v, e = .returned v ∧ Nw W w' v L ∧ Fr (fun _ => False) W w' := fun W => by
    have e := expanded_is K 0 none 0 0 [] 64 W (by rw [hK]; exact ext_length _ _) (by rw [hK]; exact ext_bys _ _) (Sl.nil _ _) (by decide) (by decide)
    rw [exs2, ← hE1, ← hE2, ← hL] at e
    exact e
  have P1 : ∀ j x, E1[j]? = some x → L[0 + j]? = some x := fun j x hx => by rw [hL]; exact app_l hx
  have P2 : ∀ j x, E2[j]? = some x → L[32 + j]? = some x := fun j x hx => by rw [hL]; exact app_r l1.out.1 hx
  obtain ⟨Z, hZ⟩ : ∃ Z, Z = List.replicate 32 (0 : Int) := ⟨_, rfl⟩
  have hz : ∀ W : World, (zeroValue 32).run Try.prog W = .ok (.agg (vs .u8 Z)) W := fun W => by rw [hZ]; exact zeroKY W
  have e1 : Hid ((vs .u8 Z).size = (vs .u8 E1).size) := by show _ = _; rw [vs_size, vs_size, l1.out.1, hZ]; rfl
  have e2 : Hid ((vs .u8 Z).size = (vs .u8 E2).size) := by show _ = _; rw [vs_size, vs_size, l2.out.1, hZ]; rfl
  rw [← hK, ← hE1, ← hE2]
  clear hK hE1 hE2 hL hZ lc bc h2 hm2
  go_enter Try.func20, Try.ntmps20
  go_upto_region 1 with (fail)
  obtain ⟨bx, hbx⟩ : ∃ x, x = w.heap.size := ⟨_, rfl⟩
  obtain ⟨r1, hr1⟩ : ∃ x, x = w.heap.size + 1 := ⟨_, rfl⟩
  obtain ⟨r2, hr2⟩ : ∃ x, x = w.heap.size + 2 := ⟨_, rfl⟩
  try rw [show w.heap.size + 1 + 1 = w.heap.size + 2 from rfl]
  rw [← hr1, ← hr2, ← hbx]
  generalize hW : ((w.alloc (.cells (vs .u8 ch) 32)).alloc (.cells (vs .u8 Z) 32)).alloc (.cells (vs .u8 Z) 32) = W0
  have HW := calm3r hW
  rw [← hr1, ← hr2, ← hbx] at HW
  have C0 : Hid (Ar W0 bx 32 .u8 ch) := HW.1
  have R1 : Hid (Ar W0 r1 32 .u8 Z) := HW.2.1
  have R2 : Hid (Ar W0 r2 32 .u8 Z) := HW.2.2.1
  have F0 : Hid (Fr (fun _ => False) w W0) := HW.2.2.2
  have NR : Hid (w.heap.size ≤ r1 ∧ r1 < r2) := by show _ ∧ _; omega
  clear HW hW hbx hr1 hr2 hz
  try simp only [Act.put, List.setIfInBounds_toArray, List.set_cons_succ, List.set_cons_zero]
  go_upto_region 2 with (first
    | (go_at_call 16; refine (CX _ bx F0.out C0.out).mono ?_; rintro e w1 ⟨rfl, hf⟩; have F1 := Lib.hid hf; clear hf)
    | (go_at_call 30; refine (CP _).mono ?_; rintro e w2 ⟨v, rfl, hn, hf⟩; obtain ⟨g, c, rfl, hg, hc, hs⟩ := hn.open (by rw [lL.out]; decide); rw [lL.out] at hs hc ⊢; have G2 := Lib.hid hg; have HC := Lib.hid hc; have S2 := Lib.hid hs; have F2 := Lib.hid (F1.out.trans hf); clear hn hf hg hc hs))
  have Q1 := Lib.hid (R1.out.fr F2.out (fun x => x))
  have Q2 := Lib.hid (R2.out.fr F2.out (fun x => x))
  have H2 := Lib.hid (F0.out.trans F2.out)
  have NG : Hid (r1 < g ∧ r2 < g) := by
    have h0 := G2.out
    have h9 := F1.out.size
    have h1 := R1.out.lt
    have h2 := R2.out.lt
    show _ ∧ _; omega
  have RA1 := Lib.hid (range_at S2.out lL.out P1)
  have RA2 := Lib.hid (range_at S2.out lL.out P2)
  clear R1 R2 C0 F0 F1 F2 CX CP S2 P1 P2
  have HC2 := HC.out
  have ca1 := cutA_at g c 32 (by omega) (by decide)
  have NN := NR.out
  obtain ⟨WW, hWW⟩ : ∃ W, W = w2 := ⟨_, rfl⟩
  refine wp_region_inv2 (fun b a w' => Fr (fun j => j = r1 ∨ j = r2) w2 w' ∧ Ar w' (r1) 32 .u8 (if b 8 = true then E1 else Z) ∧ Ar w' (r2) 32 .u8 (if b 9 = true then E2 else Z) ∧ a = ⟨#[Value.agg (vs IntKind.u8 ch), Value.slice A2 m2 c2, Value.pointer (some { block := bx, off := 0 }), undef, Value.pointer (some { block := r1, off := 0 }), Value.pointer (some { block := r2, off := 0 }), Value.slice (some { block := g, off := 0 }) 64 c, Value.slice (some { block := bx, off := 0 }) 32 32, Value.slice A2 m2 c2, Value.agg (vs IntKind.u8 K), Value.slice (some { block := g, off := 0 }) 64 c, if b 0 = true then Value.slice (some { block := g, off := 0 }) 64 c else undef, if b 1 = true then .slice (some ⟨g, 0, none⟩) 32 c else undef, if b 2 = true then .pointer (some ⟨g, 0, none⟩) else undef, if b 3 = true then .agg (vs .u8 E1) else undef, if b 4 = true then Value.slice (some { block := g, off := 0 }) 64 c else undef, if b 5 = true then .slice (some ⟨g, 32, none⟩) 32 (c - 32) else undef, if b 6 = true then .pointer (some ⟨g, 32, none⟩) else undef, if b 7 = true then .agg (vs .u8 E2) else undef], []⟩) (by kernel_rfl) (by kernel_rfl) ?start2 ?step2 ?done2
  case start2 => exact ⟨⟨rfl, rfl, rfl, Nat.le_refl _, fun _ _ _ => rfl⟩, by simp only [Bool.false_eq_true, if_false]; exact Q1.out, by simp only [Bool.false_eq_true, if_false]; exact Q2.out, by simp⟩
  case step2 =>
    intro i5 o5 b a w1 ho hI hb hr hcl
    obtain ⟨hF, r8, r9, rfl⟩ := hI
    match i5, ho with
    | 0, ho =>
      injection ho with ho
      subst ho
      refine wp_quiet_here (Value.slice (some { block := g, off := 0 }) 64 c) (BigFrame.quiet_move _ rfl rfl) (fun w2 hw2 => ?_)
      refine ⟨hF.trans hw2.any, ?_, ?_, ?_⟩
      · have hh := r8.fr hw2 (fun x => x)
        simpa [upd] using hh
      · have hh := r9.fr hw2 (fun x => x)
        simpa [upd] using hh
      · simp [upd, Act.put]
    | 1, ho =>
      injection ho with ho
      subst ho
      simp [Region.binds] at hr
      have d0 : b 0 = true := by simp only [hr]
      simp only [hr, if_true]
      refine wp_quiet_here (.slice (some ⟨g, 0, none⟩) 32 c) (quiet_run _ (fun W _ => run_slice_hi (.tmp 11) _ rfl (some ⟨g, 0, none⟩) 64 c 32 32 rfl (by omega) rfl rfl W) rfl) (fun w2 hw2 => ?_)
      refine ⟨hF.trans hw2.any, ?_, ?_, ?_⟩
      · have hh := r8.fr hw2 (fun x => x)
        simpa [upd] using hh
      · have hh := r9.fr hw2 (fun x => x)
        simpa [upd] using hh
      · simp [upd, Act.put, hr]
    | 2, ho =>
      injection ho with ho
      subst ho
      simp [Region.binds] at hr
      have d1 : b 1 = true := by simp only [hr]
      simp only [hr, if_true]
      refine wp_quiet_here (.pointer (some ⟨g, 0, none⟩)) (quiet_run _ (fun W _ => run_arr 32 (.tmp 12) rfl (some ⟨g, 0, none⟩) 32 c rfl Try.underlying32 (by decide) W) rfl) (fun w2 hw2 => ?_)
      refine ⟨hF.trans hw2.any, ?_, ?_, ?_⟩
      · have hh := r8.fr hw2 (fun x => x)
        simpa [upd] using hh
      · have hh := r9.fr hw2 (fun x => x)
        simpa [upd] using hh
      · simp [upd, Act.put, hr]
    | 3, ho =>
      injection ho with ho
      subst ho
      simp [Region.binds] at hr
      have d2 : b 2 = true := by simp only [hr]
      simp only [hr, if_true]
      refine wp_quiet_here (.agg (vs .u8 E1)) (quiet_midP 32 _ (.tmp 13) rfl g 0 rfl .u8 E1 Try.underlying32 rfl q1.out (fun _ h => range_fr (range_fr RA1.out hF (show ¬ (g = r1 ∨ g = r2) by have := NG.out; omega)) h (fun x => x)) rfl) (fun w2 hw2 => ?_)
      refine ⟨hF.trans hw2.any, ?_, ?_, ?_⟩
      · have hh := r8.fr hw2 (fun x => x)
        simpa [upd] using hh
      · have hh := r9.fr hw2 (fun x => x)
        simpa [upd] using hh
      · simp [upd, Act.put, hr]
    | 4, ho =>
      injection ho with ho
      subst ho
      refine wp_quiet_here (Value.slice (some { block := g, off := 0 }) 64 c) (BigFrame.quiet_move _ rfl rfl) (fun w2 hw2 => ?_)
      refine ⟨hF.trans hw2.any, ?_, ?_, ?_⟩
      · have hh := r8.fr hw2 (fun x => x)
        simpa [upd] using hh
      · have hh := r9.fr hw2 (fun x => x)
        simpa [upd] using hh
      · simp [upd, Act.put]
    | 5, ho =>
      injection ho with ho
      subst ho
      simp [Region.binds] at hr
      have d4 : b 4 = true := by simp only [hr]
      simp only [hr, if_true]
      refine wp_quiet_here (.slice (some ⟨g, 32, none⟩) 32 (c - 32)) (quiet_run _ (fun W _ => run_slice_fromV (.tmp 15) _ (some ⟨g, 0, none⟩) 64 c 32 32 (.slice (some ⟨g, 32, none⟩) 32 (c - 32)) rfl (by rw [ca1]) (by decide) (by omega) rfl rfl rfl W) rfl) (fun w2 hw2 => ?_)
      refine ⟨hF.trans hw2.any, ?_, ?_, ?_⟩
      · have hh := r8.fr hw2 (fun x => x)
        simpa [upd] using hh
      · have hh := r9.fr hw2 (fun x => x)
        simpa [upd] using hh
      · simp [upd, Act.put, hr]
    | 6, ho =>
      injection ho with ho
      subst ho
      simp [Region.binds] at hr
      have d5 : b 5 = true := by simp only [hr]
      simp only [hr, if_true]
      refine wp_quiet_here (.pointer (some ⟨g, 32, none⟩)) (quiet_run _ (fun W _ => run_arr 32 (.tmp 16) rfl (some ⟨g, 32, none⟩) 32 (c - 32) rfl Try.underlying32 (by decide) W) rfl) (fun w2 hw2 => ?_)
      refine ⟨hF.trans hw2.any, ?_, ?_, ?_⟩
      · have hh := r8.fr hw2 (fun x => x)
        simpa [upd] using hh
      · have hh := r9.fr hw2 (fun x => x)
        simpa [upd] using hh
      · simp [upd, Act.put, hr]
    | 7, ho =>
      injection ho with ho
      subst ho
      simp [Region.binds] at hr
      have d6 : b 6 = true := by simp only [hr]
      simp only [hr, if_true]
      refine wp_quiet_here (.agg (vs .u8 E2)) (quiet_midP 32 _ (.tmp 17) rfl g 32 rfl .u8 E2 Try.underlying32 rfl q2.out (fun _ h => range_fr (range_fr RA2.out hF (show ¬ (g = r1 ∨ g = r2) by have := NG.out; omega)) h (fun x => x)) rfl) (fun w2 hw2 => ?_)
      refine ⟨hF.trans hw2.any, ?_, ?_, ?_⟩
      · have hh := r8.fr hw2 (fun x => x)
        simpa [upd] using hh
      · have hh := r9.fr hw2 (fun x => x)
        simpa [upd] using hh
      · simp [upd, Act.put, hr]
    | 8, ho =>
      injection ho with ho
      subst ho
      simp [Region.binds] at hr
      have d0 : b 0 = true := by simp only [hr]
      have d1 : b 1 = true := by simp only [hr]
      have d2 : b 2 = true := by simp only [hr]
      have d3 : b 3 = true := by simp only [hr]
      simp only [hr, if_true]
      have k2 : Ar w1 (r1) 32 .u8 Z := by
        have hh := r8
        simpa only [hb, Bool.false_eq_true, if_false] using hh
      refine wp_store_row 32 (.tmp 4) (.tmp 14) rfl (r1) (vs .u8 E1) rfl rfl 32 _ k2 s1.out e1.out (vs_all _ _) ?_
      have hfS : Fr (fun j => j = r1) w1 (w1.setRow (r1) (vs .u8 E1)) := (Fr.refl _ _).setRow _ (.inl rfl)
      refine ⟨hF.setRow _ (.inl (by simp)), ?_, ?_, ?_⟩
      · have hh := k2.row E1
        simpa [upd] using hh
      · have hh := r9.fr hfS (by omega)
        simpa [upd] using hh
      · simp [upd, Act.put, hr]
    | 9, ho =>
      injection ho with ho
      subst ho
      simp [Region.binds] at hr
      have d0 : b 0 = true := by simp only [hr]
      have d1 : b 1 = true := by simp only [hr]
      have d2 : b 2 = true := by simp only [hr]
      have d3 : b 3 = true := by simp only [hr]
      have d4 : b 4 = true := by simp only [hr]
      have d5 : b 5 = true := by simp only [hr]
      have d6 : b 6 = true := by simp only [hr]
      have d7 : b 7 = true := by simp only [hr]
      have d8 : b 8 = true := by simp only [hr]
      simp only [hr, if_true]
      have k2 : Ar w1 (r2) 32 .u8 Z := by
        have hh := r9
        simpa only [hb, Bool.false_eq_true, if_false] using hh
      refine wp_store_row 32 (.tmp 5) (.tmp 18) rfl (r2) (vs .u8 E2) rfl rfl 32 _ k2 s2.out e2.out (vs_all _ _) ?_
      have hfS : Fr (fun j => j = r2) w1 (w1.setRow (r2) (vs .u8 E2)) := (Fr.refl _ _).setRow _ (.inl rfl)
      refine ⟨hF.setRow _ (.inl (by simp)), ?_, ?_, ?_⟩
      · have hh := r8.fr hfS (by omega)
        simpa [upd] using hh
      · have hh := k2.row E2
        simpa [upd] using hh
      · simp [upd, Act.put, hr]
    | j + 10, ho => exact absurd ho (by simp)
  intro b a w9 hall hI
  obtain ⟨hF, r8, r9, rfl⟩ := hI
  have t0 : b 0 = true := hall 0 (by simp)
  have t1 : b 1 = true := hall 1 (by simp)
  have t2 : b 2 = true := hall 2 (by simp)
  have t3 : b 3 = true := hall 3 (by simp)
  have t4 : b 4 = true := hall 4 (by simp)
  have t5 : b 5 = true := hall 5 (by simp)
  have t6 : b 6 = true := hall 6 (by simp)
  have t7 : b 7 = true := hall 7 (by simp)
  have t8 : b 8 = true := hall 8 (by simp)
  have t9 : b 9 = true := hall 9 (by simp)
  simp only [t0, t1, t2, t3, t4, t5, t6, t7, t8, t9, if_true]
  simp only [t8, if_true] at r8
  have Q8 := Lib.hid r8
  simp only [t9, if_true] at r9
  have Q9 := Lib.hid r9
  have G9 := Lib.hid hF
  clear hall hF r8 r9 t0 t1 t2 t3 t4 t5 t6 t7 t8 t9
  have F9 : Hid (Fr (fun _ => False) w w9) := H2.out.trans' G9.out (fun j hj e => by have := NR.out; omega)
  go_wp2
  refine bodyPost_ret (results_two_rows Try.results20 _ _ r1 r2 32 32 (vs .u8 E1) (vs .u8 E2) (0, 0) (0, 0) _ _ rfl Q8.out Try.underlying32 rfl s1.out rfl Q9.out Try.underlying32 rfl s2.out) rfl ⟨rfl, F9.out⟩

set_option maxRecDepth 100000 in
set_option maxHeartbeats 16000000 in
theorem kthree_is (ch : List Int) (g2 : Nat) (A2 : Option Addr) (m2 c2 : Nat) (b : List Int) (w : World) (lc : ch.length = 32) (bc : Bys ch) (h2 : Sl w g2 (.slice A2 m2 c2) b) (hm2 : m2 ≤ 140737488355328) :
    Calls Try.prog 22 #[.agg (vs .u8 ch), .slice A2 m2 c2] w fun e w' => e = .returned (.tuple #[.agg (vs .u8 (ex (ext ch b) [] 1)), .agg (vs .u8 (ex (ext ch b) [] 2)), .agg (vs .u8 (ex (ext ch b) [] 3))]) ∧ Fr (fun _ => False) w w' := by
  obtain ⟨K, hK⟩ : ∃ K, K = ext ch b := ⟨_, rfl⟩
  obtain ⟨E1, hE1⟩ : ∃ E, E = ex K [] 1 := ⟨_, rfl⟩
  have l1 : Hid (E1.length = 32 ∧ Bys E1) := by rw [hE1]; exact ⟨ex_length _ _ _, ex_bys _ _ _⟩
  have s1 : Hid ((Try.prog.info? 32).map (·.size) = some (vs .u8 E1).size) := by show _ = _; rw [szKY, vs_size, l1.out.1]
  have q1 : Hid ((Try.prog.info? 32).map (·.size) = some E1.length) := by show _ = _; rw [szKY, l1.out.1]
  obtain ⟨E2, hE2⟩ : ∃ E, E = ex K [] 2 := ⟨_, rfl⟩
  have l2 : Hid (E2.length = 32 ∧ Bys E2) := by rw [hE2]; exact ⟨ex_length _ _ _, ex_bys _ _ _⟩
  have s2 : Hid ((Try.prog.info? 32).map (·.size) = some (vs .u8 E2).size) := by show _ = _; rw [szKY, vs_size, l2.out.1]
  have q2 : Hid ((Try.prog.info? 32).map (·.size) = some E2.length) := by show _ = _; rw [szKY, l2.out.1]
  obtain ⟨E3, hE3⟩ : ∃ E, E = ex K [] 3 := ⟨_, rfl⟩
  have l3 : Hid (E3.length = 32 ∧ Bys E3) := by rw [hE3]; exact ⟨ex_length _ _ _, ex_bys _ _ _⟩
  have s3 : Hid ((Try.prog.info? 32).map (·.size) = some (vs .u8 E3).size) := by show _ = _; rw [szKY, vs_size, l3.out.1]
  have q3 : Hid ((Try.prog.info? 32).map (·.size) = some E3.length) := by show _ = _; rw [szKY, l3.out.1]
  have CX : ∀ W bx, Fr (fun _ => False) w W → Ar W bx 32 .u8 ch → Calls Try.prog 16 #[.slice (some ⟨bx, 0, none⟩) 32 32, .slice A2 m2 c2] W fun e w' => e = .returned (.agg (vs .u8 K)) ∧ Fr (fun _ => False) W w' := fun W bx hf ha => by
    rw [hK]
    exact kextract_is bx _ 32 32 ch g2 A2 m2 c2 b W (ha.slt bc lc (by decide)) (by decide) (h2.fr hf (fun _ x => x)) hm2
  obtain ⟨L, hL⟩ : ∃ L, L = (E1 ++ E2) ++ E3 := ⟨_, rfl⟩
  have lL : Hid (L.length = 96) := by show _ = _; rw [hL]; simp only [List.length_append, l1.out.1, l2.out.1, l3.out.1]
  have CP : ∀ W, Calls Try.prog 30 #[.agg (vs .u8 K), .slice none 0 0, .int .i64 96] W fun e w' => ∃ v, e = .returned v ∧ Nw W w' v L ∧ Fr (fun _ => False) W w' := fun W => by
    have e := expanded_is K 0 none 0 0 [] 96 W (by rw [hK]; exact ext_length _ _) (by rw [hK]; exact ext_bys _ _) (Sl.nil _ _) (by decide) (by decide)
    rw [exs3, ← hE1, ← hE2, ← hE3, ← hL] at e
    exact e
  have P1 : ∀ j x, E1[j]? = some x → L[0 + j]? = some x := fun j x hx => by rw [hL]; have h := app_l (m := E2) hx; rw [Nat.zero_add] at h; exact app_l h
  have P2 : ∀ j x, E2[j]? = some x → L[32 + j]? = some x := fun j x hx => by rw [hL]; have h := app_r (l := E1) l1.out.1 hx; have h2 := app_l (m := E3) h; rw [Nat.zero_add] at h2; exact h2
  have P3 : ∀ j x, E3[j]? = some x → L[64 + j]? = some x := fun j x hx => by rw [hL]; exact app_r (by rw [List.length_append, l1.out.1, l2.out.1]) hx
  obtain ⟨Z, hZ⟩ : ∃ Z, Z = List.replicate 32 (0 : Int) := ⟨_, rfl⟩
  have hz : ∀ W : World, (zeroValue 32).run Try.prog W = .ok (.agg (vs .u8 Z)) W := fun W => by rw [hZ]; exact zeroKY W
  have e1 : Hid ((vs .u8 Z).size = (vs .u8 E1).size) := by show _ = _; rw [vs_size, vs_size, l1.out.1, hZ]; rfl
  have e2 : Hid ((vs .u8 Z).size = (vs .u8 E2).size) := by show _ = _; rw [vs_size, vs_size, l2.out.1, hZ]; rfl
  have e3 : Hid ((vs .u8 Z).size = (vs .u8 E3).size) := by show _ = _; rw [vs_size, vs_size, l3.out.1, hZ]; rfl
  rw [← hK, ← hE1, ← hE2, ← hE3]
  clear hK hE1 hE2 hE3 hL hZ lc bc h2 hm2
  go_enter Try.func22, Try.ntmps22
  go_upto_region 1 with (fail)
  obtain ⟨bx, hbx⟩ : ∃ x, x = w.heap.size := ⟨_, rfl⟩
  obtain ⟨r1, hr1⟩ : ∃ x, x = w.heap.size + 1 := ⟨_, rfl⟩
  obtain ⟨r2, hr2⟩ : ∃ x, x = w.heap.size + 2 := ⟨_, rfl⟩
  obtain ⟨r3, hr3⟩ : ∃ x, x = w.heap.size + 3 := ⟨_, rfl⟩
  try rw [show w.heap.size + 1 + 1 + 1 = w.heap.size + 3 from rfl]
  try rw [show w.heap.size + 1 + 1 = w.heap.size + 2 from rfl]
  rw [← hr1, ← hr2, ← hr3, ← hbx]
  generalize hW : (((w.alloc (.cells (vs .u8 ch) 32)).alloc (.cells (vs .u8 Z) 32)).alloc (.cells (vs .u8 Z) 32)).alloc (.cells (vs .u8 Z) 32) = W0
  have HW := calm4r hW
  rw [← hr1, ← hr2, ← hr3, ← hbx] at HW
  have C0 : Hid (Ar W0 bx 32 .u8 ch) := HW.1
  have R1 : Hid (Ar W0 r1 32 .u8 Z) := HW.2.1
  have R2 : Hid (Ar W0 r2 32 .u8 Z) := HW.2.2.1
  have R3 : Hid (Ar W0 r3 32 .u8 Z) := HW.2.2.2.1
  have F0 : Hid (Fr (fun _ => False) w W0) := HW.2.2.2.2
  have NR : Hid (w.heap.size ≤ r1 ∧ r1 < r2 ∧ r2 < r3) := by show _ ∧ _ ∧ _; omega
  clear HW hW hbx hr1 hr2 hr3 hz
  try simp only [Act.put, List.setIfInBounds_toArray, List.set_cons_succ, List.set_cons_zero]
  go_upto_region 2 with (first
    | (go_at_call 16; refine (CX _ bx F0.out C0.out).mono ?_; rintro e w1 ⟨rfl, hf⟩; have F1 := Lib.hid hf; clear hf)
    | (go_at_call 30; refine (CP _).mono ?_; rintro e w2 ⟨v, rfl, hn, hf⟩; obtain ⟨g, c, rfl, hg, hc, hs⟩ := hn.open (by rw [lL.out]; decide); rw [lL.out] at hs hc ⊢; have G2 := Lib.hid hg; have HC := Lib.hid hc; have S2 := Lib.hid hs; have F2 := Lib.hid (F1.out.trans hf); clear hn hf hg hc hs))
  have Q1 := Lib.hid (R1.out.fr F2.out (fun x => x))
  have Q2 := Lib.hid (R2.out.fr F2.out (fun x => x))
  have Q3 := Lib.hid (R3.out.fr F2.out (fun x => x))
  have H2 := Lib.hid (F0.out.trans F2.out)
  have NG : Hid (r1 < g ∧ r2 < g ∧ r3 < g) := by
    have h0 := G2.out
    have h9 := F1.out.size
    have h1 := R1.out.lt
    have h2 := R2.out.lt
    have h3 := R3.out.lt
    show _ ∧ _ ∧ _; omega
  have RA1 := Lib.hid (range_at S2.out lL.out P1)
  have RA2 := Lib.hid (range_at S2.out lL.out P2)
  have RA3 := Lib.hid (range_at S2.out lL.out P3)
  clear R1 R2 R3 C0 F0 F1 F2 CX CP S2 P1 P2 P3
  have HC2 := HC.out
  have ca1 := cutA_at g c 32 (by omega) (by decide)
  have ca2 := cutA_at g c 64 (by omega) (by decide)
  have NN := NR.out
  obtain ⟨WW, hWW⟩ : ∃ W, W = w2 := ⟨_, rfl⟩
  refine wp_region_inv2 (fun b a w' => Fr (fun j => j = r1 ∨ j = r2 ∨ j = r3) w2 w' ∧ Ar w' (r1) 32 .u8 (if b 12 = true then E1 else Z) ∧ Ar w' (r2) 32 .u8 (if b 13 = true then E2 else Z) ∧ Ar w' (r3) 32 .u8 (if b 14 = true then E3 else Z) ∧ a = ⟨#[Value.agg (vs IntKind.u8 ch), Value.slice A2 m2 c2, Value.pointer (some { block := bx, off := 0 }), undef, Value.pointer (some { block := r1, off := 0 }), Value.pointer (some { block := r2, off := 0 }), Value.pointer (some { block := r3, off := 0 }), Value.slice (some { block := g, off := 0 }) 96 c, Value.slice (some { block := bx, off := 0 }) 32 32, Value.slice A2 m2 c2, Value.agg (vs IntKind.u8 K), Value.slice (some { block := g, off := 0 }) 96 c, if b 0 = true then Value.slice (some { block := g, off := 0 }) 96 c else undef, if b 1 = true then .slice (some ⟨g, 0, none⟩) 32 c else undef, if b 2 = true then .pointer (some ⟨g, 0, none⟩) else undef, if b 3 = true then .agg (vs .u8 E1) else undef, if b 4 = true then Value.slice (some { block := g, off := 0 }) 96 c else undef, if b 5 = true then .slice (some ⟨g, 32, none⟩) 32 (c - 32) else undef, if b 6 = true then .pointer (some ⟨g, 32, none⟩) else undef, if b 7 = true then .agg (vs .u8 E2) else undef, if b 8 = true then Value.slice (some { block := g, off := 0 }) 96 c else undef, if b 9 = true then .slice (some ⟨g, 64, none⟩) 32 (c - 64) else undef, if b 10 = true then .pointer (some ⟨g, 64, none⟩) else undef, if b 11 = true then .agg (vs .u8 E3) else undef], []⟩) (by kernel_rfl) (by kernel_rfl) ?start2 ?step2 ?done2
  case start2 => exact ⟨⟨rfl, rfl, rfl, Nat.le_refl _, fun _ _ _ => rfl⟩, by simp only [Bool.false_eq_true, if_false]; exact Q1.out, by simp only [Bool.false_eq_true, if_false]; exact Q2.out, by simp only [Bool.false_eq_true, if_false]; exact Q3.out, by simp⟩
  case step2 =>
    intro i5 o5 b a w1 ho hI hb hr hcl
    obtain ⟨hF, r12, r13, r14, rfl⟩ := hI
    match i5, ho with
    | 0, ho =>
      injection ho with ho
      subst ho
      refine wp_quiet_here (Value.slice (some { block := g, off := 0 }) 96 c) (BigFrame.quiet_move _ rfl rfl) (fun w2 hw2 => ?_)
      refine ⟨hF.trans hw2.any, ?_, ?_, ?_, ?_⟩
      · have hh := r12.fr hw2 (fun x => x)
        simpa [upd] using hh
      · have hh := r13.fr hw2 (fun x => x)
        simpa [upd] using hh
      · have hh := r14.fr hw2 (fun x => x)
        simpa [upd] using hh
      · simp [upd, Act.put]
    | 1, ho =>
      injection ho with ho
      subst ho
      simp [Region.binds] at hr
      have d0 : b 0 = true := by simp only [hr]
      simp only [hr, if_true]
      refine wp_quiet_here (.slice (some ⟨g, 0, none⟩) 32 c) (quiet_run _ (fun W _ => run_slice_hi (.tmp 12) _ rfl (some ⟨g, 0, none⟩) 96 c 32 32 rfl (by omega) rfl rfl W) rfl) (fun w2 hw2 => ?_)
      refine ⟨hF.trans hw2.any, ?_, ?_, ?_, ?_⟩
      · have hh := r12.fr hw2 (fun x => x)
        simpa [upd] using hh
      · have hh := r13.fr hw2 (fun x => x)
        simpa [upd] using hh
      · have hh := r14.fr hw2 (fun x => x)
        simpa [upd] using hh
      · simp [upd, Act.put, hr]
    | 2, ho =>
      injection ho with ho
      subst ho
      simp [Region.binds] at hr
      have d1 : b 1 = true := by simp only [hr]
      simp only [hr, if_true]
      refine wp_quiet_here (.pointer (some ⟨g, 0, none⟩)) (quiet_run _ (fun W _ => run_arr 32 (.tmp 13) rfl (some ⟨g, 0, none⟩) 32 c rfl Try.underlying32 (by decide) W) rfl) (fun w2 hw2 => ?_)
      refine ⟨hF.trans hw2.any, ?_, ?_, ?_, ?_⟩
      · have hh := r12.fr hw2 (fun x => x)
        simpa [upd] using hh
      · have hh := r13.fr hw2 (fun x => x)
        simpa [upd] using hh
      · have hh := r14.fr hw2 (fun x => x)
        simpa [upd] using hh
      · simp [upd, Act.put, hr]
    | 3, ho =>
      injection ho with ho
      subst ho
      simp [Region.binds] at hr
      have d2 : b 2 = true := by simp only [hr]
      simp only [hr, if_true]
      refine wp_quiet_here (.agg (vs .u8 E1)) (quiet_midP 32 _ (.tmp 14) rfl g 0 rfl .u8 E1 Try.underlying32 rfl q1.out (fun _ h => range_fr (range_fr RA1.out hF (show ¬ (g = r1 ∨ g = r2 ∨ g = r3) by have := NG.out; omega)) h (fun x => x)) rfl) (fun w2 hw2 => ?_)
      refine ⟨hF.trans hw2.any, ?_, ?_, ?_, ?_⟩
      · have hh := r12.fr hw2 (fun x => x)
        simpa [upd] using hh
      · have hh := r13.fr hw2 (fun x => x)
        simpa [upd] using hh
      · have hh := r14.fr hw2 (fun x => x)
        simpa [upd] using hh
      · simp [upd, Act.put, hr]
    | 4, ho =>
      injection ho with ho
      subst ho
      refine wp_quiet_here (Value.slice (some { block := g, off := 0 }) 96 c) (BigFrame.quiet_move _ rfl rfl) (fun w2 hw2 => ?_)
      refine ⟨hF.trans hw2.any, ?_, ?_, ?_, ?_⟩
      · have hh := r12.fr hw2 (fun x => x)
        simpa [upd] using hh
      · have hh := r13.fr hw2 (fun x => x)
        simpa [upd] using hh
      · have hh := r14.fr hw2 (fun x => x)
        simpa [upd] using hh
      · simp [upd, Act.put]
    | 5, ho =>
      injection ho with ho
      subst ho
      simp [Region.binds] at hr
      have d4 : b 4 = true := by simp only [hr]
      simp only [hr, if_true]
      refine wp_quiet_here (.slice (some ⟨g, 32, none⟩) 32 (c - 32)) (quiet_run _ (fun W _ => run_slice_midV (.tmp 16) _ _ (some ⟨g, 0, none⟩) 96 c 32 64 32 64 (.slice (some ⟨g, 32, none⟩) 32 (c - 32)) rfl rfl (by rw [ca1]) (by decide) (by omega) rfl rfl rfl rfl W) rfl) (fun w2 hw2 => ?_)
      refine ⟨hF.trans hw2.any, ?_, ?_, ?_, ?_⟩
      · have hh := r12.fr hw2 (fun x => x)
        simpa [upd] using hh
      · have hh := r13.fr hw2 (fun x => x)
        simpa [upd] using hh
      · have hh := r14.fr hw2 (fun x => x)
        simpa [upd] using hh
      · simp [upd, Act.put, hr]
    | 6, ho =>
      injection ho with ho
      subst ho
      simp [Region.binds] at hr
      have d5 : b 5 = true := by simp only [hr]
      simp only [hr, if_true]
      refine wp_quiet_here (.pointer (some ⟨g, 32, none⟩)) (quiet_run _ (fun W _ => run_arr 32 (.tmp 17) rfl (some ⟨g, 32, none⟩) 32 (c - 32) rfl Try.underlying32 (by decide) W) rfl) (fun w2 hw2 => ?_)
      refine ⟨hF.trans hw2.any, ?_, ?_, ?_, ?_⟩
      · have hh := r12.fr hw2 (fun x => x)
        simpa [upd] using hh
      · have hh := r13.fr hw2 (fun x => x)
        simpa [upd] using hh
      · have hh := r14.fr hw2 (fun x => x)
        simpa [upd] using hh
      · simp [upd, Act.put, hr]
    | 7, ho =>
      injection ho with ho
      subst ho
      simp [Region.binds] at hr
      have d6 : b 6 = true := by simp only [hr]
      simp only [hr, if_true]
      refine wp_quiet_here (.agg (vs .u8 E2)) (quiet_midP 32 _ (.tmp 18) rfl g 32 rfl .u8 E2 Try.underlying32 rfl q2.out (fun _ h => range_fr (range_fr RA2.out hF (show ¬ (g = r1 ∨ g = r2 ∨ g = r3) by have := NG.out; omega)) h (fun x => x)) rfl) (fun w2 hw2 => ?_)
      refine ⟨hF.trans hw2.any, ?_, ?_, ?_, ?_⟩
      · have hh := r12.fr hw2 (fun x => x)
        simpa [upd] using hh
      · have hh := r13.fr hw2 (fun x => x)
        simpa [upd] using hh
      · have hh := r14.fr hw2 (fun x => x)
        simpa [upd] using hh
      · simp [upd, Act.put, hr]
    | 8, ho =>
      injection ho with ho
      subst ho
      refine wp_quiet_here (Value.slice (some { block := g, off := 0 }) 96 c) (BigFrame.quiet_move _ rfl rfl) (fun w2 hw2 => ?_)
      refine ⟨hF.trans hw2.any, ?_, ?_, ?_, ?_⟩
      · have hh := r12.fr hw2 (fun x => x)
        simpa [upd] using hh
      · have hh := r13.fr hw2 (fun x => x)
        simpa [upd] using hh
      · have hh := r14.fr hw2 (fun x => x)
        simpa [upd] using hh
      · simp [upd, Act.put]
    | 9, ho =>
      injection ho with ho
      subst ho
      simp [Region.binds] at hr
      have d8 : b 8 = true := by simp only [hr]
      simp only [hr, if_true]
      refine wp_quiet_here (.slice (some ⟨g, 64, none⟩) 32 (c - 64)) (quiet_run _ (fun W _ => run_slice_fromV (.tmp 20) _ (some ⟨g, 0, none⟩) 96 c 64 64 (.slice (some ⟨g, 64, none⟩) 32 (c - 64)) rfl (by rw [ca2]) (by decide) (by omega) rfl rfl rfl W) rfl) (fun w2 hw2 => ?_)
      refine ⟨hF.trans hw2.any, ?_, ?_, ?_, ?_⟩
      · have hh := r12.fr hw2 (fun x => x)
        simpa [upd] using hh
      · have hh := r13.fr hw2 (fun x => x)
        simpa [upd] using hh
      · have hh := r14.fr hw2 (fun x => x)
        simpa [upd] using hh
      · simp [upd, Act.put, hr]
    | 10, ho =>
      injection ho with ho
      subst ho
      simp [Region.binds] at hr
      have d9 : b 9 = true := by simp only [hr]
      simp only [hr, if_true]
      refine wp_quiet_here (.pointer (some ⟨g, 64, none⟩)) (quiet_run _ (fun W _ => run_arr 32 (.tmp 21) rfl (some ⟨g, 64, none⟩) 32 (c - 64) rfl Try.underlying32 (by decide) W) rfl) (fun w2 hw2 => ?_)
      refine ⟨hF.trans hw2.any, ?_, ?_, ?_, ?_⟩
      · have hh := r12.fr hw2 (fun x => x)
        simpa [upd] using hh
      · have hh := r13.fr hw2 (fun x => x)
        simpa [upd] using hh
      · have hh := r14.fr hw2 (fun x => x)
        simpa [upd] using hh
      · simp [upd, Act.put, hr]
    | 11, ho =>
      injection ho with ho
      subst ho
      simp [Region.binds] at hr
      have d10 : b 10 = true := by simp only [hr]
      simp only [hr, if_true]
      refine wp_quiet_here (.agg (vs .u8 E3)) (quiet_midP 32 _ (.tmp 22) rfl g 64 rfl .u8 E3 Try.underlying32 rfl q3.out (fun _ h => range_fr (range_fr RA3.out hF (show ¬ (g = r1 ∨ g = r2 ∨ g = r3) by have := NG.out; omega)) h (fun x => x)) rfl) (fun w2 hw2 => ?_)
      refine ⟨hF.trans hw2.any, ?_, ?_, ?_, ?_⟩
      · have hh := r12.fr hw2 (fun x => x)
        simpa [upd] using hh
      · have hh := r13.fr hw2 (fun x => x)
        simpa [upd] using hh
      · have hh := r14.fr hw2 (fun x => x)
        simpa [upd] using hh
      · simp [upd, Act.put, hr]
    | 12, ho =>
      injection ho with ho
      subst ho
      simp [Region.binds] at hr
      have d0 : b 0 = true := by simp only [hr]
      have d1 : b 1 = true := by simp only [hr]
      have d2 : b 2 = true := by simp only [hr]
      have d3 : b 3 = true := by simp only [hr]
      simp only [hr, if_true]
      have k2 : Ar w1 (r1) 32 .u8 Z := by
        have hh := r12
        simpa only [hb, Bool.false_eq_true, if_false] using hh
      refine wp_store_row 32 (.tmp 4) (.tmp 15) rfl (r1) (vs .u8 E1) rfl rfl 32 _ k2 s1.out e1.out (vs_all _ _) ?_
      have hfS : Fr (fun j => j = r1) w1 (w1.setRow (r1) (vs .u8 E1)) := (Fr.refl _ _).setRow _ (.inl rfl)
      refine ⟨hF.setRow _ (.inl (by simp)), ?_, ?_, ?_, ?_⟩
      · have hh := k2.row E1
        simpa [upd] using hh
      · have hh := r13.fr hfS (by omega)
        simpa [upd] using hh
      · have hh := r14.fr hfS (by omega)
        simpa [upd] using hh
      · simp [upd, Act.put, hr]
    | 13, ho =>
      injection ho with ho
      subst ho
      simp [Region.binds] at hr
      have d0 : b 0 = true := by simp only [hr]
      have d1 : b 1 = true := by simp only [hr]
      have d2 : b 2 = true := by simp only [hr]
      have d3 : b 3 = true := by simp only [hr]
      have d4 : b 4 = true := by simp only [hr]
      have d5 : b 5 = true := by simp only [hr]
      have d6 : b 6 = true := by simp only [hr]
      have d7 : b 7 = true := by simp only [hr]
      have d12 : b 12 = true := by simp only [hr]
      simp only [hr, if_true]
      have k2 : Ar w1 (r2) 32 .u8 Z := by
        have hh := r13
        simpa only [hb, Bool.false_eq_true, if_false] using hh
      refine wp_store_row 32 (.tmp 5) (.tmp 19) rfl (r2) (vs .u8 E2) rfl rfl 32 _ k2 s2.out e2.out (vs_all _ _) ?_
      have hfS : Fr (fun j => j = r2) w1 (w1.setRow (r2) (vs .u8 E2)) := (Fr.refl _ _).setRow _ (.inl rfl)
      refine ⟨hF.setRow _ (.inl (by simp)), ?_, ?_, ?_, ?_⟩
      · have hh := r12.fr hfS (by omega)
        simpa [upd] using hh
      · have hh := k2.row E2
        simpa [upd] using hh
      · have hh := r14.fr hfS (by omega)
        simpa [upd] using hh
      · simp [upd, Act.put, hr]
    | 14, ho =>
      injection ho with ho
      subst ho
      simp [Region.binds] at hr
      have d0 : b 0 = true := by simp only [hr]
      have d1 : b 1 = true := by simp only [hr]
      have d2 : b 2 = true := by simp only [hr]
      have d3 : b 3 = true := by simp only [hr]
      have d4 : b 4 = true := by simp only [hr]
      have d5 : b 5 = true := by simp only [hr]
      have d6 : b 6 = true := by simp only [hr]
      have d7 : b 7 = true := by simp only [hr]
      have d8 : b 8 = true := by simp only [hr]
      have d9 : b 9 = true := by simp only [hr]
      have d10 : b 10 = true := by simp only [hr]
      have d11 : b 11 = true := by simp only [hr]
      have d12 : b 12 = true := by simp only [hr]
      have d13 : b 13 = true := by simp only [hr]
      simp only [hr, if_true]
      have k2 : Ar w1 (r3) 32 .u8 Z := by
        have hh := r14
        simpa only [hb, Bool.false_eq_true, if_false] using hh
      refine wp_store_row 32 (.tmp 6) (.tmp 23) rfl (r3) (vs .u8 E3) rfl rfl 32 _ k2 s3.out e3.out (vs_all _ _) ?_
      have hfS : Fr (fun j => j = r3) w1 (w1.setRow (r3) (vs .u8 E3)) := (Fr.refl _ _).setRow _ (.inl rfl)
      refine ⟨hF.setRow _ (.inl (by simp)), ?_, ?_, ?_, ?_⟩
      · have hh := r12.fr hfS (by omega)
        simpa [upd] using hh
      · have hh := r13.fr hfS (by omega)
        simpa [upd] using hh
      · have hh := k2.row E3
        simpa [upd] using hh
      · simp [upd, Act.put, hr]
    | j + 15, ho => exact absurd ho (by simp)
  intro b a w9 hall hI
  obtain ⟨hF, r12, r13, r14, rfl⟩ := hI
  have t0 : b 0 = true := hall 0 (by simp)
  have t1 : b 1 = true := hall 1 (by simp)
  have t2 : b 2 = true := hall 2 (by simp)
  have t3 : b 3 = true := hall 3 (by simp)
  have t4 : b 4 = true := hall 4 (by simp)
  have t5 : b 5 = true := hall 5 (by simp)
  have t6 : b 6 = true := hall 6 (by simp)
  have t7 : b 7 = true := hall 7 (by simp)
  have t8 : b 8 = true := hall 8 (by simp)
  have t9 : b 9 = true := hall 9 (by simp)
  have t10 : b 10 = true := hall 10 (by simp)
  have t11 : b 11 = true := hall 11 (by simp)
  have t12 : b 12 = true := hall 12 (by simp)
  have t13 : b 13 = true := hall 13 (by simp)
  have t14 : b 14 = true := hall 14 (by simp)
  simp only [t0, t1, t2, t3, t4, t5, t6, t7, t8, t9, t10, t11, t12, t13, t14, if_true]
  simp only [t12, if_true] at r12
  have Q12 := Lib.hid r12
  simp only [t13, if_true] at r13
  have Q13 := Lib.hid r13
  simp only [t14, if_true] at r14
  have Q14 := Lib.hid r14
  have G9 := Lib.hid hF
  clear hall hF r12 r13 r14 t0 t1 t2 t3 t4 t5 t6 t7 t8 t9 t10 t11 t12 t13 t14
  have F9 : Hid (Fr (fun _ => False) w w9) := H2.out.trans' G9.out (fun j hj e => by have := NR.out; omega)
  go_wp2
  refine bodyPost_ret (results_three_rows Try.results22 _ _ r1 r2 r3 32 32 32 (vs .u8 E1) (vs .u8 E2) (vs .u8 E3) (0, 0) (0, 0) (0, 0) _ _ _ rfl Q12.out Try.underlying32 rfl s1.out rfl Q13.out Try.underlying32 rfl s2.out rfl Q14.out Try.underlying32 rfl s3.out) rfl ⟨rfl, F9.out⟩
end Go.Proofs.Ytebknlhooijkcaa
