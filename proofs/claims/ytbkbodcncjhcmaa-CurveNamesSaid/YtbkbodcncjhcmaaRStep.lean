/- The reference's step. Condition: numbers that are given. -/
import Derived.Test.YtbkbodcncjhcmaaRSide
namespace Go.Proofs.Ytbkbodcncjhcmaa
set_option linter.unusedSimpArgs false
set_option linter.unusedVariables false
open Go.RowKit

theorem len32 {y z : List Int} (hy : y.length = 16) (hz : z.length = 16) : (y ++ z).length = 32 := by simp [hy, hz]
theorem calm5 {w : World} {A B C D E : Obj} {W0 : World} (h : ((((w.alloc A).alloc B).alloc C).alloc D).alloc E = W0) : W0.heap[w.heap.size]? = some A ∧ W0.heap[w.heap.size + 1]? = some B ∧ W0.heap[w.heap.size + 1 + 1]? = some C ∧ W0.heap[w.heap.size + 1 + 1 + 1]? = some D ∧ W0.heap[w.heap.size + 1 + 1 + 1 + 1]? = some E ∧ Fr (fun _ => False) w W0 := by
  subst h
  obtain ⟨e1, e2, e3, e4⟩ := alloc4 w A B C D
  have s4 : ((((w.alloc A).alloc B).alloc C).alloc D).heap.size = w.heap.size + 1 + 1 + 1 + 1 := by simp
  have e5 := heap_alloc_new ((((w.alloc A).alloc B).alloc C).alloc D) E
  rw [s4] at e5
  exact ⟨(Below.heap_alloc _ E _ (by rw [s4]; omega)).trans e1, (Below.heap_alloc _ E _ (by rw [s4]; omega)).trans e2, (Below.heap_alloc _ E _ (by rw [s4]; omega)).trans e3, (Below.heap_alloc _ E _ (by rw [s4]; omega)).trans e4, e5, (((((Fr.refl _ _).alloc _).alloc _).alloc _).alloc _).alloc _⟩
theorem resize {w w' : World} {S : Nat → Prop} (h : Fr S w w') : w.heap.size ≤ w'.heap.size := h.size

set_option maxRecDepth 100000 in
set_option maxHeartbeats 16000000 in
theorem rstep_ex {ya yb yc yd y1 : List Int} {x1 : Int} {s : St} (h1 : NumOf ya s.a) (h2 : NumOf yb s.b) (h3 : NumOf yc s.c) (h4 : NumOf yd s.d) (h0 : NumOf y1 x1) :
    ∃ za zb zc zd, NumOf za (stp x1 s).a ∧ NumOf zb (stp x1 s).b ∧ NumOf zc (stp x1 s).c ∧ NumOf zd (stp x1 s).d ∧
      ∀ w, Calls Try.prog 32 #[.agg (vs .i64 (ya ++ yb)), .agg (vs .i64 (yc ++ yd)), .agg (vs .i64 y1)] w fun e w' => e = .returned (.tuple #[.agg (vs .i64 (za ++ zb)), .agg (vs .i64 (zc ++ zd))]) ∧ Fr (fun _ => False) w w' := by
  obtain ⟨rA, ha, CA⟩ := radd_ex h1 h2
  obtain ⟨rAA, haa, CAA⟩ := rmul_ex ha ha
  obtain ⟨rB, hb, CB⟩ := rsub_ex h1 h2
  obtain ⟨rBB, hbb, CBB⟩ := rmul_ex hb hb
  obtain ⟨rE, he, CE⟩ := rsub_ex haa hbb
  obtain ⟨rD, hd, CD⟩ := rsub_ex h3 h4
  obtain ⟨rDA, hda, CDA⟩ := rmul_ex hd ha
  obtain ⟨rC, hc, CC⟩ := radd_ex h3 h4
  obtain ⟨rCB, hcb, CCB⟩ := rmul_ex hc hb
  obtain ⟨rS, hs, CS⟩ := radd_ex hda hcb
  obtain ⟨rL, hl, CL⟩ := rsub_ex hda hcb
  obtain ⟨zc, hzc, CX3⟩ := rmul_ex hs hs
  obtain ⟨rLL, hll, CLL⟩ := rmul_ex hl hl
  obtain ⟨zd, hzd, CZ3⟩ := rmul_ex h0 hll
  obtain ⟨za, hza, CX2⟩ := rmul_ex haa hbb
  obtain ⟨rK, hk, CK⟩ := rsmall_ex 121665 (by decide) (by decide)
  obtain ⟨rM, hm, CM⟩ := rmul_ex hk he
  obtain ⟨rT, ht, CT⟩ := radd_ex haa hm
  obtain ⟨zb, hzb, CZ2⟩ := rmul_ex he ht
  refine ⟨za, zb, zc, zd, hza, hzb, hzc, hzd, fun w => ?_⟩
  have n_ya : Hid (ya.length = 16) := h1.len
  have n_yb : Hid (yb.length = 16) := h2.len
  have n_yc : Hid (yc.length = 16) := h3.len
  have n_yd : Hid (yd.length = 16) := h4.len
  have n_y1 : Hid (y1.length = 16) := h0.len
  have n_rA : Hid (rA.length = 16) := ha.len
  have n_rAA : Hid (rAA.length = 16) := haa.len
  have n_rB : Hid (rB.length = 16) := hb.len
  have n_rBB : Hid (rBB.length = 16) := hbb.len
  have n_rE : Hid (rE.length = 16) := he.len
  have n_rDA : Hid (rDA.length = 16) := hda.len
  have n_rCB : Hid (rCB.length = 16) := hcb.len
  have n_rS : Hid (rS.length = 16) := hs.len
  have n_rL : Hid (rL.length = 16) := hl.len
  have n_za : Hid (za.length = 16) := hza.len
  have n_zb : Hid (zb.length = 16) := hzb.len
  have n_zc : Hid (zc.length = 16) := hzc.len
  have n_zd : Hid (zd.length = 16) := hzd.len
  obtain ⟨Z, hZ⟩ : ∃ Z, Z = List.replicate 16 (0 : Int) := ⟨_, rfl⟩
  obtain ⟨ZZ, hZZ⟩ : ∃ Z, Z = List.replicate 32 (0 : Int) := ⟨_, rfl⟩
  have zk : ∀ W : World, (zeroValue 49).run Try.prog W = .ok (.agg (vs .i64 Z)) W := fun W => by rw [hZ]; exact num_zero W
  have zzk : ∀ W : World, (zeroValue 53).run Try.prog W = .ok (.agg (vs .i64 ZZ)) W := fun W => by rw [hZZ]; exact side_zero W
  have n_Z : Hid (Z.length = 16) := by show _ = _; rw [hZ]; rfl
  have n_ZZ : Hid (ZZ.length = 32) := by show _ = _; rw [hZZ]; rfl
  obtain ⟨yab, hyab⟩ : ∃ y, y = ya ++ yb := ⟨_, rfl⟩
  clear hZ hZZ h1 h2 h3 h4 h0 ha haa hb hbb he hd hda hc hcb hs hl hzc hll hzd hza hk hm ht hzb hyab
  go_enter Try.func32, Try.ntmps32
  go_upto_region 1 with (fail)
  generalize hW : ((((w.alloc (.cells (vs .i64 (ya ++ yb)) 53)).alloc (.cells (vs .i64 (yc ++ yd)) 53)).alloc (.cells (vs .i64 y1) 49)).alloc (.cells (vs .i64 ZZ) 53)).alloc (.cells (vs .i64 ZZ) 53) = W0
  have HW := Lib.hid (calm5 hW)
  have X0 := Lib.hid HW.out.1
  have X1 := Lib.hid HW.out.2.1
  have X2 := Lib.hid HW.out.2.2.1
  have X3 := Lib.hid HW.out.2.2.2.1
  have X4 := Lib.hid HW.out.2.2.2.2.1
  have F0 : Hid (Fr (fun i => i = w.heap.size + 1 + 1 + 1 ∨ i = w.heap.size + 1 + 1 + 1 + 1) w W0) := HW.out.2.2.2.2.2.any
  clear hW HW
  refine wp_region_seq (fun b a w' => ∃ g8 : Nat, Fr (fun _ => False) W0 w' ∧ (b 5 = true → W0.heap.size ≤ g8 ∧ w'.heap[g8]? = some (.cells (if b 6 = true then vs .i64 rA else vs .i64 Z) 49 (0, 0))) ∧ (b 6 = true → b 5 = true) ∧ a = ⟨#[.agg (vs .i64 (ya ++ yb)), .agg (vs .i64 (yc ++ yd)), .agg (vs .i64 y1), .pointer (some ⟨w.heap.size, 0, none⟩), .pointer (some ⟨w.heap.size + 1, 0, none⟩), .pointer (some ⟨w.heap.size + 1 + 1, 0, none⟩), .pointer (some ⟨w.heap.size + 1 + 1 + 1, 0, none⟩), .pointer (some ⟨w.heap.size + 1 + 1 + 1 + 1, 0, none⟩), if b 5 = true then .pointer (some ⟨g8, 0, none⟩) else undef, undef, undef, undef, undef, undef, undef, undef, undef, undef, undef, if b 0 = true then .pointer (some ⟨w.heap.size, 0, none⟩) else undef, if b 1 = true then .agg (vs .i64 ya) else undef, if b 2 = true then .pointer (some ⟨w.heap.size, 16, none⟩) else undef, if b 3 = true then .agg (vs .i64 yb) else undef, if b 4 = true then .agg (vs .i64 rA) else undef, undef, undef, undef, undef, undef, undef, undef, undef, undef, undef, undef, undef, undef, undef, undef, undef, undef, undef, undef, undef, undef, undef, undef, undef, undef, undef, undef, undef, undef, undef, undef, undef, undef, undef, undef, undef, undef, undef, undef, undef, undef, undef, undef, undef, undef, undef, undef, undef, undef, undef, undef, undef, undef, undef, undef, undef], []⟩) (by kernel_rfl) ?start1 ?step1 ?done1
  case start1 => exact ⟨0, Fr.refl _ _, by simp, by simp, by simp⟩
  case step1 =>
    intro i o b a w1 ho hI hb hr
    obtain ⟨g8, hF, h5, hq5, rfl⟩ := hI
    match i, ho with
    | 0, ho =>
      injection ho with ho
      subst ho
      refine wp_quiet_here (.pointer (some ⟨w.heap.size, 0, none⟩)) ?_ (fun w2 hw2 => ?_)
      · simp only [Bool.false_eq_true] 
        go_big_quiet_op
        first
          | (simp [Act.put]; done)
          | exact ⟨_, fun _ _ => rfl, by simp [Act.put]⟩
      refine ⟨g8, hF.trans hw2, ?_, ?_, ?_⟩
      · intro hx
        replace hx : b 5 = true := by simpa [upd] using hx
        obtain ⟨k1', k2⟩ := h5 hx
        refine ⟨k1', (hw2.block _ (heap_lt k2) (fun x => x)).trans ?_⟩
        rw [k2]
        simp [upd]
      · simpa [upd] using hq5
      · simp [upd, Act.put]
    | 1, ho =>
      injection ho with ho
      subst ho
      have d0 : b 0 = true := hr 0 (by decide)
      simp only [d0, if_true]
      refine wp_quiet_here _ (quiet_num (.tmp 19) rfl (w.heap.size) 0 rfl ya n_ya.out (fun _ h => side_r0 n_ya.out ((Fr.block h _ (Nat.lt_of_lt_of_le (heap_lt X0.out) hF.size) (fun x => x)).trans ((hF.block _ (heap_lt X0.out) (fun x => x)).trans X0.out))) rfl) (fun w2 hw2 => ?_)
      refine ⟨g8, hF.trans hw2, ?_, ?_, ?_⟩
      · intro hx
        replace hx : b 5 = true := by simpa [upd] using hx
        obtain ⟨k1', k2⟩ := h5 hx
        refine ⟨k1', (hw2.block _ (heap_lt k2) (fun x => x)).trans ?_⟩
        rw [k2]
        simp [upd]
      · simpa [upd] using hq5
      · simp [upd, Act.put, d0]
    | 2, ho =>
      injection ho with ho
      subst ho
      have d0 : b 0 = true := hr 0 (by decide)
      have d1 : b 1 = true := hr 1 (by decide)
      simp only [d0, d1, if_true]
      refine wp_quiet_here (.pointer (some ⟨w.heap.size, 16, none⟩)) ?_ (fun w2 hw2 => ?_)
      · go_big_quiet_op
        first
          | (simp [Act.put]; done)
          | exact ⟨_, fun _ _ => rfl, by simp [Act.put]⟩
      refine ⟨g8, hF.trans hw2, ?_, ?_, ?_⟩
      · intro hx
        replace hx : b 5 = true := by simpa [upd] using hx
        obtain ⟨k1', k2⟩ := h5 hx
        refine ⟨k1', (hw2.block _ (heap_lt k2) (fun x => x)).trans ?_⟩
        rw [k2]
        simp [upd]
      · simpa [upd] using hq5
      · simp [upd, Act.put, d0, d1]
    | 3, ho =>
      injection ho with ho
      subst ho
      have d0 : b 0 = true := hr 0 (by decide)
      have d1 : b 1 = true := hr 1 (by decide)
      have d2 : b 2 = true := hr 2 (by decide)
      simp only [d0, d1, d2, if_true]
      refine wp_quiet_here _ (quiet_num (.tmp 21) rfl (w.heap.size) 16 rfl yb n_yb.out (fun _ h => side_r1 n_ya.out ((Fr.block h _ (Nat.lt_of_lt_of_le (heap_lt X0.out) hF.size) (fun x => x)).trans ((hF.block _ (heap_lt X0.out) (fun x => x)).trans X0.out))) rfl) (fun w2 hw2 => ?_)
      refine ⟨g8, hF.trans hw2, ?_, ?_, ?_⟩
      · intro hx
        replace hx : b 5 = true := by simpa [upd] using hx
        obtain ⟨k1', k2⟩ := h5 hx
        refine ⟨k1', (hw2.block _ (heap_lt k2) (fun x => x)).trans ?_⟩
        rw [k2]
        simp [upd]
      · simpa [upd] using hq5
      · simp [upd, Act.put, d0, d1, d2]
    | 4, ho =>
      injection ho with ho
      subst ho
      have d0 : b 0 = true := hr 0 (by decide)
      have d1 : b 1 = true := hr 1 (by decide)
      have d2 : b 2 = true := hr 2 (by decide)
      have d3 : b 3 = true := hr 3 (by decide)
      simp only [d0, d1, d2, d3, if_true]
      refine wp_quiet_here (.agg (vs .i64 rA)) ?_ (fun w2 hw2 => ?_)
      · go_big_quiet_op
        exact ⟨_, Calm.calls CA, by simp [Act.put]⟩
      refine ⟨g8, hF.trans hw2, ?_, ?_, ?_⟩
      · intro hx
        replace hx : b 5 = true := by simpa [upd] using hx
        obtain ⟨k1', k2⟩ := h5 hx
        refine ⟨k1', (hw2.block _ (heap_lt k2) (fun x => x)).trans ?_⟩
        rw [k2]
        simp [upd]
      · simpa [upd] using hq5
      · simp [upd, Act.put, d0, d1, d2, d3]
    | 5, ho =>
      injection ho with ho
      subst ho
      have d0 : b 0 = true := hr 0 (by decide)
      have d1 : b 1 = true := hr 1 (by decide)
      have d2 : b 2 = true := hr 2 (by decide)
      have d3 : b 3 = true := hr 3 (by decide)
      have d4 : b 4 = true := hr 4 (by decide)
      simp only [d0, d1, d2, d3, d4, if_true]
      refine wp_alloc_any 49 rfl (vs .i64 Z) zk ?_
      refine ⟨w1.heap.size, hF.alloc _, ?_, ?_, ?_⟩
      · intro _
        refine ⟨hF.size, (heap_alloc_new w1 _).trans ?_⟩
        have hs : b 6 = false := by
          rcases hbs : b 6 with _ | _
          · rfl
          · rw [hq5 hbs] at hb
            cases hb
        simp [upd, hs]
      · simp [upd]
      · simp [upd, Act.put, d0, d1, d2, d3, d4]
    | 6, ho =>
      injection ho with ho
      subst ho
      have d0 : b 0 = true := hr 0 (by decide)
      have d1 : b 1 = true := hr 1 (by decide)
      have d2 : b 2 = true := hr 2 (by decide)
      have d3 : b 3 = true := hr 3 (by decide)
      have d4 : b 4 = true := hr 4 (by decide)
      have d5 : b 5 = true := hr 5 (by decide)
      simp only [d0, d1, d2, d3, d4, d5, if_true]
      obtain ⟨k1, k2⟩ := h5 d5
      rw [hb] at k2
      simp only [Bool.false_eq_true, if_false] at k2
      refine wp_store_row 49 (.tmp 8) (.tmp 23) rfl g8 (vs .i64 rA) rfl rfl 49 _ k2 (num_info n_rA.out) (by rw [vs_size, vs_size, n_Z.out, n_rA.out]) (vs_all _ _) ?_
      refine ⟨g8, hF.setRow _ (.inr k1), ?_, ?_, ?_⟩
      · intro _
        refine ⟨k1, (setRow_heap _ _ _ _ _ _ k2).trans ?_⟩
        simp [upd]
      · simp [upd, d5]
      · simp [upd, Act.put, d0, d1, d2, d3, d4, d5]
    | j + 7, ho => exact absurd ho (by simp)
  intro b a W2 hall hI
  obtain ⟨g8, hF, h5, hq5, rfl⟩ := hI
  have t0 : b 0 = true := hall 0 (by simp)
  have t1 : b 1 = true := hall 1 (by simp)
  have t2 : b 2 = true := hall 2 (by simp)
  have t3 : b 3 = true := hall 3 (by simp)
  have t4 : b 4 = true := hall 4 (by simp)
  have t5 : b 5 = true := hall 5 (by simp)
  have t6 : b 6 = true := hall 6 (by simp)
  simp only [t0, t1, t2, t3, t4, t5, t6, if_true, true_implies] at h5 hq5 ⊢
  have F2 : Hid (Fr (fun i => i = w.heap.size + 1 + 1 + 1 ∨ i = w.heap.size + 1 + 1 + 1 + 1) w W2) := F0.out.trans hF.any
  have X2_0 := Lib.hid ((hF.block _ (heap_lt X0.out) (fun x => x)).trans X0.out)
  have X2_1 := Lib.hid ((hF.block _ (heap_lt X1.out) (fun x => x)).trans X1.out)
  have X2_2 := Lib.hid ((hF.block _ (heap_lt X2.out) (fun x => x)).trans X2.out)
  have X2_3 := Lib.hid ((hF.block _ (heap_lt X3.out) (fun x => x)).trans X3.out)
  have X2_4 := Lib.hid ((hF.block _ (heap_lt X4.out) (fun x => x)).trans X4.out)
  have X2_5 := Lib.hid h5.2
  have Yg8 : w.heap.size ≤ g8 := Nat.le_trans F0.out.size h5.1
  clear hall hF h5 hq5 t0 t1 t2 t3 t4 t5 t6 F0
  go_upto_region 2 with (fail)
  refine wp_region_seq (fun b a w' => ∃ g9 : Nat, Fr (fun _ => False) W2 w' ∧ (b 3 = true → W2.heap.size ≤ g9 ∧ w'.heap[g9]? = some (.cells (if b 4 = true then vs .i64 rAA else vs .i64 Z) 49 (0, 0))) ∧ (b 4 = true → b 3 = true) ∧ a = ⟨#[.agg (vs .i64 (ya ++ yb)), .agg (vs .i64 (yc ++ yd)), .agg (vs .i64 y1), .pointer (some ⟨w.heap.size, 0, none⟩), .pointer (some ⟨w.heap.size + 1, 0, none⟩), .pointer (some ⟨w.heap.size + 1 + 1, 0, none⟩), .pointer (some ⟨w.heap.size + 1 + 1 + 1, 0, none⟩), .pointer (some ⟨w.heap.size + 1 + 1 + 1 + 1, 0, none⟩), .pointer (some ⟨g8, 0, none⟩), if b 3 = true then .pointer (some ⟨g9, 0, none⟩) else undef, undef, undef, undef, undef, undef, undef, undef, undef, undef, .pointer (some ⟨w.heap.size, 0, none⟩), .agg (vs .i64 ya), .pointer (some ⟨w.heap.size, 16, none⟩), .agg (vs .i64 yb), .agg (vs .i64 rA), if b 0 = true then .agg (vs .i64 rA) else undef, if b 1 = true then .agg (vs .i64 rA) else undef, if b 2 = true then .agg (vs .i64 rAA) else undef, undef, undef, undef, undef, undef, undef, undef, undef, undef, undef, undef, undef, undef, undef, undef, undef, undef, undef, undef, undef, undef, undef, undef, undef, undef, undef, undef, undef, undef, undef, undef, undef, undef, undef, undef, undef, undef, undef, undef, undef, undef, undef, undef, undef, undef, undef, undef, undef, undef, undef, undef, undef, undef], []⟩) (by kernel_rfl) ?start2 ?step2 ?done2
  case start2 => exact ⟨0, Fr.refl _ _, by simp, by simp, by simp⟩
  case step2 =>
    intro i o b a w1 ho hI hb hr
    obtain ⟨g9, hF, h3, hq3, rfl⟩ := hI
    match i, ho with
    | 0, ho =>
      injection ho with ho
      subst ho
      refine wp_quiet_here _ (quiet_load 49 (.tmp 8) rfl (g8) rfl 49 _ (0, 0) _ (fun _ h => (Fr.block h _ (Nat.lt_of_lt_of_le (heap_lt X2_5.out) hF.size) (fun x => x)).trans ((hF.block _ (heap_lt X2_5.out) (fun x => x)).trans X2_5.out)) Try.underlying49 rfl (num_info n_rA.out) rfl) (fun w2 hw2 => ?_)
      refine ⟨g9, hF.trans hw2, ?_, ?_, ?_⟩
      · intro hx
        replace hx : b 3 = true := by simpa [upd] using hx
        obtain ⟨k1', k2⟩ := h3 hx
        refine ⟨k1', (hw2.block _ (heap_lt k2) (fun x => x)).trans ?_⟩
        rw [k2]
        simp [upd]
      · simpa [upd] using hq3
      · simp [upd, Act.put]
    | 1, ho =>
      injection ho with ho
      subst ho
      have d0 : b 0 = true := hr 0 (by decide)
      simp only [d0, if_true]
      refine wp_quiet_here _ (quiet_load 49 (.tmp 8) rfl (g8) rfl 49 _ (0, 0) _ (fun _ h => (Fr.block h _ (Nat.lt_of_lt_of_le (heap_lt X2_5.out) hF.size) (fun x => x)).trans ((hF.block _ (heap_lt X2_5.out) (fun x => x)).trans X2_5.out)) Try.underlying49 rfl (num_info n_rA.out) rfl) (fun w2 hw2 => ?_)
      refine ⟨g9, hF.trans hw2, ?_, ?_, ?_⟩
      · intro hx
        replace hx : b 3 = true := by simpa [upd] using hx
        obtain ⟨k1', k2⟩ := h3 hx
        refine ⟨k1', (hw2.block _ (heap_lt k2) (fun x => x)).trans ?_⟩
        rw [k2]
        simp [upd]
      · simpa [upd] using hq3
      · simp [upd, Act.put, d0]
    | 2, ho =>
      injection ho with ho
      subst ho
      have d0 : b 0 = true := hr 0 (by decide)
      have d1 : b 1 = true := hr 1 (by decide)
      simp only [d0, d1, if_true]
      refine wp_quiet_here (.agg (vs .i64 rAA)) ?_ (fun w2 hw2 => ?_)
      · go_big_quiet_op
        exact ⟨_, Calm.calls CAA, by simp [Act.put]⟩
      refine ⟨g9, hF.trans hw2, ?_, ?_, ?_⟩
      · intro hx
        replace hx : b 3 = true := by simpa [upd] using hx
        obtain ⟨k1', k2⟩ := h3 hx
        refine ⟨k1', (hw2.block _ (heap_lt k2) (fun x => x)).trans ?_⟩
        rw [k2]
        simp [upd]
      · simpa [upd] using hq3
      · simp [upd, Act.put, d0, d1]
    | 3, ho =>
      injection ho with ho
      subst ho
      have d0 : b 0 = true := hr 0 (by decide)
      have d1 : b 1 = true := hr 1 (by decide)
      have d2 : b 2 = true := hr 2 (by decide)
      simp only [d0, d1, d2, if_true]
      refine wp_alloc_any 49 rfl (vs .i64 Z) zk ?_
      refine ⟨w1.heap.size, hF.alloc _, ?_, ?_, ?_⟩
      · intro _
        refine ⟨hF.size, (heap_alloc_new w1 _).trans ?_⟩
        have hs : b 4 = false := by
          rcases hbs : b 4 with _ | _
          · rfl
          · rw [hq3 hbs] at hb
            cases hb
        simp [upd, hs]
      · simp [upd]
      · simp [upd, Act.put, d0, d1, d2]
    | 4, ho =>
      injection ho with ho
      subst ho
      have d0 : b 0 = true := hr 0 (by decide)
      have d1 : b 1 = true := hr 1 (by decide)
      have d2 : b 2 = true := hr 2 (by decide)
      have d3 : b 3 = true := hr 3 (by decide)
      simp only [d0, d1, d2, d3, if_true]
      obtain ⟨k1, k2⟩ := h3 d3
      rw [hb] at k2
      simp only [Bool.false_eq_true, if_false] at k2
      refine wp_store_row 49 (.tmp 9) (.tmp 26) rfl g9 (vs .i64 rAA) rfl rfl 49 _ k2 (num_info n_rAA.out) (by rw [vs_size, vs_size, n_Z.out, n_rAA.out]) (vs_all _ _) ?_
      refine ⟨g9, hF.setRow _ (.inr k1), ?_, ?_, ?_⟩
      · intro _
        refine ⟨k1, (setRow_heap _ _ _ _ _ _ k2).trans ?_⟩
        simp [upd]
      · simp [upd, d3]
      · simp [upd, Act.put, d0, d1, d2, d3]
    | j + 5, ho => exact absurd ho (by simp)
  intro b a W3 hall hI
  obtain ⟨g9, hF, h3, hq3, rfl⟩ := hI
  have t0 : b 0 = true := hall 0 (by simp)
  have t1 : b 1 = true := hall 1 (by simp)
  have t2 : b 2 = true := hall 2 (by simp)
  have t3 : b 3 = true := hall 3 (by simp)
  have t4 : b 4 = true := hall 4 (by simp)
  simp only [t0, t1, t2, t3, t4, if_true, true_implies] at h3 hq3 ⊢
  have F3 : Hid (Fr (fun i => i = w.heap.size + 1 + 1 + 1 ∨ i = w.heap.size + 1 + 1 + 1 + 1) w W3) := F2.out.trans hF.any
  have X3_0 := Lib.hid ((hF.block _ (heap_lt X2_0.out) (fun x => x)).trans X2_0.out)
  have X3_1 := Lib.hid ((hF.block _ (heap_lt X2_1.out) (fun x => x)).trans X2_1.out)
  have X3_2 := Lib.hid ((hF.block _ (heap_lt X2_2.out) (fun x => x)).trans X2_2.out)
  have X3_3 := Lib.hid ((hF.block _ (heap_lt X2_3.out) (fun x => x)).trans X2_3.out)
  have X3_4 := Lib.hid ((hF.block _ (heap_lt X2_4.out) (fun x => x)).trans X2_4.out)
  have X3_5 := Lib.hid ((hF.block _ (heap_lt X2_5.out) (fun x => x)).trans X2_5.out)
  have X3_6 := Lib.hid h3.2
  have Yg9 : w.heap.size ≤ g9 := Nat.le_trans F2.out.size h3.1
  clear hall hF h3 hq3 t0 t1 t2 t3 t4 X2_0 X2_1 X2_2 X2_3 X2_4 X2_5 F2
  go_upto_region 3 with (fail)
  refine wp_region_seq (fun b a w' => ∃ g10 : Nat, Fr (fun _ => False) W3 w' ∧ (b 5 = true → W3.heap.size ≤ g10 ∧ w'.heap[g10]? = some (.cells (if b 6 = true then vs .i64 rB else vs .i64 Z) 49 (0, 0))) ∧ (b 6 = true → b 5 = true) ∧ a = ⟨#[.agg (vs .i64 (ya ++ yb)), .agg (vs .i64 (yc ++ yd)), .agg (vs .i64 y1), .pointer (some ⟨w.heap.size, 0, none⟩), .pointer (some ⟨w.heap.size + 1, 0, none⟩), .pointer (some ⟨w.heap.size + 1 + 1, 0, none⟩), .pointer (some ⟨w.heap.size + 1 + 1 + 1, 0, none⟩), .pointer (some ⟨w.heap.size + 1 + 1 + 1 + 1, 0, none⟩), .pointer (some ⟨g8, 0, none⟩), .pointer (some ⟨g9, 0, none⟩), if b 5 = true then .pointer (some ⟨g10, 0, none⟩) else undef, undef, undef, undef, undef, undef, undef, undef, undef, .pointer (some ⟨w.heap.size, 0, none⟩), .agg (vs .i64 ya), .pointer (some ⟨w.heap.size, 16, none⟩), .agg (vs .i64 yb), .agg (vs .i64 rA), .agg (vs .i64 rA), .agg (vs .i64 rA), .agg (vs .i64 rAA), if b 0 = true then .pointer (some ⟨w.heap.size, 0, none⟩) else undef, if b 1 = true then .agg (vs .i64 ya) else undef, if b 2 = true then .pointer (some ⟨w.heap.size, 16, none⟩) else undef, if b 3 = true then .agg (vs .i64 yb) else undef, if b 4 = true then .agg (vs .i64 rB) else undef, undef, undef, undef, undef, undef, undef, undef, undef, undef, undef, undef, undef, undef, undef, undef, undef, undef, undef, undef, undef, undef, undef, undef, undef, undef, undef, undef, undef, undef, undef, undef, undef, undef, undef, undef, undef, undef, undef, undef, undef, undef, undef, undef, undef, undef, undef, undef, undef], []⟩) (by kernel_rfl) ?start3 ?step3 ?done3
  case start3 => exact ⟨0, Fr.refl _ _, by simp, by simp, by simp⟩
  case step3 =>
    intro i o b a w1 ho hI hb hr
    obtain ⟨g10, hF, h5, hq5, rfl⟩ := hI
    match i, ho with
    | 0, ho =>
      injection ho with ho
      subst ho
      refine wp_quiet_here (.pointer (some ⟨w.heap.size, 0, none⟩)) ?_ (fun w2 hw2 => ?_)
      · simp only [Bool.false_eq_true] 
        go_big_quiet_op
        first
          | (simp [Act.put]; done)
          | exact ⟨_, fun _ _ => rfl, by simp [Act.put]⟩
      refine ⟨g10, hF.trans hw2, ?_, ?_, ?_⟩
      · intro hx
        replace hx : b 5 = true := by simpa [upd] using hx
        obtain ⟨k1', k2⟩ := h5 hx
        refine ⟨k1', (hw2.block _ (heap_lt k2) (fun x => x)).trans ?_⟩
        rw [k2]
        simp [upd]
      · simpa [upd] using hq5
      · simp [upd, Act.put]
    | 1, ho =>
      injection ho with ho
      subst ho
      have d0 : b 0 = true := hr 0 (by decide)
      simp only [d0, if_true]
      refine wp_quiet_here _ (quiet_num (.tmp 27) rfl (w.heap.size) 0 rfl ya n_ya.out (fun _ h => side_r0 n_ya.out ((Fr.block h _ (Nat.lt_of_lt_of_le (heap_lt X3_0.out) hF.size) (fun x => x)).trans ((hF.block _ (heap_lt X3_0.out) (fun x => x)).trans X3_0.out))) rfl) (fun w2 hw2 => ?_)
      refine ⟨g10, hF.trans hw2, ?_, ?_, ?_⟩
      · intro hx
        replace hx : b 5 = true := by simpa [upd] using hx
        obtain ⟨k1', k2⟩ := h5 hx
        refine ⟨k1', (hw2.block _ (heap_lt k2) (fun x => x)).trans ?_⟩
        rw [k2]
        simp [upd]
      · simpa [upd] using hq5
      · simp [upd, Act.put, d0]
    | 2, ho =>
      injection ho with ho
      subst ho
      have d0 : b 0 = true := hr 0 (by decide)
      have d1 : b 1 = true := hr 1 (by decide)
      simp only [d0, d1, if_true]
      refine wp_quiet_here (.pointer (some ⟨w.heap.size, 16, none⟩)) ?_ (fun w2 hw2 => ?_)
      · go_big_quiet_op
        first
          | (simp [Act.put]; done)
          | exact ⟨_, fun _ _ => rfl, by simp [Act.put]⟩
      refine ⟨g10, hF.trans hw2, ?_, ?_, ?_⟩
      · intro hx
        replace hx : b 5 = true := by simpa [upd] using hx
        obtain ⟨k1', k2⟩ := h5 hx
        refine ⟨k1', (hw2.block _ (heap_lt k2) (fun x => x)).trans ?_⟩
        rw [k2]
        simp [upd]
      · simpa [upd] using hq5
      · simp [upd, Act.put, d0, d1]
    | 3, ho =>
      injection ho with ho
      subst ho
      have d0 : b 0 = true := hr 0 (by decide)
      have d1 : b 1 = true := hr 1 (by decide)
      have d2 : b 2 = true := hr 2 (by decide)
      simp only [d0, d1, d2, if_true]
      refine wp_quiet_here _ (quiet_num (.tmp 29) rfl (w.heap.size) 16 rfl yb n_yb.out (fun _ h => side_r1 n_ya.out ((Fr.block h _ (Nat.lt_of_lt_of_le (heap_lt X3_0.out) hF.size) (fun x => x)).trans ((hF.block _ (heap_lt X3_0.out) (fun x => x)).trans X3_0.out))) rfl) (fun w2 hw2 => ?_)
      refine ⟨g10, hF.trans hw2, ?_, ?_, ?_⟩
      · intro hx
        replace hx : b 5 = true := by simpa [upd] using hx
        obtain ⟨k1', k2⟩ := h5 hx
        refine ⟨k1', (hw2.block _ (heap_lt k2) (fun x => x)).trans ?_⟩
        rw [k2]
        simp [upd]
      · simpa [upd] using hq5
      · simp [upd, Act.put, d0, d1, d2]
    | 4, ho =>
      injection ho with ho
      subst ho
      have d0 : b 0 = true := hr 0 (by decide)
      have d1 : b 1 = true := hr 1 (by decide)
      have d2 : b 2 = true := hr 2 (by decide)
      have d3 : b 3 = true := hr 3 (by decide)
      simp only [d0, d1, d2, d3, if_true]
      refine wp_quiet_here (.agg (vs .i64 rB)) ?_ (fun w2 hw2 => ?_)
      · go_big_quiet_op
        exact ⟨_, Calm.calls CB, by simp [Act.put]⟩
      refine ⟨g10, hF.trans hw2, ?_, ?_, ?_⟩
      · intro hx
        replace hx : b 5 = true := by simpa [upd] using hx
        obtain ⟨k1', k2⟩ := h5 hx
        refine ⟨k1', (hw2.block _ (heap_lt k2) (fun x => x)).trans ?_⟩
        rw [k2]
        simp [upd]
      · simpa [upd] using hq5
      · simp [upd, Act.put, d0, d1, d2, d3]
    | 5, ho =>
      injection ho with ho
      subst ho
      have d0 : b 0 = true := hr 0 (by decide)
      have d1 : b 1 = true := hr 1 (by decide)
      have d2 : b 2 = true := hr 2 (by decide)
      have d3 : b 3 = true := hr 3 (by decide)
      have d4 : b 4 = true := hr 4 (by decide)
      simp only [d0, d1, d2, d3, d4, if_true]
      refine wp_alloc_any 49 rfl (vs .i64 Z) zk ?_
      refine ⟨w1.heap.size, hF.alloc _, ?_, ?_, ?_⟩
      · intro _
        refine ⟨hF.size, (heap_alloc_new w1 _).trans ?_⟩
        have hs : b 6 = false := by
          rcases hbs : b 6 with _ | _
          · rfl
          · rw [hq5 hbs] at hb
            cases hb
        simp [upd, hs]
      · simp [upd]
      · simp [upd, Act.put, d0, d1, d2, d3, d4]
    | 6, ho =>
      injection ho with ho
      subst ho
      have d0 : b 0 = true := hr 0 (by decide)
      have d1 : b 1 = true := hr 1 (by decide)
      have d2 : b 2 = true := hr 2 (by decide)
      have d3 : b 3 = true := hr 3 (by decide)
      have d4 : b 4 = true := hr 4 (by decide)
      have d5 : b 5 = true := hr 5 (by decide)
      simp only [d0, d1, d2, d3, d4, d5, if_true]
      obtain ⟨k1, k2⟩ := h5 d5
      rw [hb] at k2
      simp only [Bool.false_eq_true, if_false] at k2
      refine wp_store_row 49 (.tmp 10) (.tmp 31) rfl g10 (vs .i64 rB) rfl rfl 49 _ k2 (num_info n_rB.out) (by rw [vs_size, vs_size, n_Z.out, n_rB.out]) (vs_all _ _) ?_
      refine ⟨g10, hF.setRow _ (.inr k1), ?_, ?_, ?_⟩
      · intro _
        refine ⟨k1, (setRow_heap _ _ _ _ _ _ k2).trans ?_⟩
        simp [upd]
      · simp [upd, d5]
      · simp [upd, Act.put, d0, d1, d2, d3, d4, d5]
    | j + 7, ho => exact absurd ho (by simp)
  intro b a W4 hall hI
  obtain ⟨g10, hF, h5, hq5, rfl⟩ := hI
  have t0 : b 0 = true := hall 0 (by simp)
  have t1 : b 1 = true := hall 1 (by simp)
  have t2 : b 2 = true := hall 2 (by simp)
  have t3 : b 3 = true := hall 3 (by simp)
  have t4 : b 4 = true := hall 4 (by simp)
  have t5 : b 5 = true := hall 5 (by simp)
  have t6 : b 6 = true := hall 6 (by simp)
  simp only [t0, t1, t2, t3, t4, t5, t6, if_true, true_implies] at h5 hq5 ⊢
  have F4 : Hid (Fr (fun i => i = w.heap.size + 1 + 1 + 1 ∨ i = w.heap.size + 1 + 1 + 1 + 1) w W4) := F3.out.trans hF.any
  have X4_0 := Lib.hid ((hF.block _ (heap_lt X3_0.out) (fun x => x)).trans X3_0.out)
  have X4_1 := Lib.hid ((hF.block _ (heap_lt X3_1.out) (fun x => x)).trans X3_1.out)
  have X4_2 := Lib.hid ((hF.block _ (heap_lt X3_2.out) (fun x => x)).trans X3_2.out)
  have X4_3 := Lib.hid ((hF.block _ (heap_lt X3_3.out) (fun x => x)).trans X3_3.out)
  have X4_4 := Lib.hid ((hF.block _ (heap_lt X3_4.out) (fun x => x)).trans X3_4.out)
  have X4_5 := Lib.hid ((hF.block _ (heap_lt X3_5.out) (fun x => x)).trans X3_5.out)
  have X4_6 := Lib.hid ((hF.block _ (heap_lt X3_6.out) (fun x => x)).trans X3_6.out)
  have X4_7 := Lib.hid h5.2
  have Yg10 : w.heap.size ≤ g10 := Nat.le_trans F3.out.size h5.1
  clear hall hF h5 hq5 t0 t1 t2 t3 t4 t5 t6 X3_0 X3_1 X3_2 X3_3 X3_4 X3_5 X3_6 F3
  go_upto_region 4 with (fail)
  refine wp_region_seq (fun b a w' => ∃ g11 : Nat, Fr (fun _ => False) W4 w' ∧ (b 3 = true → W4.heap.size ≤ g11 ∧ w'.heap[g11]? = some (.cells (if b 4 = true then vs .i64 rBB else vs .i64 Z) 49 (0, 0))) ∧ (b 4 = true → b 3 = true) ∧ a = ⟨#[.agg (vs .i64 (ya ++ yb)), .agg (vs .i64 (yc ++ yd)), .agg (vs .i64 y1), .pointer (some ⟨w.heap.size, 0, none⟩), .pointer (some ⟨w.heap.size + 1, 0, none⟩), .pointer (some ⟨w.heap.size + 1 + 1, 0, none⟩), .pointer (some ⟨w.heap.size + 1 + 1 + 1, 0, none⟩), .pointer (some ⟨w.heap.size + 1 + 1 + 1 + 1, 0, none⟩), .pointer (some ⟨g8, 0, none⟩), .pointer (some ⟨g9, 0, none⟩), .pointer (some ⟨g10, 0, none⟩), if b 3 = true then .pointer (some ⟨g11, 0, none⟩) else undef, undef, undef, undef, undef, undef, undef, undef, .pointer (some ⟨w.heap.size, 0, none⟩), .agg (vs .i64 ya), .pointer (some ⟨w.heap.size, 16, none⟩), .agg (vs .i64 yb), .agg (vs .i64 rA), .agg (vs .i64 rA), .agg (vs .i64 rA), .agg (vs .i64 rAA), .pointer (some ⟨w.heap.size, 0, none⟩), .agg (vs .i64 ya), .pointer (some ⟨w.heap.size, 16, none⟩), .agg (vs .i64 yb), .agg (vs .i64 rB), if b 0 = true then .agg (vs .i64 rB) else undef, if b 1 = true then .agg (vs .i64 rB) else undef, if b 2 = true then .agg (vs .i64 rBB) else undef, undef, undef, undef, undef, undef, undef, undef, undef, undef, undef, undef, undef, undef, undef, undef, undef, undef, undef, undef, undef, undef, undef, undef, undef, undef, undef, undef, undef, undef, undef, undef, undef, undef, undef, undef, undef, undef, undef, undef, undef, undef, undef, undef, undef, undef], []⟩) (by kernel_rfl) ?start4 ?step4 ?done4
  case start4 => exact ⟨0, Fr.refl _ _, by simp, by simp, by simp⟩
  case step4 =>
    intro i o b a w1 ho hI hb hr
    obtain ⟨g11, hF, h3, hq3, rfl⟩ := hI
    match i, ho with
    | 0, ho =>
      injection ho with ho
      subst ho
      refine wp_quiet_here _ (quiet_load 49 (.tmp 10) rfl (g10) rfl 49 _ (0, 0) _ (fun _ h => (Fr.block h _ (Nat.lt_of_lt_of_le (heap_lt X4_7.out) hF.size) (fun x => x)).trans ((hF.block _ (heap_lt X4_7.out) (fun x => x)).trans X4_7.out)) Try.underlying49 rfl (num_info n_rB.out) rfl) (fun w2 hw2 => ?_)
      refine ⟨g11, hF.trans hw2, ?_, ?_, ?_⟩
      · intro hx
        replace hx : b 3 = true := by simpa [upd] using hx
        obtain ⟨k1', k2⟩ := h3 hx
        refine ⟨k1', (hw2.block _ (heap_lt k2) (fun x => x)).trans ?_⟩
        rw [k2]
        simp [upd]
      · simpa [upd] using hq3
      · simp [upd, Act.put]
    | 1, ho =>
      injection ho with ho
      subst ho
      have d0 : b 0 = true := hr 0 (by decide)
      simp only [d0, if_true]
      refine wp_quiet_here _ (quiet_load 49 (.tmp 10) rfl (g10) rfl 49 _ (0, 0) _ (fun _ h => (Fr.block h _ (Nat.lt_of_lt_of_le (heap_lt X4_7.out) hF.size) (fun x => x)).trans ((hF.block _ (heap_lt X4_7.out) (fun x => x)).trans X4_7.out)) Try.underlying49 rfl (num_info n_rB.out) rfl) (fun w2 hw2 => ?_)
      refine ⟨g11, hF.trans hw2, ?_, ?_, ?_⟩
      · intro hx
        replace hx : b 3 = true := by simpa [upd] using hx
        obtain ⟨k1', k2⟩ := h3 hx
        refine ⟨k1', (hw2.block _ (heap_lt k2) (fun x => x)).trans ?_⟩
        rw [k2]
        simp [upd]
      · simpa [upd] using hq3
      · simp [upd, Act.put, d0]
    | 2, ho =>
      injection ho with ho
      subst ho
      have d0 : b 0 = true := hr 0 (by decide)
      have d1 : b 1 = true := hr 1 (by decide)
      simp only [d0, d1, if_true]
      refine wp_quiet_here (.agg (vs .i64 rBB)) ?_ (fun w2 hw2 => ?_)
      · go_big_quiet_op
        exact ⟨_, Calm.calls CBB, by simp [Act.put]⟩
      refine ⟨g11, hF.trans hw2, ?_, ?_, ?_⟩
      · intro hx
        replace hx : b 3 = true := by simpa [upd] using hx
        obtain ⟨k1', k2⟩ := h3 hx
        refine ⟨k1', (hw2.block _ (heap_lt k2) (fun x => x)).trans ?_⟩
        rw [k2]
        simp [upd]
      · simpa [upd] using hq3
      · simp [upd, Act.put, d0, d1]
    | 3, ho =>
      injection ho with ho
      subst ho
      have d0 : b 0 = true := hr 0 (by decide)
      have d1 : b 1 = true := hr 1 (by decide)
      have d2 : b 2 = true := hr 2 (by decide)
      simp only [d0, d1, d2, if_true]
      refine wp_alloc_any 49 rfl (vs .i64 Z) zk ?_
      refine ⟨w1.heap.size, hF.alloc _, ?_, ?_, ?_⟩
      · intro _
        refine ⟨hF.size, (heap_alloc_new w1 _).trans ?_⟩
        have hs : b 4 = false := by
          rcases hbs : b 4 with _ | _
          · rfl
          · rw [hq3 hbs] at hb
            cases hb
        simp [upd, hs]
      · simp [upd]
      · simp [upd, Act.put, d0, d1, d2]
    | 4, ho =>
      injection ho with ho
      subst ho
      have d0 : b 0 = true := hr 0 (by decide)
      have d1 : b 1 = true := hr 1 (by decide)
      have d2 : b 2 = true := hr 2 (by decide)
      have d3 : b 3 = true := hr 3 (by decide)
      simp only [d0, d1, d2, d3, if_true]
      obtain ⟨k1, k2⟩ := h3 d3
      rw [hb] at k2
      simp only [Bool.false_eq_true, if_false] at k2
      refine wp_store_row 49 (.tmp 11) (.tmp 34) rfl g11 (vs .i64 rBB) rfl rfl 49 _ k2 (num_info n_rBB.out) (by rw [vs_size, vs_size, n_Z.out, n_rBB.out]) (vs_all _ _) ?_
      refine ⟨g11, hF.setRow _ (.inr k1), ?_, ?_, ?_⟩
      · intro _
        refine ⟨k1, (setRow_heap _ _ _ _ _ _ k2).trans ?_⟩
        simp [upd]
      · simp [upd, d3]
      · simp [upd, Act.put, d0, d1, d2, d3]
    | j + 5, ho => exact absurd ho (by simp)
  intro b a W5 hall hI
  obtain ⟨g11, hF, h3, hq3, rfl⟩ := hI
  have t0 : b 0 = true := hall 0 (by simp)
  have t1 : b 1 = true := hall 1 (by simp)
  have t2 : b 2 = true := hall 2 (by simp)
  have t3 : b 3 = true := hall 3 (by simp)
  have t4 : b 4 = true := hall 4 (by simp)
  simp only [t0, t1, t2, t3, t4, if_true, true_implies] at h3 hq3 ⊢
  have F5 : Hid (Fr (fun i => i = w.heap.size + 1 + 1 + 1 ∨ i = w.heap.size + 1 + 1 + 1 + 1) w W5) := F4.out.trans hF.any
  have X5_0 := Lib.hid ((hF.block _ (heap_lt X4_0.out) (fun x => x)).trans X4_0.out)
  have X5_1 := Lib.hid ((hF.block _ (heap_lt X4_1.out) (fun x => x)).trans X4_1.out)
  have X5_2 := Lib.hid ((hF.block _ (heap_lt X4_2.out) (fun x => x)).trans X4_2.out)
  have X5_3 := Lib.hid ((hF.block _ (heap_lt X4_3.out) (fun x => x)).trans X4_3.out)
  have X5_4 := Lib.hid ((hF.block _ (heap_lt X4_4.out) (fun x => x)).trans X4_4.out)
  have X5_5 := Lib.hid ((hF.block _ (heap_lt X4_5.out) (fun x => x)).trans X4_5.out)
  have X5_6 := Lib.hid ((hF.block _ (heap_lt X4_6.out) (fun x => x)).trans X4_6.out)
  have X5_7 := Lib.hid ((hF.block _ (heap_lt X4_7.out) (fun x => x)).trans X4_7.out)
  have X5_8 := Lib.hid h3.2
  have Yg11 : w.heap.size ≤ g11 := Nat.le_trans F4.out.size h3.1
  clear hall hF h3 hq3 t0 t1 t2 t3 t4 X4_0 X4_1 X4_2 X4_3 X4_4 X4_5 X4_6 X4_7 F4
  go_upto_region 5 with (fail)
  refine wp_region_seq (fun b a w' => ∃ g12 : Nat, Fr (fun _ => False) W5 w' ∧ (b 3 = true → W5.heap.size ≤ g12 ∧ w'.heap[g12]? = some (.cells (if b 4 = true then vs .i64 rE else vs .i64 Z) 49 (0, 0))) ∧ (b 4 = true → b 3 = true) ∧ a = ⟨#[.agg (vs .i64 (ya ++ yb)), .agg (vs .i64 (yc ++ yd)), .agg (vs .i64 y1), .pointer (some ⟨w.heap.size, 0, none⟩), .pointer (some ⟨w.heap.size + 1, 0, none⟩), .pointer (some ⟨w.heap.size + 1 + 1, 0, none⟩), .pointer (some ⟨w.heap.size + 1 + 1 + 1, 0, none⟩), .pointer (some ⟨w.heap.size + 1 + 1 + 1 + 1, 0, none⟩), .pointer (some ⟨g8, 0, none⟩), .pointer (some ⟨g9, 0, none⟩), .pointer (some ⟨g10, 0, none⟩), .pointer (some ⟨g11, 0, none⟩), if b 3 = true then .pointer (some ⟨g12, 0, none⟩) else undef, undef, undef, undef, undef, undef, undef, .pointer (some ⟨w.heap.size, 0, none⟩), .agg (vs .i64 ya), .pointer (some ⟨w.heap.size, 16, none⟩), .agg (vs .i64 yb), .agg (vs .i64 rA), .agg (vs .i64 rA), .agg (vs .i64 rA), .agg (vs .i64 rAA), .pointer (some ⟨w.heap.size, 0, none⟩), .agg (vs .i64 ya), .pointer (some ⟨w.heap.size, 16, none⟩), .agg (vs .i64 yb), .agg (vs .i64 rB), .agg (vs .i64 rB), .agg (vs .i64 rB), .agg (vs .i64 rBB), if b 0 = true then .agg (vs .i64 rAA) else undef, if b 1 = true then .agg (vs .i64 rBB) else undef, if b 2 = true then .agg (vs .i64 rE) else undef, undef, undef, undef, undef, undef, undef, undef, undef, undef, undef, undef, undef, undef, undef, undef, undef, undef, undef, undef, undef, undef, undef, undef, undef, undef, undef, undef, undef, undef, undef, undef, undef, undef, undef, undef, undef, undef, undef, undef, undef, undef, undef], []⟩) (by kernel_rfl) ?start5 ?step5 ?done5
  case start5 => exact ⟨0, Fr.refl _ _, by simp, by simp, by simp⟩
  case step5 =>
    intro i o b a w1 ho hI hb hr
    obtain ⟨g12, hF, h3, hq3, rfl⟩ := hI
    match i, ho with
    | 0, ho =>
      injection ho with ho
      subst ho
      refine wp_quiet_here _ (quiet_load 49 (.tmp 9) rfl (g9) rfl 49 _ (0, 0) _ (fun _ h => (Fr.block h _ (Nat.lt_of_lt_of_le (heap_lt X5_6.out) hF.size) (fun x => x)).trans ((hF.block _ (heap_lt X5_6.out) (fun x => x)).trans X5_6.out)) Try.underlying49 rfl (num_info n_rAA.out) rfl) (fun w2 hw2 => ?_)
      refine ⟨g12, hF.trans hw2, ?_, ?_, ?_⟩
      · intro hx
        replace hx : b 3 = true := by simpa [upd] using hx
        obtain ⟨k1', k2⟩ := h3 hx
        refine ⟨k1', (hw2.block _ (heap_lt k2) (fun x => x)).trans ?_⟩
        rw [k2]
        simp [upd]
      · simpa [upd] using hq3
      · simp [upd, Act.put]
    | 1, ho =>
      injection ho with ho
      subst ho
      have d0 : b 0 = true := hr 0 (by decide)
      simp only [d0, if_true]
      refine wp_quiet_here _ (quiet_load 49 (.tmp 11) rfl (g11) rfl 49 _ (0, 0) _ (fun _ h => (Fr.block h _ (Nat.lt_of_lt_of_le (heap_lt X5_8.out) hF.size) (fun x => x)).trans ((hF.block _ (heap_lt X5_8.out) (fun x => x)).trans X5_8.out)) Try.underlying49 rfl (num_info n_rBB.out) rfl) (fun w2 hw2 => ?_)
      refine ⟨g12, hF.trans hw2, ?_, ?_, ?_⟩
      · intro hx
        replace hx : b 3 = true := by simpa [upd] using hx
        obtain ⟨k1', k2⟩ := h3 hx
        refine ⟨k1', (hw2.block _ (heap_lt k2) (fun x => x)).trans ?_⟩
        rw [k2]
        simp [upd]
      · simpa [upd] using hq3
      · simp [upd, Act.put, d0]
    | 2, ho =>
      injection ho with ho
      subst ho
      have d0 : b 0 = true := hr 0 (by decide)
      have d1 : b 1 = true := hr 1 (by decide)
      simp only [d0, d1, if_true]
      refine wp_quiet_here (.agg (vs .i64 rE)) ?_ (fun w2 hw2 => ?_)
      · go_big_quiet_op
        exact ⟨_, Calm.calls CE, by simp [Act.put]⟩
      refine ⟨g12, hF.trans hw2, ?_, ?_, ?_⟩
      · intro hx
        replace hx : b 3 = true := by simpa [upd] using hx
        obtain ⟨k1', k2⟩ := h3 hx
        refine ⟨k1', (hw2.block _ (heap_lt k2) (fun x => x)).trans ?_⟩
        rw [k2]
        simp [upd]
      · simpa [upd] using hq3
      · simp [upd, Act.put, d0, d1]
    | 3, ho =>
      injection ho with ho
      subst ho
      have d0 : b 0 = true := hr 0 (by decide)
      have d1 : b 1 = true := hr 1 (by decide)
      have d2 : b 2 = true := hr 2 (by decide)
      simp only [d0, d1, d2, if_true]
      refine wp_alloc_any 49 rfl (vs .i64 Z) zk ?_
      refine ⟨w1.heap.size, hF.alloc _, ?_, ?_, ?_⟩
      · intro _
        refine ⟨hF.size, (heap_alloc_new w1 _).trans ?_⟩
        have hs : b 4 = false := by
          rcases hbs : b 4 with _ | _
          · rfl
          · rw [hq3 hbs] at hb
            cases hb
        simp [upd, hs]
      · simp [upd]
      · simp [upd, Act.put, d0, d1, d2]
    | 4, ho =>
      injection ho with ho
      subst ho
      have d0 : b 0 = true := hr 0 (by decide)
      have d1 : b 1 = true := hr 1 (by decide)
      have d2 : b 2 = true := hr 2 (by decide)
      have d3 : b 3 = true := hr 3 (by decide)
      simp only [d0, d1, d2, d3, if_true]
      obtain ⟨k1, k2⟩ := h3 d3
      rw [hb] at k2
      simp only [Bool.false_eq_true, if_false] at k2
      refine wp_store_row 49 (.tmp 12) (.tmp 37) rfl g12 (vs .i64 rE) rfl rfl 49 _ k2 (num_info n_rE.out) (by rw [vs_size, vs_size, n_Z.out, n_rE.out]) (vs_all _ _) ?_
      refine ⟨g12, hF.setRow _ (.inr k1), ?_, ?_, ?_⟩
      · intro _
        refine ⟨k1, (setRow_heap _ _ _ _ _ _ k2).trans ?_⟩
        simp [upd]
      · simp [upd, d3]
      · simp [upd, Act.put, d0, d1, d2, d3]
    | j + 5, ho => exact absurd ho (by simp)
  intro b a W6 hall hI
  obtain ⟨g12, hF, h3, hq3, rfl⟩ := hI
  have t0 : b 0 = true := hall 0 (by simp)
  have t1 : b 1 = true := hall 1 (by simp)
  have t2 : b 2 = true := hall 2 (by simp)
  have t3 : b 3 = true := hall 3 (by simp)
  have t4 : b 4 = true := hall 4 (by simp)
  simp only [t0, t1, t2, t3, t4, if_true, true_implies] at h3 hq3 ⊢
  have F6 : Hid (Fr (fun i => i = w.heap.size + 1 + 1 + 1 ∨ i = w.heap.size + 1 + 1 + 1 + 1) w W6) := F5.out.trans hF.any
  have X6_0 := Lib.hid ((hF.block _ (heap_lt X5_0.out) (fun x => x)).trans X5_0.out)
  have X6_1 := Lib.hid ((hF.block _ (heap_lt X5_1.out) (fun x => x)).trans X5_1.out)
  have X6_2 := Lib.hid ((hF.block _ (heap_lt X5_2.out) (fun x => x)).trans X5_2.out)
  have X6_3 := Lib.hid ((hF.block _ (heap_lt X5_3.out) (fun x => x)).trans X5_3.out)
  have X6_4 := Lib.hid ((hF.block _ (heap_lt X5_4.out) (fun x => x)).trans X5_4.out)
  have X6_5 := Lib.hid ((hF.block _ (heap_lt X5_5.out) (fun x => x)).trans X5_5.out)
  have X6_6 := Lib.hid ((hF.block _ (heap_lt X5_6.out) (fun x => x)).trans X5_6.out)
  have X6_7 := Lib.hid ((hF.block _ (heap_lt X5_7.out) (fun x => x)).trans X5_7.out)
  have X6_8 := Lib.hid ((hF.block _ (heap_lt X5_8.out) (fun x => x)).trans X5_8.out)
  have X6_9 := Lib.hid h3.2
  have Yg12 : w.heap.size ≤ g12 := Nat.le_trans F5.out.size h3.1
  clear hall hF h3 hq3 t0 t1 t2 t3 t4 X5_0 X5_1 X5_2 X5_3 X5_4 X5_5 X5_6 X5_7 X5_8 F5
  go_upto_region 6 with (fail)
  refine wp_region_inv2 (fun b a w' => ∃ g13 : Nat, Fr (fun _ => False) W6 w' ∧ (b 7 = true → W6.heap.size ≤ g13 ∧ w'.heap[g13]? = some (.cells (if b 8 = true then vs .i64 rDA else vs .i64 Z) 49 (0, 0))) ∧ (b 8 = true → b 7 = true) ∧ a = ⟨#[.agg (vs .i64 (ya ++ yb)), .agg (vs .i64 (yc ++ yd)), .agg (vs .i64 y1), .pointer (some ⟨w.heap.size, 0, none⟩), .pointer (some ⟨w.heap.size + 1, 0, none⟩), .pointer (some ⟨w.heap.size + 1 + 1, 0, none⟩), .pointer (some ⟨w.heap.size + 1 + 1 + 1, 0, none⟩), .pointer (some ⟨w.heap.size + 1 + 1 + 1 + 1, 0, none⟩), .pointer (some ⟨g8, 0, none⟩), .pointer (some ⟨g9, 0, none⟩), .pointer (some ⟨g10, 0, none⟩), .pointer (some ⟨g11, 0, none⟩), .pointer (some ⟨g12, 0, none⟩), if b 7 = true then .pointer (some ⟨g13, 0, none⟩) else undef, undef, undef, undef, undef, undef, .pointer (some ⟨w.heap.size, 0, none⟩), .agg (vs .i64 ya), .pointer (some ⟨w.heap.size, 16, none⟩), .agg (vs .i64 yb), .agg (vs .i64 rA), .agg (vs .i64 rA), .agg (vs .i64 rA), .agg (vs .i64 rAA), .pointer (some ⟨w.heap.size, 0, none⟩), .agg (vs .i64 ya), .pointer (some ⟨w.heap.size, 16, none⟩), .agg (vs .i64 yb), .agg (vs .i64 rB), .agg (vs .i64 rB), .agg (vs .i64 rB), .agg (vs .i64 rBB), .agg (vs .i64 rAA), .agg (vs .i64 rBB), .agg (vs .i64 rE), if b 0 = true then .pointer (some ⟨w.heap.size + 1, 0, none⟩) else undef, if b 1 = true then .agg (vs .i64 yc) else undef, if b 2 = true then .pointer (some ⟨w.heap.size + 1, 16, none⟩) else undef, if b 3 = true then .agg (vs .i64 yd) else undef, if b 4 = true then .agg (vs .i64 rD) else undef, if b 5 = true then .agg (vs .i64 rA) else undef, if b 6 = true then .agg (vs .i64 rDA) else undef, undef, undef, undef, undef, undef, undef, undef, undef, undef, undef, undef, undef, undef, undef, undef, undef, undef, undef, undef, undef, undef, undef, undef, undef, undef, undef, undef, undef, undef, undef, undef, undef, undef, undef, undef], []⟩) (by kernel_rfl) (by kernel_rfl) ?start6 ?step6 ?done6
  case start6 => exact ⟨0, ⟨rfl, rfl, rfl, Nat.le_refl _, fun _ _ _ => rfl⟩, by simp, by simp, by simp⟩
  case step6 =>
    intro i o b a w1 ho hI hb hr hc
    obtain ⟨g13, hF, h7, hq7, rfl⟩ := hI
    match i, ho with
    | 0, ho =>
      injection ho with ho
      subst ho
      refine wp_quiet_here (.pointer (some ⟨w.heap.size + 1, 0, none⟩)) ?_ (fun w2 hw2 => ?_)
      · simp only [Bool.false_eq_true] 
        go_big_quiet_op
        first
          | (simp [Act.put]; done)
          | exact ⟨_, fun _ _ => rfl, by simp [Act.put]⟩
      refine ⟨g13, hF.trans hw2, ?_, ?_, ?_⟩
      · intro hx
        replace hx : b 7 = true := by simpa [upd] using hx
        obtain ⟨k1', k2⟩ := h7 hx
        refine ⟨k1', (hw2.block _ (heap_lt k2) (fun x => x)).trans ?_⟩
        rw [k2]
        simp [upd]
      · simpa [upd] using hq7
      · simp [upd, Act.put]
    | 1, ho =>
      injection ho with ho
      subst ho
      simp [Region.binds] at hr
      have d0 : b 0 = true := by simp only [hr]
      simp only [hr, if_true]
      refine wp_quiet_here _ (quiet_num (.tmp 38) rfl (w.heap.size + 1) 0 rfl yc n_yc.out (fun _ h => side_r0 n_yc.out ((Fr.block h _ (Nat.lt_of_lt_of_le (heap_lt X6_1.out) hF.size) (fun x => x)).trans ((hF.block _ (heap_lt X6_1.out) (fun x => x)).trans X6_1.out))) rfl) (fun w2 hw2 => ?_)
      refine ⟨g13, hF.trans hw2, ?_, ?_, ?_⟩
      · intro hx
        replace hx : b 7 = true := by simpa [upd] using hx
        obtain ⟨k1', k2⟩ := h7 hx
        refine ⟨k1', (hw2.block _ (heap_lt k2) (fun x => x)).trans ?_⟩
        rw [k2]
        simp [upd]
      · simpa [upd] using hq7
      · simp [upd, Act.put, hr]
    | 2, ho =>
      injection ho with ho
      subst ho
      refine wp_quiet_here (.pointer (some ⟨w.heap.size + 1, 16, none⟩)) ?_ (fun w2 hw2 => ?_)
      · simp only [Bool.false_eq_true] 
        go_big_quiet_op
        first
          | (simp [Act.put]; done)
          | exact ⟨_, fun _ _ => rfl, by simp [Act.put]⟩
      refine ⟨g13, hF.trans hw2, ?_, ?_, ?_⟩
      · intro hx
        replace hx : b 7 = true := by simpa [upd] using hx
        obtain ⟨k1', k2⟩ := h7 hx
        refine ⟨k1', (hw2.block _ (heap_lt k2) (fun x => x)).trans ?_⟩
        rw [k2]
        simp [upd]
      · simpa [upd] using hq7
      · simp [upd, Act.put]
    | 3, ho =>
      injection ho with ho
      subst ho
      simp [Region.binds] at hr
      have d2 : b 2 = true := by simp only [hr]
      simp only [hr, if_true]
      refine wp_quiet_here _ (quiet_num (.tmp 40) rfl (w.heap.size + 1) 16 rfl yd n_yd.out (fun _ h => side_r1 n_yc.out ((Fr.block h _ (Nat.lt_of_lt_of_le (heap_lt X6_1.out) hF.size) (fun x => x)).trans ((hF.block _ (heap_lt X6_1.out) (fun x => x)).trans X6_1.out))) rfl) (fun w2 hw2 => ?_)
      refine ⟨g13, hF.trans hw2, ?_, ?_, ?_⟩
      · intro hx
        replace hx : b 7 = true := by simpa [upd] using hx
        obtain ⟨k1', k2⟩ := h7 hx
        refine ⟨k1', (hw2.block _ (heap_lt k2) (fun x => x)).trans ?_⟩
        rw [k2]
        simp [upd]
      · simpa [upd] using hq7
      · simp [upd, Act.put, hr]
    | 4, ho =>
      injection ho with ho
      subst ho
      simp [Region.binds] at hr
      have d1 : b 1 = true := by simp only [hr]
      have d3 : b 3 = true := by simp only [hr]
      simp only [hr, if_true]
      refine wp_quiet_here (.agg (vs .i64 rD)) ?_ (fun w2 hw2 => ?_)
      · go_big_quiet_op
        exact ⟨_, Calm.calls CD, by simp [Act.put]⟩
      refine ⟨g13, hF.trans hw2, ?_, ?_, ?_⟩
      · intro hx
        replace hx : b 7 = true := by simpa [upd] using hx
        obtain ⟨k1', k2⟩ := h7 hx
        refine ⟨k1', (hw2.block _ (heap_lt k2) (fun x => x)).trans ?_⟩
        rw [k2]
        simp [upd]
      · simpa [upd] using hq7
      · simp [upd, Act.put, hr]
    | 5, ho =>
      injection ho with ho
      subst ho
      refine wp_quiet_here _ (quiet_load 49 (.tmp 8) rfl (g8) rfl 49 _ (0, 0) _ (fun _ h => (Fr.block h _ (Nat.lt_of_lt_of_le (heap_lt X6_5.out) hF.size) (fun x => x)).trans ((hF.block _ (heap_lt X6_5.out) (fun x => x)).trans X6_5.out)) Try.underlying49 rfl (num_info n_rA.out) rfl) (fun w2 hw2 => ?_)
      refine ⟨g13, hF.trans hw2, ?_, ?_, ?_⟩
      · intro hx
        replace hx : b 7 = true := by simpa [upd] using hx
        obtain ⟨k1', k2⟩ := h7 hx
        refine ⟨k1', (hw2.block _ (heap_lt k2) (fun x => x)).trans ?_⟩
        rw [k2]
        simp [upd]
      · simpa [upd] using hq7
      · simp [upd, Act.put]
    | 6, ho =>
      injection ho with ho
      subst ho
      simp [Region.binds] at hr
      have d4 : b 4 = true := by simp only [hr]
      have d5 : b 5 = true := by simp only [hr]
      simp only [hr, if_true]
      refine wp_quiet_here (.agg (vs .i64 rDA)) ?_ (fun w2 hw2 => ?_)
      · go_big_quiet_op
        exact ⟨_, Calm.calls CDA, by simp [Act.put]⟩
      refine ⟨g13, hF.trans hw2, ?_, ?_, ?_⟩
      · intro hx
        replace hx : b 7 = true := by simpa [upd] using hx
        obtain ⟨k1', k2⟩ := h7 hx
        refine ⟨k1', (hw2.block _ (heap_lt k2) (fun x => x)).trans ?_⟩
        rw [k2]
        simp [upd]
      · simpa [upd] using hq7
      · simp [upd, Act.put, hr]
    | 7, ho =>
      injection ho with ho
      subst ho
      refine wp_alloc_any 49 rfl (vs .i64 Z) zk ?_
      refine ⟨w1.heap.size, hF.alloc _, ?_, ?_, ?_⟩
      · intro _
        refine ⟨hF.size, (heap_alloc_new w1 _).trans ?_⟩
        have hs : b 8 = false := by
          rcases hbs : b 8 with _ | _
          · rfl
          · rw [hq7 hbs] at hb
            cases hb
        simp [upd, hs]
      · simp [upd]
      · simp [upd, Act.put]
    | 8, ho =>
      injection ho with ho
      subst ho
      simp [Region.binds] at hr
      have d6 : b 6 = true := by simp only [hr]
      have d7 : b 7 = true := by simp only [hr]
      simp only [hr, if_true]
      obtain ⟨k1, k2⟩ := h7 d7
      rw [hb] at k2
      simp only [Bool.false_eq_true, if_false] at k2
      refine wp_store_row 49 (.tmp 13) (.tmp 44) rfl g13 (vs .i64 rDA) rfl rfl 49 _ k2 (num_info n_rDA.out) (by rw [vs_size, vs_size, n_Z.out, n_rDA.out]) (vs_all _ _) ?_
      refine ⟨g13, hF.setRow _ (.inr k1), ?_, ?_, ?_⟩
      · intro _
        refine ⟨k1, (setRow_heap _ _ _ _ _ _ k2).trans ?_⟩
        simp [upd]
      · simp [upd, d7]
      · simp [upd, Act.put, hr]
    | j + 9, ho => exact absurd ho (by simp)
  intro b a W7 hall hI
  obtain ⟨g13, hF, h7, hq7, rfl⟩ := hI
  have t0 : b 0 = true := hall 0 (by simp)
  have t1 : b 1 = true := hall 1 (by simp)
  have t2 : b 2 = true := hall 2 (by simp)
  have t3 : b 3 = true := hall 3 (by simp)
  have t4 : b 4 = true := hall 4 (by simp)
  have t5 : b 5 = true := hall 5 (by simp)
  have t6 : b 6 = true := hall 6 (by simp)
  have t7 : b 7 = true := hall 7 (by simp)
  have t8 : b 8 = true := hall 8 (by simp)
  simp only [t0, t1, t2, t3, t4, t5, t6, t7, t8, if_true, true_implies] at h7 hq7 ⊢
  have F7 : Hid (Fr (fun i => i = w.heap.size + 1 + 1 + 1 ∨ i = w.heap.size + 1 + 1 + 1 + 1) w W7) := F6.out.trans hF.any
  have X7_0 := Lib.hid ((hF.block _ (heap_lt X6_0.out) (fun x => x)).trans X6_0.out)
  have X7_1 := Lib.hid ((hF.block _ (heap_lt X6_1.out) (fun x => x)).trans X6_1.out)
  have X7_2 := Lib.hid ((hF.block _ (heap_lt X6_2.out) (fun x => x)).trans X6_2.out)
  have X7_3 := Lib.hid ((hF.block _ (heap_lt X6_3.out) (fun x => x)).trans X6_3.out)
  have X7_4 := Lib.hid ((hF.block _ (heap_lt X6_4.out) (fun x => x)).trans X6_4.out)
  have X7_5 := Lib.hid ((hF.block _ (heap_lt X6_5.out) (fun x => x)).trans X6_5.out)
  have X7_6 := Lib.hid ((hF.block _ (heap_lt X6_6.out) (fun x => x)).trans X6_6.out)
  have X7_7 := Lib.hid ((hF.block _ (heap_lt X6_7.out) (fun x => x)).trans X6_7.out)
  have X7_8 := Lib.hid ((hF.block _ (heap_lt X6_8.out) (fun x => x)).trans X6_8.out)
  have X7_9 := Lib.hid ((hF.block _ (heap_lt X6_9.out) (fun x => x)).trans X6_9.out)
  have X7_10 := Lib.hid h7.2
  have Yg13 : w.heap.size ≤ g13 := Nat.le_trans F6.out.size h7.1
  clear hall hF h7 hq7 t0 t1 t2 t3 t4 t5 t6 t7 t8 X6_0 X6_1 X6_2 X6_3 X6_4 X6_5 X6_6 X6_7 X6_8 X6_9 F6
  go_upto_region 7 with (fail)
  refine wp_region_inv2 (fun b a w' => ∃ g14 : Nat, Fr (fun _ => False) W7 w' ∧ (b 7 = true → W7.heap.size ≤ g14 ∧ w'.heap[g14]? = some (.cells (if b 8 = true then vs .i64 rCB else vs .i64 Z) 49 (0, 0))) ∧ (b 8 = true → b 7 = true) ∧ a = ⟨#[.agg (vs .i64 (ya ++ yb)), .agg (vs .i64 (yc ++ yd)), .agg (vs .i64 y1), .pointer (some ⟨w.heap.size, 0, none⟩), .pointer (some ⟨w.heap.size + 1, 0, none⟩), .pointer (some ⟨w.heap.size + 1 + 1, 0, none⟩), .pointer (some ⟨w.heap.size + 1 + 1 + 1, 0, none⟩), .pointer (some ⟨w.heap.size + 1 + 1 + 1 + 1, 0, none⟩), .pointer (some ⟨g8, 0, none⟩), .pointer (some ⟨g9, 0, none⟩), .pointer (some ⟨g10, 0, none⟩), .pointer (some ⟨g11, 0, none⟩), .pointer (some ⟨g12, 0, none⟩), .pointer (some ⟨g13, 0, none⟩), if b 7 = true then .pointer (some ⟨g14, 0, none⟩) else undef, undef, undef, undef, undef, .pointer (some ⟨w.heap.size, 0, none⟩), .agg (vs .i64 ya), .pointer (some ⟨w.heap.size, 16, none⟩), .agg (vs .i64 yb), .agg (vs .i64 rA), .agg (vs .i64 rA), .agg (vs .i64 rA), .agg (vs .i64 rAA), .pointer (some ⟨w.heap.size, 0, none⟩), .agg (vs .i64 ya), .pointer (some ⟨w.heap.size, 16, none⟩), .agg (vs .i64 yb), .agg (vs .i64 rB), .agg (vs .i64 rB), .agg (vs .i64 rB), .agg (vs .i64 rBB), .agg (vs .i64 rAA), .agg (vs .i64 rBB), .agg (vs .i64 rE), .pointer (some ⟨w.heap.size + 1, 0, none⟩), .agg (vs .i64 yc), .pointer (some ⟨w.heap.size + 1, 16, none⟩), .agg (vs .i64 yd), .agg (vs .i64 rD), .agg (vs .i64 rA), .agg (vs .i64 rDA), if b 0 = true then .pointer (some ⟨w.heap.size + 1, 0, none⟩) else undef, if b 1 = true then .agg (vs .i64 yc) else undef, if b 2 = true then .pointer (some ⟨w.heap.size + 1, 16, none⟩) else undef, if b 3 = true then .agg (vs .i64 yd) else undef, if b 4 = true then .agg (vs .i64 rC) else undef, if b 5 = true then .agg (vs .i64 rB) else undef, if b 6 = true then .agg (vs .i64 rCB) else undef, undef, undef, undef, undef, undef, undef, undef, undef, undef, undef, undef, undef, undef, undef, undef, undef, undef, undef, undef, undef, undef, undef, undef, undef, undef, undef, undef, undef], []⟩) (by kernel_rfl) (by kernel_rfl) ?start7 ?step7 ?done7
  case start7 => exact ⟨0, ⟨rfl, rfl, rfl, Nat.le_refl _, fun _ _ _ => rfl⟩, by simp, by simp, by simp⟩
  case step7 =>
    intro i o b a w1 ho hI hb hr hc
    obtain ⟨g14, hF, h7, hq7, rfl⟩ := hI
    match i, ho with
    | 0, ho =>
      injection ho with ho
      subst ho
      refine wp_quiet_here (.pointer (some ⟨w.heap.size + 1, 0, none⟩)) ?_ (fun w2 hw2 => ?_)
      · simp only [Bool.false_eq_true] 
        go_big_quiet_op
        first
          | (simp [Act.put]; done)
          | exact ⟨_, fun _ _ => rfl, by simp [Act.put]⟩
      refine ⟨g14, hF.trans hw2, ?_, ?_, ?_⟩
      · intro hx
        replace hx : b 7 = true := by simpa [upd] using hx
        obtain ⟨k1', k2⟩ := h7 hx
        refine ⟨k1', (hw2.block _ (heap_lt k2) (fun x => x)).trans ?_⟩
        rw [k2]
        simp [upd]
      · simpa [upd] using hq7
      · simp [upd, Act.put]
    | 1, ho =>
      injection ho with ho
      subst ho
      simp [Region.binds] at hr
      have d0 : b 0 = true := by simp only [hr]
      simp only [hr, if_true]
      refine wp_quiet_here _ (quiet_num (.tmp 45) rfl (w.heap.size + 1) 0 rfl yc n_yc.out (fun _ h => side_r0 n_yc.out ((Fr.block h _ (Nat.lt_of_lt_of_le (heap_lt X7_1.out) hF.size) (fun x => x)).trans ((hF.block _ (heap_lt X7_1.out) (fun x => x)).trans X7_1.out))) rfl) (fun w2 hw2 => ?_)
      refine ⟨g14, hF.trans hw2, ?_, ?_, ?_⟩
      · intro hx
        replace hx : b 7 = true := by simpa [upd] using hx
        obtain ⟨k1', k2⟩ := h7 hx
        refine ⟨k1', (hw2.block _ (heap_lt k2) (fun x => x)).trans ?_⟩
        rw [k2]
        simp [upd]
      · simpa [upd] using hq7
      · simp [upd, Act.put, hr]
    | 2, ho =>
      injection ho with ho
      subst ho
      refine wp_quiet_here (.pointer (some ⟨w.heap.size + 1, 16, none⟩)) ?_ (fun w2 hw2 => ?_)
      · simp only [Bool.false_eq_true] 
        go_big_quiet_op
        first
          | (simp [Act.put]; done)
          | exact ⟨_, fun _ _ => rfl, by simp [Act.put]⟩
      refine ⟨g14, hF.trans hw2, ?_, ?_, ?_⟩
      · intro hx
        replace hx : b 7 = true := by simpa [upd] using hx
        obtain ⟨k1', k2⟩ := h7 hx
        refine ⟨k1', (hw2.block _ (heap_lt k2) (fun x => x)).trans ?_⟩
        rw [k2]
        simp [upd]
      · simpa [upd] using hq7
      · simp [upd, Act.put]
    | 3, ho =>
      injection ho with ho
      subst ho
      simp [Region.binds] at hr
      have d2 : b 2 = true := by simp only [hr]
      simp only [hr, if_true]
      refine wp_quiet_here _ (quiet_num (.tmp 47) rfl (w.heap.size + 1) 16 rfl yd n_yd.out (fun _ h => side_r1 n_yc.out ((Fr.block h _ (Nat.lt_of_lt_of_le (heap_lt X7_1.out) hF.size) (fun x => x)).trans ((hF.block _ (heap_lt X7_1.out) (fun x => x)).trans X7_1.out))) rfl) (fun w2 hw2 => ?_)
      refine ⟨g14, hF.trans hw2, ?_, ?_, ?_⟩
      · intro hx
        replace hx : b 7 = true := by simpa [upd] using hx
        obtain ⟨k1', k2⟩ := h7 hx
        refine ⟨k1', (hw2.block _ (heap_lt k2) (fun x => x)).trans ?_⟩
        rw [k2]
        simp [upd]
      · simpa [upd] using hq7
      · simp [upd, Act.put, hr]
    | 4, ho =>
      injection ho with ho
      subst ho
      simp [Region.binds] at hr
      have d1 : b 1 = true := by simp only [hr]
      have d3 : b 3 = true := by simp only [hr]
      simp only [hr, if_true]
      refine wp_quiet_here (.agg (vs .i64 rC)) ?_ (fun w2 hw2 => ?_)
      · go_big_quiet_op
        exact ⟨_, Calm.calls CC, by simp [Act.put]⟩
      refine ⟨g14, hF.trans hw2, ?_, ?_, ?_⟩
      · intro hx
        replace hx : b 7 = true := by simpa [upd] using hx
        obtain ⟨k1', k2⟩ := h7 hx
        refine ⟨k1', (hw2.block _ (heap_lt k2) (fun x => x)).trans ?_⟩
        rw [k2]
        simp [upd]
      · simpa [upd] using hq7
      · simp [upd, Act.put, hr]
    | 5, ho =>
      injection ho with ho
      subst ho
      refine wp_quiet_here _ (quiet_load 49 (.tmp 10) rfl (g10) rfl 49 _ (0, 0) _ (fun _ h => (Fr.block h _ (Nat.lt_of_lt_of_le (heap_lt X7_7.out) hF.size) (fun x => x)).trans ((hF.block _ (heap_lt X7_7.out) (fun x => x)).trans X7_7.out)) Try.underlying49 rfl (num_info n_rB.out) rfl) (fun w2 hw2 => ?_)
      refine ⟨g14, hF.trans hw2, ?_, ?_, ?_⟩
      · intro hx
        replace hx : b 7 = true := by simpa [upd] using hx
        obtain ⟨k1', k2⟩ := h7 hx
        refine ⟨k1', (hw2.block _ (heap_lt k2) (fun x => x)).trans ?_⟩
        rw [k2]
        simp [upd]
      · simpa [upd] using hq7
      · simp [upd, Act.put]
    | 6, ho =>
      injection ho with ho
      subst ho
      simp [Region.binds] at hr
      have d4 : b 4 = true := by simp only [hr]
      have d5 : b 5 = true := by simp only [hr]
      simp only [hr, if_true]
      refine wp_quiet_here (.agg (vs .i64 rCB)) ?_ (fun w2 hw2 => ?_)
      · go_big_quiet_op
        exact ⟨_, Calm.calls CCB, by simp [Act.put]⟩
      refine ⟨g14, hF.trans hw2, ?_, ?_, ?_⟩
      · intro hx
        replace hx : b 7 = true := by simpa [upd] using hx
        obtain ⟨k1', k2⟩ := h7 hx
        refine ⟨k1', (hw2.block _ (heap_lt k2) (fun x => x)).trans ?_⟩
        rw [k2]
        simp [upd]
      · simpa [upd] using hq7
      · simp [upd, Act.put, hr]
    | 7, ho =>
      injection ho with ho
      subst ho
      refine wp_alloc_any 49 rfl (vs .i64 Z) zk ?_
      refine ⟨w1.heap.size, hF.alloc _, ?_, ?_, ?_⟩
      · intro _
        refine ⟨hF.size, (heap_alloc_new w1 _).trans ?_⟩
        have hs : b 8 = false := by
          rcases hbs : b 8 with _ | _
          · rfl
          · rw [hq7 hbs] at hb
            cases hb
        simp [upd, hs]
      · simp [upd]
      · simp [upd, Act.put]
    | 8, ho =>
      injection ho with ho
      subst ho
      simp [Region.binds] at hr
      have d6 : b 6 = true := by simp only [hr]
      have d7 : b 7 = true := by simp only [hr]
      simp only [hr, if_true]
      obtain ⟨k1, k2⟩ := h7 d7
      rw [hb] at k2
      simp only [Bool.false_eq_true, if_false] at k2
      refine wp_store_row 49 (.tmp 14) (.tmp 51) rfl g14 (vs .i64 rCB) rfl rfl 49 _ k2 (num_info n_rCB.out) (by rw [vs_size, vs_size, n_Z.out, n_rCB.out]) (vs_all _ _) ?_
      refine ⟨g14, hF.setRow _ (.inr k1), ?_, ?_, ?_⟩
      · intro _
        refine ⟨k1, (setRow_heap _ _ _ _ _ _ k2).trans ?_⟩
        simp [upd]
      · simp [upd, d7]
      · simp [upd, Act.put, hr]
    | j + 9, ho => exact absurd ho (by simp)
  intro b a W8 hall hI
  obtain ⟨g14, hF, h7, hq7, rfl⟩ := hI
  have t0 : b 0 = true := hall 0 (by simp)
  have t1 : b 1 = true := hall 1 (by simp)
  have t2 : b 2 = true := hall 2 (by simp)
  have t3 : b 3 = true := hall 3 (by simp)
  have t4 : b 4 = true := hall 4 (by simp)
  have t5 : b 5 = true := hall 5 (by simp)
  have t6 : b 6 = true := hall 6 (by simp)
  have t7 : b 7 = true := hall 7 (by simp)
  have t8 : b 8 = true := hall 8 (by simp)
  simp only [t0, t1, t2, t3, t4, t5, t6, t7, t8, if_true, true_implies] at h7 hq7 ⊢
  have F8 : Hid (Fr (fun i => i = w.heap.size + 1 + 1 + 1 ∨ i = w.heap.size + 1 + 1 + 1 + 1) w W8) := F7.out.trans hF.any
  have X8_0 := Lib.hid ((hF.block _ (heap_lt X7_0.out) (fun x => x)).trans X7_0.out)
  have X8_1 := Lib.hid ((hF.block _ (heap_lt X7_1.out) (fun x => x)).trans X7_1.out)
  have X8_2 := Lib.hid ((hF.block _ (heap_lt X7_2.out) (fun x => x)).trans X7_2.out)
  have X8_3 := Lib.hid ((hF.block _ (heap_lt X7_3.out) (fun x => x)).trans X7_3.out)
  have X8_4 := Lib.hid ((hF.block _ (heap_lt X7_4.out) (fun x => x)).trans X7_4.out)
  have X8_5 := Lib.hid ((hF.block _ (heap_lt X7_5.out) (fun x => x)).trans X7_5.out)
  have X8_6 := Lib.hid ((hF.block _ (heap_lt X7_6.out) (fun x => x)).trans X7_6.out)
  have X8_7 := Lib.hid ((hF.block _ (heap_lt X7_7.out) (fun x => x)).trans X7_7.out)
  have X8_8 := Lib.hid ((hF.block _ (heap_lt X7_8.out) (fun x => x)).trans X7_8.out)
  have X8_9 := Lib.hid ((hF.block _ (heap_lt X7_9.out) (fun x => x)).trans X7_9.out)
  have X8_10 := Lib.hid ((hF.block _ (heap_lt X7_10.out) (fun x => x)).trans X7_10.out)
  have X8_11 := Lib.hid h7.2
  have Yg14 : w.heap.size ≤ g14 := Nat.le_trans F7.out.size h7.1
  clear hall hF h7 hq7 t0 t1 t2 t3 t4 t5 t6 t7 t8 X7_0 X7_1 X7_2 X7_3 X7_4 X7_5 X7_6 X7_7 X7_8 X7_9 X7_10 F7
  go_upto_region 8 with (fail)
  refine wp_region_inv2 (fun b a w' => ∃ g15 g16 : Nat, Fr (fun _ => False) W8 w' ∧ (b 6 = true → W8.heap.size ≤ g15 ∧ w'.heap[g15]? = some (.cells (if b 8 = true then vs .i64 rS else vs .i64 Z) 49 (0, 0))) ∧ (b 7 = true → W8.heap.size ≤ g16 ∧ w'.heap[g16]? = some (.cells (if b 9 = true then vs .i64 rL else vs .i64 Z) 49 (0, 0))) ∧ (b 6 = true → b 7 = true → g15 ≠ g16) ∧ (b 8 = true → b 6 = true) ∧ (b 9 = true → b 7 = true) ∧ a = ⟨#[.agg (vs .i64 (ya ++ yb)), .agg (vs .i64 (yc ++ yd)), .agg (vs .i64 y1), .pointer (some ⟨w.heap.size, 0, none⟩), .pointer (some ⟨w.heap.size + 1, 0, none⟩), .pointer (some ⟨w.heap.size + 1 + 1, 0, none⟩), .pointer (some ⟨w.heap.size + 1 + 1 + 1, 0, none⟩), .pointer (some ⟨w.heap.size + 1 + 1 + 1 + 1, 0, none⟩), .pointer (some ⟨g8, 0, none⟩), .pointer (some ⟨g9, 0, none⟩), .pointer (some ⟨g10, 0, none⟩), .pointer (some ⟨g11, 0, none⟩), .pointer (some ⟨g12, 0, none⟩), .pointer (some ⟨g13, 0, none⟩), .pointer (some ⟨g14, 0, none⟩), if b 6 = true then .pointer (some ⟨g15, 0, none⟩) else undef, if b 7 = true then .pointer (some ⟨g16, 0, none⟩) else undef, undef, undef, .pointer (some ⟨w.heap.size, 0, none⟩), .agg (vs .i64 ya), .pointer (some ⟨w.heap.size, 16, none⟩), .agg (vs .i64 yb), .agg (vs .i64 rA), .agg (vs .i64 rA), .agg (vs .i64 rA), .agg (vs .i64 rAA), .pointer (some ⟨w.heap.size, 0, none⟩), .agg (vs .i64 ya), .pointer (some ⟨w.heap.size, 16, none⟩), .agg (vs .i64 yb), .agg (vs .i64 rB), .agg (vs .i64 rB), .agg (vs .i64 rB), .agg (vs .i64 rBB), .agg (vs .i64 rAA), .agg (vs .i64 rBB), .agg (vs .i64 rE), .pointer (some ⟨w.heap.size + 1, 0, none⟩), .agg (vs .i64 yc), .pointer (some ⟨w.heap.size + 1, 16, none⟩), .agg (vs .i64 yd), .agg (vs .i64 rD), .agg (vs .i64 rA), .agg (vs .i64 rDA), .pointer (some ⟨w.heap.size + 1, 0, none⟩), .agg (vs .i64 yc), .pointer (some ⟨w.heap.size + 1, 16, none⟩), .agg (vs .i64 yd), .agg (vs .i64 rC), .agg (vs .i64 rB), .agg (vs .i64 rCB), if b 0 = true then .agg (vs .i64 rDA) else undef, if b 1 = true then .agg (vs .i64 rCB) else undef, if b 2 = true then .agg (vs .i64 rS) else undef, if b 3 = true then .agg (vs .i64 rDA) else undef, if b 4 = true then .agg (vs .i64 rCB) else undef, if b 5 = true then .agg (vs .i64 rL) else undef, undef, undef, undef, undef, undef, undef, undef, undef, undef, undef, undef, undef, undef, undef, undef, undef, undef, undef, undef, undef, undef, undef], []⟩) (by kernel_rfl) (by kernel_rfl) ?start8 ?step8 ?done8
  case start8 => exact ⟨0, 0, ⟨rfl, rfl, rfl, Nat.le_refl _, fun _ _ _ => rfl⟩, by simp, by simp, by simp, by simp, by simp, by simp⟩
  case step8 =>
    intro i o b a w1 ho hI hb hr hc
    obtain ⟨g15, g16, hF, h6, h7, p6_7, hq6, hq7, rfl⟩ := hI
    match i, ho with
    | 0, ho =>
      injection ho with ho
      subst ho
      refine wp_quiet_here _ (quiet_load 49 (.tmp 13) rfl (g13) rfl 49 _ (0, 0) _ (fun _ h => (Fr.block h _ (Nat.lt_of_lt_of_le (heap_lt X8_10.out) hF.size) (fun x => x)).trans ((hF.block _ (heap_lt X8_10.out) (fun x => x)).trans X8_10.out)) Try.underlying49 rfl (num_info n_rDA.out) rfl) (fun w2 hw2 => ?_)
      refine ⟨g15, g16, hF.trans hw2, ?_, ?_, ?_, ?_, ?_, ?_⟩
      · intro hx
        replace hx : b 6 = true := by simpa [upd] using hx
        obtain ⟨k1', k2⟩ := h6 hx
        refine ⟨k1', (hw2.block _ (heap_lt k2) (fun x => x)).trans ?_⟩
        rw [k2]
        simp [upd]
      · intro hx
        replace hx : b 7 = true := by simpa [upd] using hx
        obtain ⟨k1', k2⟩ := h7 hx
        refine ⟨k1', (hw2.block _ (heap_lt k2) (fun x => x)).trans ?_⟩
        rw [k2]
        simp [upd]
      · intro hx hy
        exact p6_7 (by simpa [upd] using hx) (by simpa [upd] using hy)
      · simpa [upd] using hq6
      · simpa [upd] using hq7
      · simp [upd, Act.put]
    | 1, ho =>
      injection ho with ho
      subst ho
      refine wp_quiet_here _ (quiet_load 49 (.tmp 14) rfl (g14) rfl 49 _ (0, 0) _ (fun _ h => (Fr.block h _ (Nat.lt_of_lt_of_le (heap_lt X8_11.out) hF.size) (fun x => x)).trans ((hF.block _ (heap_lt X8_11.out) (fun x => x)).trans X8_11.out)) Try.underlying49 rfl (num_info n_rCB.out) rfl) (fun w2 hw2 => ?_)
      refine ⟨g15, g16, hF.trans hw2, ?_, ?_, ?_, ?_, ?_, ?_⟩
      · intro hx
        replace hx : b 6 = true := by simpa [upd] using hx
        obtain ⟨k1', k2⟩ := h6 hx
        refine ⟨k1', (hw2.block _ (heap_lt k2) (fun x => x)).trans ?_⟩
        rw [k2]
        simp [upd]
      · intro hx
        replace hx : b 7 = true := by simpa [upd] using hx
        obtain ⟨k1', k2⟩ := h7 hx
        refine ⟨k1', (hw2.block _ (heap_lt k2) (fun x => x)).trans ?_⟩
        rw [k2]
        simp [upd]
      · intro hx hy
        exact p6_7 (by simpa [upd] using hx) (by simpa [upd] using hy)
      · simpa [upd] using hq6
      · simpa [upd] using hq7
      · simp [upd, Act.put]
    | 2, ho =>
      injection ho with ho
      subst ho
      simp [Region.binds] at hr
      have d0 : b 0 = true := by simp only [hr]
      have d1 : b 1 = true := by simp only [hr]
      simp only [hr, if_true]
      refine wp_quiet_here (.agg (vs .i64 rS)) ?_ (fun w2 hw2 => ?_)
      · go_big_quiet_op
        exact ⟨_, Calm.calls CS, by simp [Act.put]⟩
      refine ⟨g15, g16, hF.trans hw2, ?_, ?_, ?_, ?_, ?_, ?_⟩
      · intro hx
        replace hx : b 6 = true := by simpa [upd] using hx
        obtain ⟨k1', k2⟩ := h6 hx
        refine ⟨k1', (hw2.block _ (heap_lt k2) (fun x => x)).trans ?_⟩
        rw [k2]
        simp [upd]
      · intro hx
        replace hx : b 7 = true := by simpa [upd] using hx
        obtain ⟨k1', k2⟩ := h7 hx
        refine ⟨k1', (hw2.block _ (heap_lt k2) (fun x => x)).trans ?_⟩
        rw [k2]
        simp [upd]
      · intro hx hy
        exact p6_7 (by simpa [upd] using hx) (by simpa [upd] using hy)
      · simpa [upd] using hq6
      · simpa [upd] using hq7
      · simp [upd, Act.put, hr]
    | 3, ho =>
      injection ho with ho
      subst ho
      refine wp_quiet_here _ (quiet_load 49 (.tmp 13) rfl (g13) rfl 49 _ (0, 0) _ (fun _ h => (Fr.block h _ (Nat.lt_of_lt_of_le (heap_lt X8_10.out) hF.size) (fun x => x)).trans ((hF.block _ (heap_lt X8_10.out) (fun x => x)).trans X8_10.out)) Try.underlying49 rfl (num_info n_rDA.out) rfl) (fun w2 hw2 => ?_)
      refine ⟨g15, g16, hF.trans hw2, ?_, ?_, ?_, ?_, ?_, ?_⟩
      · intro hx
        replace hx : b 6 = true := by simpa [upd] using hx
        obtain ⟨k1', k2⟩ := h6 hx
        refine ⟨k1', (hw2.block _ (heap_lt k2) (fun x => x)).trans ?_⟩
        rw [k2]
        simp [upd]
      · intro hx
        replace hx : b 7 = true := by simpa [upd] using hx
        obtain ⟨k1', k2⟩ := h7 hx
        refine ⟨k1', (hw2.block _ (heap_lt k2) (fun x => x)).trans ?_⟩
        rw [k2]
        simp [upd]
      · intro hx hy
        exact p6_7 (by simpa [upd] using hx) (by simpa [upd] using hy)
      · simpa [upd] using hq6
      · simpa [upd] using hq7
      · simp [upd, Act.put]
    | 4, ho =>
      injection ho with ho
      subst ho
      refine wp_quiet_here _ (quiet_load 49 (.tmp 14) rfl (g14) rfl 49 _ (0, 0) _ (fun _ h => (Fr.block h _ (Nat.lt_of_lt_of_le (heap_lt X8_11.out) hF.size) (fun x => x)).trans ((hF.block _ (heap_lt X8_11.out) (fun x => x)).trans X8_11.out)) Try.underlying49 rfl (num_info n_rCB.out) rfl) (fun w2 hw2 => ?_)
      refine ⟨g15, g16, hF.trans hw2, ?_, ?_, ?_, ?_, ?_, ?_⟩
      · intro hx
        replace hx : b 6 = true := by simpa [upd] using hx
        obtain ⟨k1', k2⟩ := h6 hx
        refine ⟨k1', (hw2.block _ (heap_lt k2) (fun x => x)).trans ?_⟩
        rw [k2]
        simp [upd]
      · intro hx
        replace hx : b 7 = true := by simpa [upd] using hx
        obtain ⟨k1', k2⟩ := h7 hx
        refine ⟨k1', (hw2.block _ (heap_lt k2) (fun x => x)).trans ?_⟩
        rw [k2]
        simp [upd]
      · intro hx hy
        exact p6_7 (by simpa [upd] using hx) (by simpa [upd] using hy)
      · simpa [upd] using hq6
      · simpa [upd] using hq7
      · simp [upd, Act.put]
    | 5, ho =>
      injection ho with ho
      subst ho
      simp [Region.binds] at hr
      have d3 : b 3 = true := by simp only [hr]
      have d4 : b 4 = true := by simp only [hr]
      simp only [hr, if_true]
      refine wp_quiet_here (.agg (vs .i64 rL)) ?_ (fun w2 hw2 => ?_)
      · go_big_quiet_op
        exact ⟨_, Calm.calls CL, by simp [Act.put]⟩
      refine ⟨g15, g16, hF.trans hw2, ?_, ?_, ?_, ?_, ?_, ?_⟩
      · intro hx
        replace hx : b 6 = true := by simpa [upd] using hx
        obtain ⟨k1', k2⟩ := h6 hx
        refine ⟨k1', (hw2.block _ (heap_lt k2) (fun x => x)).trans ?_⟩
        rw [k2]
        simp [upd]
      · intro hx
        replace hx : b 7 = true := by simpa [upd] using hx
        obtain ⟨k1', k2⟩ := h7 hx
        refine ⟨k1', (hw2.block _ (heap_lt k2) (fun x => x)).trans ?_⟩
        rw [k2]
        simp [upd]
      · intro hx hy
        exact p6_7 (by simpa [upd] using hx) (by simpa [upd] using hy)
      · simpa [upd] using hq6
      · simpa [upd] using hq7
      · simp [upd, Act.put, hr]
    | 6, ho =>
      injection ho with ho
      subst ho
      refine wp_alloc_any 49 rfl (vs .i64 Z) zk ?_
      refine ⟨w1.heap.size, g16, hF.alloc _, ?_, ?_, ?_, ?_, ?_, ?_⟩
      · intro _
        refine ⟨hF.size, (heap_alloc_new w1 _).trans ?_⟩
        have hs : b 8 = false := by
          rcases hbs : b 8 with _ | _
          · rfl
          · rw [hq6 hbs] at hb
            cases hb
        simp [upd, hs]
      · intro hx
        replace hx : b 7 = true := by simpa [upd] using hx
        obtain ⟨k1', k2⟩ := h7 hx
        refine ⟨k1', (Below.heap_alloc w1 _ _ (heap_lt k2)).trans ?_⟩
        rw [k2]
        simp [upd]
      · intro _ hy
        have := heap_lt (h7 (by simpa [upd] using hy)).2
        omega
      · simp [upd]
      · simpa [upd] using hq7
      · simp [upd, Act.put]
    | 7, ho =>
      injection ho with ho
      subst ho
      refine wp_alloc_any 49 rfl (vs .i64 Z) zk ?_
      refine ⟨g15, w1.heap.size, hF.alloc _, ?_, ?_, ?_, ?_, ?_, ?_⟩
      · intro hx
        replace hx : b 6 = true := by simpa [upd] using hx
        obtain ⟨k1', k2⟩ := h6 hx
        refine ⟨k1', (Below.heap_alloc w1 _ _ (heap_lt k2)).trans ?_⟩
        rw [k2]
        simp [upd]
      · intro _
        refine ⟨hF.size, (heap_alloc_new w1 _).trans ?_⟩
        have hs : b 9 = false := by
          rcases hbs : b 9 with _ | _
          · rfl
          · rw [hq7 hbs] at hb
            cases hb
        simp [upd, hs]
      · intro hx _
        have := heap_lt (h6 (by simpa [upd] using hx)).2
        omega
      · simpa [upd] using hq6
      · simp [upd]
      · simp [upd, Act.put]
    | 8, ho =>
      injection ho with ho
      subst ho
      simp [Region.binds] at hr
      have d2 : b 2 = true := by simp only [hr]
      have d6 : b 6 = true := by simp only [hr]
      simp only [hr, if_true]
      obtain ⟨k1, k2⟩ := h6 d6
      rw [hb] at k2
      simp only [Bool.false_eq_true, if_false] at k2
      refine wp_store_row 49 (.tmp 15) (.tmp 54) rfl g15 (vs .i64 rS) rfl rfl 49 _ k2 (num_info n_rS.out) (by rw [vs_size, vs_size, n_Z.out, n_rS.out]) (vs_all _ _) ?_
      refine ⟨g15, g16, hF.setRow _ (.inr k1), ?_, ?_, ?_, ?_, ?_, ?_⟩
      · intro _
        refine ⟨k1, (setRow_heap _ _ _ _ _ _ k2).trans ?_⟩
        simp [upd]
      · intro hx
        replace hx : b 7 = true := by simpa [upd] using hx
        obtain ⟨k1', k2⟩ := h7 hx
        refine ⟨k1', (setRow_other _ _ _ _ (fun e => (p6_7 (by simp [d2, d6, hx]) (by simp [d2, d6, hx])) e.symm)).trans ?_⟩
        rw [k2]
        simp [upd]
      · intro hx hy
        exact p6_7 (by simpa [upd] using hx) (by simpa [upd] using hy)
      · simp [upd, d6]
      · simpa [upd] using hq7
      · simp [upd, Act.put, hr]
    | 9, ho =>
      injection ho with ho
      subst ho
      simp [Region.binds] at hr
      have d5 : b 5 = true := by simp only [hr]
      have d7 : b 7 = true := by simp only [hr]
      simp only [hr, if_true]
      obtain ⟨k1, k2⟩ := h7 d7
      rw [hb] at k2
      simp only [Bool.false_eq_true, if_false] at k2
      refine wp_store_row 49 (.tmp 16) (.tmp 57) rfl g16 (vs .i64 rL) rfl rfl 49 _ k2 (num_info n_rL.out) (by rw [vs_size, vs_size, n_Z.out, n_rL.out]) (vs_all _ _) ?_
      refine ⟨g15, g16, hF.setRow _ (.inr k1), ?_, ?_, ?_, ?_, ?_, ?_⟩
      · intro hx
        replace hx : b 6 = true := by simpa [upd] using hx
        obtain ⟨k1', k2⟩ := h6 hx
        refine ⟨k1', (setRow_other _ _ _ _ (fun e => (p6_7 (by simp [d5, d7, hx]) (by simp [d5, d7, hx])) e)).trans ?_⟩
        rw [k2]
        simp [upd]
      · intro _
        refine ⟨k1, (setRow_heap _ _ _ _ _ _ k2).trans ?_⟩
        simp [upd]
      · intro hx hy
        exact p6_7 (by simpa [upd] using hx) (by simpa [upd] using hy)
      · simpa [upd] using hq6
      · simp [upd, d7]
      · simp [upd, Act.put, hr]
    | j + 10, ho => exact absurd ho (by simp)
  intro b a W9 hall hI
  obtain ⟨g15, g16, hF, h6, h7, p6_7, hq6, hq7, rfl⟩ := hI
  have t0 : b 0 = true := hall 0 (by simp)
  have t1 : b 1 = true := hall 1 (by simp)
  have t2 : b 2 = true := hall 2 (by simp)
  have t3 : b 3 = true := hall 3 (by simp)
  have t4 : b 4 = true := hall 4 (by simp)
  have t5 : b 5 = true := hall 5 (by simp)
  have t6 : b 6 = true := hall 6 (by simp)
  have t7 : b 7 = true := hall 7 (by simp)
  have t8 : b 8 = true := hall 8 (by simp)
  have t9 : b 9 = true := hall 9 (by simp)
  simp only [t0, t1, t2, t3, t4, t5, t6, t7, t8, t9, if_true, true_implies] at h6 h7 p6_7 hq6 hq7 ⊢
  have F9 : Hid (Fr (fun i => i = w.heap.size + 1 + 1 + 1 ∨ i = w.heap.size + 1 + 1 + 1 + 1) w W9) := F8.out.trans hF.any
  have X9_0 := Lib.hid ((hF.block _ (heap_lt X8_0.out) (fun x => x)).trans X8_0.out)
  have X9_1 := Lib.hid ((hF.block _ (heap_lt X8_1.out) (fun x => x)).trans X8_1.out)
  have X9_2 := Lib.hid ((hF.block _ (heap_lt X8_2.out) (fun x => x)).trans X8_2.out)
  have X9_3 := Lib.hid ((hF.block _ (heap_lt X8_3.out) (fun x => x)).trans X8_3.out)
  have X9_4 := Lib.hid ((hF.block _ (heap_lt X8_4.out) (fun x => x)).trans X8_4.out)
  have X9_5 := Lib.hid ((hF.block _ (heap_lt X8_5.out) (fun x => x)).trans X8_5.out)
  have X9_6 := Lib.hid ((hF.block _ (heap_lt X8_6.out) (fun x => x)).trans X8_6.out)
  have X9_7 := Lib.hid ((hF.block _ (heap_lt X8_7.out) (fun x => x)).trans X8_7.out)
  have X9_8 := Lib.hid ((hF.block _ (heap_lt X8_8.out) (fun x => x)).trans X8_8.out)
  have X9_9 := Lib.hid ((hF.block _ (heap_lt X8_9.out) (fun x => x)).trans X8_9.out)
  have X9_10 := Lib.hid ((hF.block _ (heap_lt X8_10.out) (fun x => x)).trans X8_10.out)
  have X9_11 := Lib.hid ((hF.block _ (heap_lt X8_11.out) (fun x => x)).trans X8_11.out)
  have X9_12 := Lib.hid h6.2
  have Yg15 : w.heap.size ≤ g15 := Nat.le_trans F8.out.size h6.1
  have X9_13 := Lib.hid h7.2
  have Yg16 : w.heap.size ≤ g16 := Nat.le_trans F8.out.size h7.1
  clear hall hF h6 h7 p6_7 hq6 hq7 t0 t1 t2 t3 t4 t5 t6 t7 t8 t9 X8_0 X8_1 X8_2 X8_3 X8_4 X8_5 X8_6 X8_7 X8_8 X8_9 X8_10 X8_11 F8
  go_upto_region 9 with (fail)
  refine wp_region_inv2 (fun b a w' => ∃ g17 : Nat, Fr (fun _ => False) W9 w' ∧ (b 9 = true → W9.heap.size ≤ g17 ∧ w'.heap[g17]? = some (.cells (if b 10 = true then vs .i64 (zc ++ zd) else vs .i64 ZZ) 53 (0, 0))) ∧ (b 10 = true → b 9 = true) ∧ a = ⟨#[.agg (vs .i64 (ya ++ yb)), .agg (vs .i64 (yc ++ yd)), .agg (vs .i64 y1), .pointer (some ⟨w.heap.size, 0, none⟩), .pointer (some ⟨w.heap.size + 1, 0, none⟩), .pointer (some ⟨w.heap.size + 1 + 1, 0, none⟩), .pointer (some ⟨w.heap.size + 1 + 1 + 1, 0, none⟩), .pointer (some ⟨w.heap.size + 1 + 1 + 1 + 1, 0, none⟩), .pointer (some ⟨g8, 0, none⟩), .pointer (some ⟨g9, 0, none⟩), .pointer (some ⟨g10, 0, none⟩), .pointer (some ⟨g11, 0, none⟩), .pointer (some ⟨g12, 0, none⟩), .pointer (some ⟨g13, 0, none⟩), .pointer (some ⟨g14, 0, none⟩), .pointer (some ⟨g15, 0, none⟩), .pointer (some ⟨g16, 0, none⟩), if b 9 = true then .pointer (some ⟨g17, 0, none⟩) else undef, undef, .pointer (some ⟨w.heap.size, 0, none⟩), .agg (vs .i64 ya), .pointer (some ⟨w.heap.size, 16, none⟩), .agg (vs .i64 yb), .agg (vs .i64 rA), .agg (vs .i64 rA), .agg (vs .i64 rA), .agg (vs .i64 rAA), .pointer (some ⟨w.heap.size, 0, none⟩), .agg (vs .i64 ya), .pointer (some ⟨w.heap.size, 16, none⟩), .agg (vs .i64 yb), .agg (vs .i64 rB), .agg (vs .i64 rB), .agg (vs .i64 rB), .agg (vs .i64 rBB), .agg (vs .i64 rAA), .agg (vs .i64 rBB), .agg (vs .i64 rE), .pointer (some ⟨w.heap.size + 1, 0, none⟩), .agg (vs .i64 yc), .pointer (some ⟨w.heap.size + 1, 16, none⟩), .agg (vs .i64 yd), .agg (vs .i64 rD), .agg (vs .i64 rA), .agg (vs .i64 rDA), .pointer (some ⟨w.heap.size + 1, 0, none⟩), .agg (vs .i64 yc), .pointer (some ⟨w.heap.size + 1, 16, none⟩), .agg (vs .i64 yd), .agg (vs .i64 rC), .agg (vs .i64 rB), .agg (vs .i64 rCB), .agg (vs .i64 rDA), .agg (vs .i64 rCB), .agg (vs .i64 rS), .agg (vs .i64 rDA), .agg (vs .i64 rCB), .agg (vs .i64 rL), if b 0 = true then .agg (vs .i64 rS) else undef, if b 1 = true then .agg (vs .i64 rS) else undef, if b 2 = true then .agg (vs .i64 zc) else undef, if b 3 = true then .agg (vs .i64 y1) else undef, if b 4 = true then .agg (vs .i64 rL) else undef, if b 5 = true then .agg (vs .i64 rL) else undef, if b 6 = true then .agg (vs .i64 rLL) else undef, if b 7 = true then .agg (vs .i64 zd) else undef, if b 8 = true then .agg (vs .i64 (zc ++ zd)) else undef, undef, undef, undef, undef, undef, undef, undef, undef, undef, undef, undef, undef, undef], []⟩) (by kernel_rfl) (by kernel_rfl) ?start9 ?step9 ?done9
  case start9 => exact ⟨0, ⟨rfl, rfl, rfl, Nat.le_refl _, fun _ _ _ => rfl⟩, by simp, by simp, by simp⟩
  case step9 =>
    intro i o b a w1 ho hI hb hr hc
    obtain ⟨g17, hF, h9, hq9, rfl⟩ := hI
    match i, ho with
    | 0, ho =>
      injection ho with ho
      subst ho
      refine wp_quiet_here _ (quiet_load 49 (.tmp 15) rfl (g15) rfl 49 _ (0, 0) _ (fun _ h => (Fr.block h _ (Nat.lt_of_lt_of_le (heap_lt X9_12.out) hF.size) (fun x => x)).trans ((hF.block _ (heap_lt X9_12.out) (fun x => x)).trans X9_12.out)) Try.underlying49 rfl (num_info n_rS.out) rfl) (fun w2 hw2 => ?_)
      refine ⟨g17, hF.trans hw2, ?_, ?_, ?_⟩
      · intro hx
        replace hx : b 9 = true := by simpa [upd] using hx
        obtain ⟨k1', k2⟩ := h9 hx
        refine ⟨k1', (hw2.block _ (heap_lt k2) (fun x => x)).trans ?_⟩
        rw [k2]
        simp [upd]
      · simpa [upd] using hq9
      · simp [upd, Act.put]
    | 1, ho =>
      injection ho with ho
      subst ho
      refine wp_quiet_here _ (quiet_load 49 (.tmp 15) rfl (g15) rfl 49 _ (0, 0) _ (fun _ h => (Fr.block h _ (Nat.lt_of_lt_of_le (heap_lt X9_12.out) hF.size) (fun x => x)).trans ((hF.block _ (heap_lt X9_12.out) (fun x => x)).trans X9_12.out)) Try.underlying49 rfl (num_info n_rS.out) rfl) (fun w2 hw2 => ?_)
      refine ⟨g17, hF.trans hw2, ?_, ?_, ?_⟩
      · intro hx
        replace hx : b 9 = true := by simpa [upd] using hx
        obtain ⟨k1', k2⟩ := h9 hx
        refine ⟨k1', (hw2.block _ (heap_lt k2) (fun x => x)).trans ?_⟩
        rw [k2]
        simp [upd]
      · simpa [upd] using hq9
      · simp [upd, Act.put]
    | 2, ho =>
      injection ho with ho
      subst ho
      simp [Region.binds] at hr
      have d0 : b 0 = true := by simp only [hr]
      have d1 : b 1 = true := by simp only [hr]
      simp only [hr, if_true]
      refine wp_quiet_here (.agg (vs .i64 zc)) ?_ (fun w2 hw2 => ?_)
      · go_big_quiet_op
        exact ⟨_, Calm.calls CX3, by simp [Act.put]⟩
      refine ⟨g17, hF.trans hw2, ?_, ?_, ?_⟩
      · intro hx
        replace hx : b 9 = true := by simpa [upd] using hx
        obtain ⟨k1', k2⟩ := h9 hx
        refine ⟨k1', (hw2.block _ (heap_lt k2) (fun x => x)).trans ?_⟩
        rw [k2]
        simp [upd]
      · simpa [upd] using hq9
      · simp [upd, Act.put, hr]
    | 3, ho =>
      injection ho with ho
      subst ho
      refine wp_quiet_here _ (quiet_load 49 (.tmp 5) rfl (w.heap.size + 1 + 1) rfl 49 _ (0, 0) _ (fun _ h => (Fr.block h _ (Nat.lt_of_lt_of_le (heap_lt X9_2.out) hF.size) (fun x => x)).trans ((hF.block _ (heap_lt X9_2.out) (fun x => x)).trans X9_2.out)) Try.underlying49 rfl (num_info n_y1.out) rfl) (fun w2 hw2 => ?_)
      refine ⟨g17, hF.trans hw2, ?_, ?_, ?_⟩
      · intro hx
        replace hx : b 9 = true := by simpa [upd] using hx
        obtain ⟨k1', k2⟩ := h9 hx
        refine ⟨k1', (hw2.block _ (heap_lt k2) (fun x => x)).trans ?_⟩
        rw [k2]
        simp [upd]
      · simpa [upd] using hq9
      · simp [upd, Act.put]
    | 4, ho =>
      injection ho with ho
      subst ho
      refine wp_quiet_here _ (quiet_load 49 (.tmp 16) rfl (g16) rfl 49 _ (0, 0) _ (fun _ h => (Fr.block h _ (Nat.lt_of_lt_of_le (heap_lt X9_13.out) hF.size) (fun x => x)).trans ((hF.block _ (heap_lt X9_13.out) (fun x => x)).trans X9_13.out)) Try.underlying49 rfl (num_info n_rL.out) rfl) (fun w2 hw2 => ?_)
      refine ⟨g17, hF.trans hw2, ?_, ?_, ?_⟩
      · intro hx
        replace hx : b 9 = true := by simpa [upd] using hx
        obtain ⟨k1', k2⟩ := h9 hx
        refine ⟨k1', (hw2.block _ (heap_lt k2) (fun x => x)).trans ?_⟩
        rw [k2]
        simp [upd]
      · simpa [upd] using hq9
      · simp [upd, Act.put]
    | 5, ho =>
      injection ho with ho
      subst ho
      refine wp_quiet_here _ (quiet_load 49 (.tmp 16) rfl (g16) rfl 49 _ (0, 0) _ (fun _ h => (Fr.block h _ (Nat.lt_of_lt_of_le (heap_lt X9_13.out) hF.size) (fun x => x)).trans ((hF.block _ (heap_lt X9_13.out) (fun x => x)).trans X9_13.out)) Try.underlying49 rfl (num_info n_rL.out) rfl) (fun w2 hw2 => ?_)
      refine ⟨g17, hF.trans hw2, ?_, ?_, ?_⟩
      · intro hx
        replace hx : b 9 = true := by simpa [upd] using hx
        obtain ⟨k1', k2⟩ := h9 hx
        refine ⟨k1', (hw2.block _ (heap_lt k2) (fun x => x)).trans ?_⟩
        rw [k2]
        simp [upd]
      · simpa [upd] using hq9
      · simp [upd, Act.put]
    | 6, ho =>
      injection ho with ho
      subst ho
      simp [Region.binds] at hr
      have d4 : b 4 = true := by simp only [hr]
      have d5 : b 5 = true := by simp only [hr]
      simp only [hr, if_true]
      refine wp_quiet_here (.agg (vs .i64 rLL)) ?_ (fun w2 hw2 => ?_)
      · go_big_quiet_op
        exact ⟨_, Calm.calls CLL, by simp [Act.put]⟩
      refine ⟨g17, hF.trans hw2, ?_, ?_, ?_⟩
      · intro hx
        replace hx : b 9 = true := by simpa [upd] using hx
        obtain ⟨k1', k2⟩ := h9 hx
        refine ⟨k1', (hw2.block _ (heap_lt k2) (fun x => x)).trans ?_⟩
        rw [k2]
        simp [upd]
      · simpa [upd] using hq9
      · simp [upd, Act.put, hr]
    | 7, ho =>
      injection ho with ho
      subst ho
      simp [Region.binds] at hr
      have d3 : b 3 = true := by simp only [hr]
      have d6 : b 6 = true := by simp only [hr]
      simp only [hr, if_true]
      refine wp_quiet_here (.agg (vs .i64 zd)) ?_ (fun w2 hw2 => ?_)
      · go_big_quiet_op
        exact ⟨_, Calm.calls CZ3, by simp [Act.put]⟩
      refine ⟨g17, hF.trans hw2, ?_, ?_, ?_⟩
      · intro hx
        replace hx : b 9 = true := by simpa [upd] using hx
        obtain ⟨k1', k2⟩ := h9 hx
        refine ⟨k1', (hw2.block _ (heap_lt k2) (fun x => x)).trans ?_⟩
        rw [k2]
        simp [upd]
      · simpa [upd] using hq9
      · simp [upd, Act.put, hr]
    | 8, ho =>
      injection ho with ho
      subst ho
      simp [Region.binds] at hr
      have d2 : b 2 = true := by simp only [hr]
      have d7 : b 7 = true := by simp only [hr]
      simp only [hr, if_true]
      refine wp_quiet_here (.agg (vs .i64 (zc ++ zd))) (quiet_build 53 _ rfl #[(0, .agg (vs .i64 zc)), (1, .agg (vs .i64 zd))] (by rw [List.map_toArray]; rfl) _ (build_side n_zc.out n_zd.out) rfl) (fun w2 hw2 => ?_)
      refine ⟨g17, hF.trans hw2, ?_, ?_, ?_⟩
      · intro hx
        replace hx : b 9 = true := by simpa [upd] using hx
        obtain ⟨k1', k2⟩ := h9 hx
        refine ⟨k1', (hw2.block _ (heap_lt k2) (fun x => x)).trans ?_⟩
        rw [k2]
        simp [upd]
      · simpa [upd] using hq9
      · simp [upd, Act.put, hr]
    | 9, ho =>
      injection ho with ho
      subst ho
      refine wp_alloc_any 53 rfl (vs .i64 ZZ) zzk ?_
      refine ⟨w1.heap.size, hF.alloc _, ?_, ?_, ?_⟩
      · intro _
        refine ⟨hF.size, (heap_alloc_new w1 _).trans ?_⟩
        have hs : b 10 = false := by
          rcases hbs : b 10 with _ | _
          · rfl
          · rw [hq9 hbs] at hb
            cases hb
        simp [upd, hs]
      · simp [upd]
      · simp [upd, Act.put]
    | 10, ho =>
      injection ho with ho
      subst ho
      simp [Region.binds] at hr
      have d8 : b 8 = true := by simp only [hr]
      have d9 : b 9 = true := by simp only [hr]
      simp only [hr, if_true]
      obtain ⟨k1, k2⟩ := h9 d9
      rw [hb] at k2
      simp only [Bool.false_eq_true, if_false] at k2
      refine wp_store_row 53 (.tmp 17) (.tmp 66) rfl g17 (vs .i64 (zc ++ zd)) rfl rfl 53 _ k2 (side_info (len32 n_zc.out n_zd.out)) (by rw [vs_size, vs_size, n_ZZ.out, (len32 n_zc.out n_zd.out)]) (vs_all _ _) ?_
      refine ⟨g17, hF.setRow _ (.inr k1), ?_, ?_, ?_⟩
      · intro _
        refine ⟨k1, (setRow_heap _ _ _ _ _ _ k2).trans ?_⟩
        simp [upd]
      · simp [upd, d9]
      · simp [upd, Act.put, hr]
    | j + 11, ho => exact absurd ho (by simp)
  intro b a W10 hall hI
  obtain ⟨g17, hF, h9, hq9, rfl⟩ := hI
  have t0 : b 0 = true := hall 0 (by simp)
  have t1 : b 1 = true := hall 1 (by simp)
  have t2 : b 2 = true := hall 2 (by simp)
  have t3 : b 3 = true := hall 3 (by simp)
  have t4 : b 4 = true := hall 4 (by simp)
  have t5 : b 5 = true := hall 5 (by simp)
  have t6 : b 6 = true := hall 6 (by simp)
  have t7 : b 7 = true := hall 7 (by simp)
  have t8 : b 8 = true := hall 8 (by simp)
  have t9 : b 9 = true := hall 9 (by simp)
  have t10 : b 10 = true := hall 10 (by simp)
  simp only [t0, t1, t2, t3, t4, t5, t6, t7, t8, t9, t10, if_true, true_implies] at h9 hq9 ⊢
  have F10 : Hid (Fr (fun i => i = w.heap.size + 1 + 1 + 1 ∨ i = w.heap.size + 1 + 1 + 1 + 1) w W10) := F9.out.trans hF.any
  have X10_0 := Lib.hid ((hF.block _ (heap_lt X9_0.out) (fun x => x)).trans X9_0.out)
  have X10_1 := Lib.hid ((hF.block _ (heap_lt X9_2.out) (fun x => x)).trans X9_2.out)
  have X10_2 := Lib.hid ((hF.block _ (heap_lt X9_3.out) (fun x => x)).trans X9_3.out)
  have X10_3 := Lib.hid ((hF.block _ (heap_lt X9_4.out) (fun x => x)).trans X9_4.out)
  have X10_4 := Lib.hid ((hF.block _ (heap_lt X9_6.out) (fun x => x)).trans X9_6.out)
  have X10_5 := Lib.hid ((hF.block _ (heap_lt X9_8.out) (fun x => x)).trans X9_8.out)
  have X10_6 := Lib.hid ((hF.block _ (heap_lt X9_9.out) (fun x => x)).trans X9_9.out)
  have X10_7 := Lib.hid ((hF.block _ (heap_lt X9_12.out) (fun x => x)).trans X9_12.out)
  have X10_8 := Lib.hid ((hF.block _ (heap_lt X9_13.out) (fun x => x)).trans X9_13.out)
  have X10_9 := Lib.hid h9.2
  have Yg17 : w.heap.size ≤ g17 := Nat.le_trans F9.out.size h9.1
  have Dg17_3 : (w.heap.size + 1 + 1 + 1) ≠ g17 := by
    have q := heap_lt X9_3.out
    have q2 := h9.1
    omega
  have Dg17_4 : (w.heap.size + 1 + 1 + 1 + 1) ≠ g17 := by
    have q := heap_lt X9_4.out
    have q2 := h9.1
    omega
  clear hall hF h9 hq9 t0 t1 t2 t3 t4 t5 t6 t7 t8 t9 t10 X9_0 X9_1 X9_2 X9_3 X9_4 X9_5 X9_6 X9_7 X9_8 X9_9 X9_10 X9_11 X9_12 X9_13 F9
  go_upto_region 10 with (fail)
  refine wp_region_inv2 (fun b a w' => ∃ g18 : Nat, Fr (fun _ => False) W10 w' ∧ (b 11 = true → W10.heap.size ≤ g18 ∧ w'.heap[g18]? = some (.cells (if b 12 = true then vs .i64 (za ++ zb) else vs .i64 ZZ) 53 (0, 0))) ∧ (b 12 = true → b 11 = true) ∧ a = ⟨#[.agg (vs .i64 (ya ++ yb)), .agg (vs .i64 (yc ++ yd)), .agg (vs .i64 y1), .pointer (some ⟨w.heap.size, 0, none⟩), .pointer (some ⟨w.heap.size + 1, 0, none⟩), .pointer (some ⟨w.heap.size + 1 + 1, 0, none⟩), .pointer (some ⟨w.heap.size + 1 + 1 + 1, 0, none⟩), .pointer (some ⟨w.heap.size + 1 + 1 + 1 + 1, 0, none⟩), .pointer (some ⟨g8, 0, none⟩), .pointer (some ⟨g9, 0, none⟩), .pointer (some ⟨g10, 0, none⟩), .pointer (some ⟨g11, 0, none⟩), .pointer (some ⟨g12, 0, none⟩), .pointer (some ⟨g13, 0, none⟩), .pointer (some ⟨g14, 0, none⟩), .pointer (some ⟨g15, 0, none⟩), .pointer (some ⟨g16, 0, none⟩), .pointer (some ⟨g17, 0, none⟩), if b 11 = true then .pointer (some ⟨g18, 0, none⟩) else undef, .pointer (some ⟨w.heap.size, 0, none⟩), .agg (vs .i64 ya), .pointer (some ⟨w.heap.size, 16, none⟩), .agg (vs .i64 yb), .agg (vs .i64 rA), .agg (vs .i64 rA), .agg (vs .i64 rA), .agg (vs .i64 rAA), .pointer (some ⟨w.heap.size, 0, none⟩), .agg (vs .i64 ya), .pointer (some ⟨w.heap.size, 16, none⟩), .agg (vs .i64 yb), .agg (vs .i64 rB), .agg (vs .i64 rB), .agg (vs .i64 rB), .agg (vs .i64 rBB), .agg (vs .i64 rAA), .agg (vs .i64 rBB), .agg (vs .i64 rE), .pointer (some ⟨w.heap.size + 1, 0, none⟩), .agg (vs .i64 yc), .pointer (some ⟨w.heap.size + 1, 16, none⟩), .agg (vs .i64 yd), .agg (vs .i64 rD), .agg (vs .i64 rA), .agg (vs .i64 rDA), .pointer (some ⟨w.heap.size + 1, 0, none⟩), .agg (vs .i64 yc), .pointer (some ⟨w.heap.size + 1, 16, none⟩), .agg (vs .i64 yd), .agg (vs .i64 rC), .agg (vs .i64 rB), .agg (vs .i64 rCB), .agg (vs .i64 rDA), .agg (vs .i64 rCB), .agg (vs .i64 rS), .agg (vs .i64 rDA), .agg (vs .i64 rCB), .agg (vs .i64 rL), .agg (vs .i64 rS), .agg (vs .i64 rS), .agg (vs .i64 zc), .agg (vs .i64 y1), .agg (vs .i64 rL), .agg (vs .i64 rL), .agg (vs .i64 rLL), .agg (vs .i64 zd), .agg (vs .i64 (zc ++ zd)), if b 0 = true then .agg (vs .i64 rAA) else undef, if b 1 = true then .agg (vs .i64 rBB) else undef, if b 2 = true then .agg (vs .i64 za) else undef, if b 3 = true then .agg (vs .i64 rE) else undef, if b 4 = true then .agg (vs .i64 rAA) else undef, if b 5 = true then .agg (vs .i64 rK) else undef, if b 6 = true then .agg (vs .i64 rE) else undef, if b 7 = true then .agg (vs .i64 rM) else undef, if b 8 = true then .agg (vs .i64 rT) else undef, if b 9 = true then .agg (vs .i64 zb) else undef, if b 10 = true then .agg (vs .i64 (za ++ zb)) else undef, undef, undef], []⟩) (by kernel_rfl) (by kernel_rfl) ?start10 ?step10 ?done10
  case start10 => exact ⟨0, ⟨rfl, rfl, rfl, Nat.le_refl _, fun _ _ _ => rfl⟩, by simp, by simp, by simp⟩
  case step10 =>
    intro i o b a w1 ho hI hb hr hc
    obtain ⟨g18, hF, h11, hq11, rfl⟩ := hI
    match i, ho with
    | 0, ho =>
      injection ho with ho
      subst ho
      refine wp_quiet_here _ (quiet_load 49 (.tmp 9) rfl (g9) rfl 49 _ (0, 0) _ (fun _ h => (Fr.block h _ (Nat.lt_of_lt_of_le (heap_lt X10_4.out) hF.size) (fun x => x)).trans ((hF.block _ (heap_lt X10_4.out) (fun x => x)).trans X10_4.out)) Try.underlying49 rfl (num_info n_rAA.out) rfl) (fun w2 hw2 => ?_)
      refine ⟨g18, hF.trans hw2, ?_, ?_, ?_⟩
      · intro hx
        replace hx : b 11 = true := by simpa [upd] using hx
        obtain ⟨k1', k2⟩ := h11 hx
        refine ⟨k1', (hw2.block _ (heap_lt k2) (fun x => x)).trans ?_⟩
        rw [k2]
        simp [upd]
      · simpa [upd] using hq11
      · simp [upd, Act.put]
    | 1, ho =>
      injection ho with ho
      subst ho
      refine wp_quiet_here _ (quiet_load 49 (.tmp 11) rfl (g11) rfl 49 _ (0, 0) _ (fun _ h => (Fr.block h _ (Nat.lt_of_lt_of_le (heap_lt X10_5.out) hF.size) (fun x => x)).trans ((hF.block _ (heap_lt X10_5.out) (fun x => x)).trans X10_5.out)) Try.underlying49 rfl (num_info n_rBB.out) rfl) (fun w2 hw2 => ?_)
      refine ⟨g18, hF.trans hw2, ?_, ?_, ?_⟩
      · intro hx
        replace hx : b 11 = true := by simpa [upd] using hx
        obtain ⟨k1', k2⟩ := h11 hx
        refine ⟨k1', (hw2.block _ (heap_lt k2) (fun x => x)).trans ?_⟩
        rw [k2]
        simp [upd]
      · simpa [upd] using hq11
      · simp [upd, Act.put]
    | 2, ho =>
      injection ho with ho
      subst ho
      simp [Region.binds] at hr
      have d0 : b 0 = true := by simp only [hr]
      have d1 : b 1 = true := by simp only [hr]
      simp only [hr, if_true]
      refine wp_quiet_here (.agg (vs .i64 za)) ?_ (fun w2 hw2 => ?_)
      · go_big_quiet_op
        exact ⟨_, Calm.calls CX2, by simp [Act.put]⟩
      refine ⟨g18, hF.trans hw2, ?_, ?_, ?_⟩
      · intro hx
        replace hx : b 11 = true := by simpa [upd] using hx
        obtain ⟨k1', k2⟩ := h11 hx
        refine ⟨k1', (hw2.block _ (heap_lt k2) (fun x => x)).trans ?_⟩
        rw [k2]
        simp [upd]
      · simpa [upd] using hq11
      · simp [upd, Act.put, hr]
    | 3, ho =>
      injection ho with ho
      subst ho
      refine wp_quiet_here _ (quiet_load 49 (.tmp 12) rfl (g12) rfl 49 _ (0, 0) _ (fun _ h => (Fr.block h _ (Nat.lt_of_lt_of_le (heap_lt X10_6.out) hF.size) (fun x => x)).trans ((hF.block _ (heap_lt X10_6.out) (fun x => x)).trans X10_6.out)) Try.underlying49 rfl (num_info n_rE.out) rfl) (fun w2 hw2 => ?_)
      refine ⟨g18, hF.trans hw2, ?_, ?_, ?_⟩
      · intro hx
        replace hx : b 11 = true := by simpa [upd] using hx
        obtain ⟨k1', k2⟩ := h11 hx
        refine ⟨k1', (hw2.block _ (heap_lt k2) (fun x => x)).trans ?_⟩
        rw [k2]
        simp [upd]
      · simpa [upd] using hq11
      · simp [upd, Act.put]
    | 4, ho =>
      injection ho with ho
      subst ho
      refine wp_quiet_here _ (quiet_load 49 (.tmp 9) rfl (g9) rfl 49 _ (0, 0) _ (fun _ h => (Fr.block h _ (Nat.lt_of_lt_of_le (heap_lt X10_4.out) hF.size) (fun x => x)).trans ((hF.block _ (heap_lt X10_4.out) (fun x => x)).trans X10_4.out)) Try.underlying49 rfl (num_info n_rAA.out) rfl) (fun w2 hw2 => ?_)
      refine ⟨g18, hF.trans hw2, ?_, ?_, ?_⟩
      · intro hx
        replace hx : b 11 = true := by simpa [upd] using hx
        obtain ⟨k1', k2⟩ := h11 hx
        refine ⟨k1', (hw2.block _ (heap_lt k2) (fun x => x)).trans ?_⟩
        rw [k2]
        simp [upd]
      · simpa [upd] using hq11
      · simp [upd, Act.put]
    | 5, ho =>
      injection ho with ho
      subst ho
      refine wp_quiet_here (.agg (vs .i64 rK)) ?_ (fun w2 hw2 => ?_)
      · simp only [Bool.false_eq_true] 
        go_big_quiet_op
        exact ⟨_, Calm.calls CK, by simp [Act.put]⟩
      refine ⟨g18, hF.trans hw2, ?_, ?_, ?_⟩
      · intro hx
        replace hx : b 11 = true := by simpa [upd] using hx
        obtain ⟨k1', k2⟩ := h11 hx
        refine ⟨k1', (hw2.block _ (heap_lt k2) (fun x => x)).trans ?_⟩
        rw [k2]
        simp [upd]
      · simpa [upd] using hq11
      · simp [upd, Act.put]
    | 6, ho =>
      injection ho with ho
      subst ho
      refine wp_quiet_here _ (quiet_load 49 (.tmp 12) rfl (g12) rfl 49 _ (0, 0) _ (fun _ h => (Fr.block h _ (Nat.lt_of_lt_of_le (heap_lt X10_6.out) hF.size) (fun x => x)).trans ((hF.block _ (heap_lt X10_6.out) (fun x => x)).trans X10_6.out)) Try.underlying49 rfl (num_info n_rE.out) rfl) (fun w2 hw2 => ?_)
      refine ⟨g18, hF.trans hw2, ?_, ?_, ?_⟩
      · intro hx
        replace hx : b 11 = true := by simpa [upd] using hx
        obtain ⟨k1', k2⟩ := h11 hx
        refine ⟨k1', (hw2.block _ (heap_lt k2) (fun x => x)).trans ?_⟩
        rw [k2]
        simp [upd]
      · simpa [upd] using hq11
      · simp [upd, Act.put]
    | 7, ho =>
      injection ho with ho
      subst ho
      simp [Region.binds] at hr
      have d5 : b 5 = true := by simp only [hr]
      have d6 : b 6 = true := by simp only [hr]
      simp only [hr, if_true]
      refine wp_quiet_here (.agg (vs .i64 rM)) ?_ (fun w2 hw2 => ?_)
      · go_big_quiet_op
        exact ⟨_, Calm.calls CM, by simp [Act.put]⟩
      refine ⟨g18, hF.trans hw2, ?_, ?_, ?_⟩
      · intro hx
        replace hx : b 11 = true := by simpa [upd] using hx
        obtain ⟨k1', k2⟩ := h11 hx
        refine ⟨k1', (hw2.block _ (heap_lt k2) (fun x => x)).trans ?_⟩
        rw [k2]
        simp [upd]
      · simpa [upd] using hq11
      · simp [upd, Act.put, hr]
    | 8, ho =>
      injection ho with ho
      subst ho
      simp [Region.binds] at hr
      have d4 : b 4 = true := by simp only [hr]
      have d7 : b 7 = true := by simp only [hr]
      simp only [hr, if_true]
      refine wp_quiet_here (.agg (vs .i64 rT)) ?_ (fun w2 hw2 => ?_)
      · go_big_quiet_op
        exact ⟨_, Calm.calls CT, by simp [Act.put]⟩
      refine ⟨g18, hF.trans hw2, ?_, ?_, ?_⟩
      · intro hx
        replace hx : b 11 = true := by simpa [upd] using hx
        obtain ⟨k1', k2⟩ := h11 hx
        refine ⟨k1', (hw2.block _ (heap_lt k2) (fun x => x)).trans ?_⟩
        rw [k2]
        simp [upd]
      · simpa [upd] using hq11
      · simp [upd, Act.put, hr]
    | 9, ho =>
      injection ho with ho
      subst ho
      simp [Region.binds] at hr
      have d3 : b 3 = true := by simp only [hr]
      have d8 : b 8 = true := by simp only [hr]
      simp only [hr, if_true]
      refine wp_quiet_here (.agg (vs .i64 zb)) ?_ (fun w2 hw2 => ?_)
      · go_big_quiet_op
        exact ⟨_, Calm.calls CZ2, by simp [Act.put]⟩
      refine ⟨g18, hF.trans hw2, ?_, ?_, ?_⟩
      · intro hx
        replace hx : b 11 = true := by simpa [upd] using hx
        obtain ⟨k1', k2⟩ := h11 hx
        refine ⟨k1', (hw2.block _ (heap_lt k2) (fun x => x)).trans ?_⟩
        rw [k2]
        simp [upd]
      · simpa [upd] using hq11
      · simp [upd, Act.put, hr]
    | 10, ho =>
      injection ho with ho
      subst ho
      simp [Region.binds] at hr
      have d2 : b 2 = true := by simp only [hr]
      have d9 : b 9 = true := by simp only [hr]
      simp only [hr, if_true]
      refine wp_quiet_here (.agg (vs .i64 (za ++ zb))) (quiet_build 53 _ rfl #[(0, .agg (vs .i64 za)), (1, .agg (vs .i64 zb))] (by rw [List.map_toArray]; rfl) _ (build_side n_za.out n_zb.out) rfl) (fun w2 hw2 => ?_)
      refine ⟨g18, hF.trans hw2, ?_, ?_, ?_⟩
      · intro hx
        replace hx : b 11 = true := by simpa [upd] using hx
        obtain ⟨k1', k2⟩ := h11 hx
        refine ⟨k1', (hw2.block _ (heap_lt k2) (fun x => x)).trans ?_⟩
        rw [k2]
        simp [upd]
      · simpa [upd] using hq11
      · simp [upd, Act.put, hr]
    | 11, ho =>
      injection ho with ho
      subst ho
      refine wp_alloc_any 53 rfl (vs .i64 ZZ) zzk ?_
      refine ⟨w1.heap.size, hF.alloc _, ?_, ?_, ?_⟩
      · intro _
        refine ⟨hF.size, (heap_alloc_new w1 _).trans ?_⟩
        have hs : b 12 = false := by
          rcases hbs : b 12 with _ | _
          · rfl
          · rw [hq11 hbs] at hb
            cases hb
        simp [upd, hs]
      · simp [upd]
      · simp [upd, Act.put]
    | 12, ho =>
      injection ho with ho
      subst ho
      simp [Region.binds] at hr
      have d10 : b 10 = true := by simp only [hr]
      have d11 : b 11 = true := by simp only [hr]
      simp only [hr, if_true]
      obtain ⟨k1, k2⟩ := h11 d11
      rw [hb] at k2
      simp only [Bool.false_eq_true, if_false] at k2
      refine wp_store_row 53 (.tmp 18) (.tmp 77) rfl g18 (vs .i64 (za ++ zb)) rfl rfl 53 _ k2 (side_info (len32 n_za.out n_zb.out)) (by rw [vs_size, vs_size, n_ZZ.out, (len32 n_za.out n_zb.out)]) (vs_all _ _) ?_
      refine ⟨g18, hF.setRow _ (.inr k1), ?_, ?_, ?_⟩
      · intro _
        refine ⟨k1, (setRow_heap _ _ _ _ _ _ k2).trans ?_⟩
        simp [upd]
      · simp [upd, d11]
      · simp [upd, Act.put, hr]
    | j + 13, ho => exact absurd ho (by simp)
  intro b a W11 hall hI
  obtain ⟨g18, hF, h11, hq11, rfl⟩ := hI
  have t0 : b 0 = true := hall 0 (by simp)
  have t1 : b 1 = true := hall 1 (by simp)
  have t2 : b 2 = true := hall 2 (by simp)
  have t3 : b 3 = true := hall 3 (by simp)
  have t4 : b 4 = true := hall 4 (by simp)
  have t5 : b 5 = true := hall 5 (by simp)
  have t6 : b 6 = true := hall 6 (by simp)
  have t7 : b 7 = true := hall 7 (by simp)
  have t8 : b 8 = true := hall 8 (by simp)
  have t9 : b 9 = true := hall 9 (by simp)
  have t10 : b 10 = true := hall 10 (by simp)
  have t11 : b 11 = true := hall 11 (by simp)
  have t12 : b 12 = true := hall 12 (by simp)
  simp only [t0, t1, t2, t3, t4, t5, t6, t7, t8, t9, t10, t11, t12, if_true, true_implies] at h11 hq11 ⊢
  have F11 : Hid (Fr (fun i => i = w.heap.size + 1 + 1 + 1 ∨ i = w.heap.size + 1 + 1 + 1 + 1) w W11) := F10.out.trans hF.any
  have X11_0 := Lib.hid ((hF.block _ (heap_lt X10_2.out) (fun x => x)).trans X10_2.out)
  have X11_1 := Lib.hid ((hF.block _ (heap_lt X10_3.out) (fun x => x)).trans X10_3.out)
  have X11_2 := Lib.hid ((hF.block _ (heap_lt X10_4.out) (fun x => x)).trans X10_4.out)
  have X11_3 := Lib.hid ((hF.block _ (heap_lt X10_5.out) (fun x => x)).trans X10_5.out)
  have X11_4 := Lib.hid ((hF.block _ (heap_lt X10_6.out) (fun x => x)).trans X10_6.out)
  have X11_5 := Lib.hid ((hF.block _ (heap_lt X10_9.out) (fun x => x)).trans X10_9.out)
  have X11_6 := Lib.hid h11.2
  have Yg18 : w.heap.size ≤ g18 := Nat.le_trans F10.out.size h11.1
  have Dg18_3 : (w.heap.size + 1 + 1 + 1) ≠ g18 := by
    have q := heap_lt X10_2.out
    have q2 := h11.1
    omega
  have Dg18_4 : (w.heap.size + 1 + 1 + 1 + 1) ≠ g18 := by
    have q := heap_lt X10_3.out
    have q2 := h11.1
    omega
  clear hall hF h11 hq11 t0 t1 t2 t3 t4 t5 t6 t7 t8 t9 t10 t11 t12 X10_0 X10_1 X10_2 X10_3 X10_4 X10_5 X10_6 X10_7 X10_8 X10_9 F10
  go_upto_region 11 with (fail)
  refine wp_region_inv2 (fun b a w' => Fr (fun i => i = w.heap.size + 1 + 1 + 1 ∨ i = w.heap.size + 1 + 1 + 1 + 1) W11 w' ∧ w'.heap[w.heap.size + 1 + 1 + 1]? = some (.cells (if b 2 = true then vs .i64 (za ++ zb) else vs .i64 ZZ) 53 (0, 0)) ∧ w'.heap[w.heap.size + 1 + 1 + 1 + 1]? = some (.cells (if b 3 = true then vs .i64 (zc ++ zd) else vs .i64 ZZ) 53 (0, 0)) ∧ a = ⟨#[.agg (vs .i64 (ya ++ yb)), .agg (vs .i64 (yc ++ yd)), .agg (vs .i64 y1), .pointer (some ⟨w.heap.size, 0, none⟩), .pointer (some ⟨w.heap.size + 1, 0, none⟩), .pointer (some ⟨w.heap.size + 1 + 1, 0, none⟩), .pointer (some ⟨w.heap.size + 1 + 1 + 1, 0, none⟩), .pointer (some ⟨w.heap.size + 1 + 1 + 1 + 1, 0, none⟩), .pointer (some ⟨g8, 0, none⟩), .pointer (some ⟨g9, 0, none⟩), .pointer (some ⟨g10, 0, none⟩), .pointer (some ⟨g11, 0, none⟩), .pointer (some ⟨g12, 0, none⟩), .pointer (some ⟨g13, 0, none⟩), .pointer (some ⟨g14, 0, none⟩), .pointer (some ⟨g15, 0, none⟩), .pointer (some ⟨g16, 0, none⟩), .pointer (some ⟨g17, 0, none⟩), .pointer (some ⟨g18, 0, none⟩), .pointer (some ⟨w.heap.size, 0, none⟩), .agg (vs .i64 ya), .pointer (some ⟨w.heap.size, 16, none⟩), .agg (vs .i64 yb), .agg (vs .i64 rA), .agg (vs .i64 rA), .agg (vs .i64 rA), .agg (vs .i64 rAA), .pointer (some ⟨w.heap.size, 0, none⟩), .agg (vs .i64 ya), .pointer (some ⟨w.heap.size, 16, none⟩), .agg (vs .i64 yb), .agg (vs .i64 rB), .agg (vs .i64 rB), .agg (vs .i64 rB), .agg (vs .i64 rBB), .agg (vs .i64 rAA), .agg (vs .i64 rBB), .agg (vs .i64 rE), .pointer (some ⟨w.heap.size + 1, 0, none⟩), .agg (vs .i64 yc), .pointer (some ⟨w.heap.size + 1, 16, none⟩), .agg (vs .i64 yd), .agg (vs .i64 rD), .agg (vs .i64 rA), .agg (vs .i64 rDA), .pointer (some ⟨w.heap.size + 1, 0, none⟩), .agg (vs .i64 yc), .pointer (some ⟨w.heap.size + 1, 16, none⟩), .agg (vs .i64 yd), .agg (vs .i64 rC), .agg (vs .i64 rB), .agg (vs .i64 rCB), .agg (vs .i64 rDA), .agg (vs .i64 rCB), .agg (vs .i64 rS), .agg (vs .i64 rDA), .agg (vs .i64 rCB), .agg (vs .i64 rL), .agg (vs .i64 rS), .agg (vs .i64 rS), .agg (vs .i64 zc), .agg (vs .i64 y1), .agg (vs .i64 rL), .agg (vs .i64 rL), .agg (vs .i64 rLL), .agg (vs .i64 zd), .agg (vs .i64 (zc ++ zd)), .agg (vs .i64 rAA), .agg (vs .i64 rBB), .agg (vs .i64 za), .agg (vs .i64 rE), .agg (vs .i64 rAA), .agg (vs .i64 rK), .agg (vs .i64 rE), .agg (vs .i64 rM), .agg (vs .i64 rT), .agg (vs .i64 zb), .agg (vs .i64 (za ++ zb)), if b 0 = true then .agg (vs .i64 (za ++ zb)) else undef, if b 1 = true then .agg (vs .i64 (zc ++ zd)) else undef], []⟩) (by kernel_rfl) (by kernel_rfl) ?start11 ?step11 ?done11
  case start11 => exact ⟨⟨rfl, rfl, rfl, Nat.le_refl _, fun _ _ _ => rfl⟩, by simp only [Bool.false_eq_true, if_false]; exact X11_0.out, by simp only [Bool.false_eq_true, if_false]; exact X11_1.out, by simp⟩
  case step11 =>
    intro i o b a w1 ho hI hb hr hc
    obtain ⟨hF, hR0, hR1, rfl⟩ := hI
    match i, ho with
    | 0, ho =>
      injection ho with ho
      subst ho
      refine wp_quiet_here _ (quiet_load 53 (.tmp 18) rfl (g18) rfl 53 _ (0, 0) _ (fun _ h => (Fr.block h _ (Nat.lt_of_lt_of_le (heap_lt X11_6.out) hF.size) (fun x => x)).trans ((hF.block _ (heap_lt X11_6.out) (fun e => e.elim (fun e => Dg18_3 e.symm) (fun e => Dg18_4 e.symm))).trans X11_6.out)) Try.underlying53 rfl (side_info (len32 n_za.out n_zb.out)) rfl) (fun w2 hw2 => ?_)
      refine ⟨hF.trans hw2.any, ?_, ?_, ?_⟩
      · have hh := (hw2.block _ (heap_lt hR0) (fun x => x)).trans hR0
        simpa [upd] using hh
      · have hh := (hw2.block _ (heap_lt hR1) (fun x => x)).trans hR1
        simpa [upd] using hh
      · simp [upd, Act.put]
    | 1, ho =>
      injection ho with ho
      subst ho
      refine wp_quiet_here _ (quiet_load 53 (.tmp 17) rfl (g17) rfl 53 _ (0, 0) _ (fun _ h => (Fr.block h _ (Nat.lt_of_lt_of_le (heap_lt X11_5.out) hF.size) (fun x => x)).trans ((hF.block _ (heap_lt X11_5.out) (fun e => e.elim (fun e => Dg17_3 e.symm) (fun e => Dg17_4 e.symm))).trans X11_5.out)) Try.underlying53 rfl (side_info (len32 n_zc.out n_zd.out)) rfl) (fun w2 hw2 => ?_)
      refine ⟨hF.trans hw2.any, ?_, ?_, ?_⟩
      · have hh := (hw2.block _ (heap_lt hR0) (fun x => x)).trans hR0
        simpa [upd] using hh
      · have hh := (hw2.block _ (heap_lt hR1) (fun x => x)).trans hR1
        simpa [upd] using hh
      · simp [upd, Act.put]
    | 2, ho =>
      injection ho with ho
      subst ho
      simp [Region.binds] at hr
      have d0 : b 0 = true := by simp only [hr]
      simp only [hr, if_true]
      have k2 := hR0
      rw [hb] at k2
      simp only [Bool.false_eq_true, if_false] at k2
      refine wp_store_row 53 (.tmp 6) (.tmp 78) rfl (w.heap.size + 1 + 1 + 1) (vs .i64 (za ++ zb)) rfl rfl 53 _ k2 (side_info (len32 n_za.out n_zb.out)) (by rw [vs_size, vs_size, n_ZZ.out, (len32 n_za.out n_zb.out)]) (vs_all _ _) ?_
      refine ⟨hF.setRow _ (.inl (by simp)), ?_, ?_, ?_⟩
      · refine (setRow_heap _ _ _ _ _ _ hR0).trans ?_
        simp [upd]
      · have hh := (setRow_other w1 (w.heap.size + 1 + 1 + 1) (w.heap.size + 1 + 1 + 1 + 1) (vs .i64 (za ++ zb)) (by first | assumption | omega)).trans hR1
        simpa [upd] using hh
      · simp [upd, Act.put, hr]
    | 3, ho =>
      injection ho with ho
      subst ho
      simp [Region.binds] at hr
      have d1 : b 1 = true := by simp only [hr]
      simp only [hr, if_true]
      have k2 := hR1
      rw [hb] at k2
      simp only [Bool.false_eq_true, if_false] at k2
      refine wp_store_row 53 (.tmp 7) (.tmp 79) rfl (w.heap.size + 1 + 1 + 1 + 1) (vs .i64 (zc ++ zd)) rfl rfl 53 _ k2 (side_info (len32 n_zc.out n_zd.out)) (by rw [vs_size, vs_size, n_ZZ.out, (len32 n_zc.out n_zd.out)]) (vs_all _ _) ?_
      refine ⟨hF.setRow _ (.inl (by simp)), ?_, ?_, ?_⟩
      · have hh := (setRow_other w1 (w.heap.size + 1 + 1 + 1 + 1) (w.heap.size + 1 + 1 + 1) (vs .i64 (zc ++ zd)) (by first | assumption | omega)).trans hR0
        simpa [upd] using hh
      · refine (setRow_heap _ _ _ _ _ _ hR1).trans ?_
        simp [upd]
      · simp [upd, Act.put, hr]
    | j + 4, ho => exact absurd ho (by simp)
  intro b a W12 hall hI
  obtain ⟨hF, hR0, hR1, rfl⟩ := hI
  have t0 : b 0 = true := hall 0 (by simp)
  have t1 : b 1 = true := hall 1 (by simp)
  have t2 : b 2 = true := hall 2 (by simp)
  have t3 : b 3 = true := hall 3 (by simp)
  simp only [t0, t1, t2, t3, if_true, true_implies] at hR0 hR1 ⊢
  have F12 : Hid (Fr (fun i => i = w.heap.size + 1 + 1 + 1 ∨ i = w.heap.size + 1 + 1 + 1 + 1) w W12) := F11.out.trans hF
  have X12_0 := Lib.hid hR0
  have X12_1 := Lib.hid hR1
  clear hall hF hR0 hR1 t0 t1 t2 t3 X11_0 X11_1 X11_2 X11_3 X11_4 X11_5 X11_6 F11
  go_wp2
  refine bodyPost_ret (results_two_rows Try.results32 _ _ _ _ 53 53 _ _ (0, 0) (0, 0) _ _ rfl X12_0.out Try.underlying53 rfl (side_info (len32 n_za.out n_zb.out)) rfl X12_1.out Try.underlying53 rfl (side_info (len32 n_zc.out n_zd.out))) rfl ⟨rfl, F12.out.weaken fun i hi hs => ?_⟩
  omega
end Go.Proofs.Ytbkbodcncjhcmaa
