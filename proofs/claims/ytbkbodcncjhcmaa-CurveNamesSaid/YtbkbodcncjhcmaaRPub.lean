/- The reference's Public and Share: contracts. Condition: 32 bytes each. -/
import Derived.Test.YtbkbodcncjhcmaaRX
namespace Go.Proofs.Ytbkbodcncjhcmaa
set_option linter.unusedSimpArgs false
set_option linter.unusedVariables false
open Go.RowKit

set_option maxRecDepth 100000 in
set_option maxHeartbeats 8000000 in
theorem rpublic_is (k : List Int) (w : World) (hk : k.length = 32) (bk : Bys k) :
    Calls Try.prog 18 #[.agg (vs .u8 k)] w fun e w' => e = .returned (.agg (vs .u8 (pub k))) ∧ Fr (fun _ => False) w w' := by
  obtain ⟨R, hR⟩ : ∃ R, R = pub k := ⟨_, rfl⟩
  obtain ⟨B, hB⟩ : ∃ B, B = nine := ⟨_, rfl⟩
  have C0 : ∀ W, Calls Try.prog 16 #[.agg (vs .u8 k), .agg (vs .u8 B)] W fun e w' => e = .returned (.agg (vs .u8 R)) ∧ Fr (fun _ => False) W w' := fun W => by rw [hR, hB]; exact rx_is k nine W hk bk rfl (by unfold Bys; decide)
  have HRR : Hid (R = pub k) := hR
  have HB : Hid (B = nine) := hB
  obtain ⟨Z, hZ⟩ : ∃ Z, Z = List.replicate 32 (0 : Int) := ⟨_, rfl⟩
  have zk : ∀ W : World, (zeroValue 23).run Try.prog W = .ok (.agg (vs .u8 Z)) W := fun W => by rw [hZ]; exact key_zero W
  have HN : Hid (∀ l : List Int, (l = k ∨ l = R ∨ l = Z) → l.length = 32) := by
    rintro l (rfl | rfl | rfl)
    · exact hk
    · rw [hR, pub, xv_length]
    · rw [hZ]; rfl
  clear hk bk hR hZ hB
  go_enter Try.func18, Try.ntmps18
  go_upto_region 1 with (fail)
  generalize hW : (w.alloc (.cells (vs .u8 k) 23)).alloc (.cells (vs .u8 Z) 23) = W0
  have HW := Lib.hid (calm2 hW)
  have X0 := Lib.hid HW.out.1
  have X1 := Lib.hid HW.out.2.1
  have F0 : Hid (Fr (fun i => i = w.heap.size + 1) w W0) := HW.out.2.2.any
  clear hW HW zk
  refine wp_region_seq (fun b a w' => Fr (fun i => i = w.heap.size + 1) W0 w' ∧ w'.heap[w.heap.size + 1]? = some (.cells (if b 3 = true then vs .u8 R else vs .u8 Z) 23 (0, 0)) ∧ a = ⟨#[.agg (vs .u8 k), .pointer (some ⟨w.heap.size, 0, none⟩), .pointer (some ⟨w.heap.size + 1, 0, none⟩), if b 0 = true then .agg (vs .u8 k) else undef, if b 1 = true then .agg (vs .u8 B) else undef, if b 2 = true then .agg (vs .u8 R) else undef], []⟩) (by kernel_rfl) ?start1 ?step1 ?done1
  case start1 => exact ⟨Fr.refl _ _, by simp only [Bool.false_eq_true, if_false]; exact X1.out, by simp⟩
  case step1 =>
    intro i o b a w1 ho hI hb hr
    obtain ⟨hF, hR0, rfl⟩ := hI
    match i, ho with
    | 0, ho =>
      injection ho with ho
      subst ho
      refine wp_quiet_here _ (quiet_load 23 (.tmp 1) rfl (w.heap.size) rfl 23 _ (0, 0) _ (fun _ h => (Fr.block h _ (Nat.lt_of_lt_of_le (heap_lt X0.out) hF.size) (fun x => x)).trans ((hF.block _ (heap_lt X0.out) (by show ¬ _; omega)).trans X0.out)) Try.underlying23 rfl (key_info (HN.out _ (.inl rfl))) rfl) (fun w2 hw2 => ?_)
      refine ⟨hF.trans hw2.any, ?_, ?_⟩
      · have hh := (hw2.block _ (heap_lt hR0) (fun x => x)).trans hR0
        simpa [upd] using hh
      · simp [upd, Act.put]
    | 1, ho =>
      injection ho with ho
      subst ho
      have d0 : b 0 = true := hr 0 (by decide)
      simp only [d0, if_true]
      refine wp_quiet_here (.agg (vs .u8 B)) (quiet_run _ (fun _ _ => by rw [HB.out]; kernel_rfl) rfl) (fun w2 hw2 => ?_)
      refine ⟨hF.trans hw2.any, ?_, ?_⟩
      · have hh := (hw2.block _ (heap_lt hR0) (fun x => x)).trans hR0
        simpa [upd] using hh
      · simp [upd, Act.put, d0]
    | 2, ho =>
      injection ho with ho
      subst ho
      have d0 : b 0 = true := hr 0 (by decide)
      have d1 : b 1 = true := hr 1 (by decide)
      simp only [d0, d1, if_true]
      refine wp_quiet_here (.agg (vs .u8 R)) ?_ (fun w2 hw2 => ?_)
      · go_big_quiet_op
        exact ⟨_, Calm.calls C0, by simp [Act.put]⟩
      refine ⟨hF.trans hw2.any, ?_, ?_⟩
      · have hh := (hw2.block _ (heap_lt hR0) (fun x => x)).trans hR0
        simpa [upd] using hh
      · simp [upd, Act.put, d0, d1]
    | 3, ho =>
      injection ho with ho
      subst ho
      have d0 : b 0 = true := hr 0 (by decide)
      have d1 : b 1 = true := hr 1 (by decide)
      have d2 : b 2 = true := hr 2 (by decide)
      simp only [d0, d1, d2, if_true]
      have k2 := hR0
      rw [hb] at k2
      simp only [Bool.false_eq_true, if_false] at k2
      refine wp_store_row 23 (.tmp 2) (.tmp 5) rfl (w.heap.size + 1) (vs .u8 R) rfl rfl 23 _ k2 (key_info (HN.out _ (.inr (.inl rfl)))) (by rw [vs_size, vs_size, HN.out _ (.inr (.inr rfl)), HN.out _ (.inr (.inl rfl))]) (vs_all _ _) ?_
      refine ⟨hF.setRow _ (.inl (by simp)), ?_, ?_⟩
      · refine (setRow_heap _ _ _ _ _ _ hR0).trans ?_
        simp [upd]
      · simp [upd, Act.put, d0, d1, d2]
    | j + 4, ho => exact absurd ho (by simp)
  intro b a W2 hall hI
  obtain ⟨hF, hR0, rfl⟩ := hI
  have t0 : b 0 = true := hall 0 (by simp)
  have t1 : b 1 = true := hall 1 (by simp)
  have t2 : b 2 = true := hall 2 (by simp)
  have t3 : b 3 = true := hall 3 (by simp)
  simp only [t0, t1, t2, t3, if_true, true_implies] at hR0 ⊢
  have F2 : Hid (Fr (fun i => i = w.heap.size + 1) w W2) := F0.out.trans hF
  have X2_0 := Lib.hid ((hF.block _ (heap_lt X0.out) (by show ¬ _; omega)).trans X0.out)
  have X2_1 := Lib.hid hR0
  clear hall hF hR0 t0 t1 t2 t3 F0
  go_wp2
  refine bodyPost_ret (results_cell_row Try.results18 _ _ _ 23 _ (0, 0) _ rfl X2_1.out Try.underlying23 rfl (key_info (HN.out _ (.inr (.inl rfl))))) rfl ⟨?_, F2.out.weaken fun i hi hs => ?_⟩
  · rw [HRR.out]
  · omega
set_option maxRecDepth 100000 in
set_option maxHeartbeats 8000000 in
theorem rshare_no (k u : List Int) (w : World) (hk : k.length = 32) (bk : Bys k) (hu : u.length = 32) (bu : Bys u) (h : xv k u = List.replicate 32 0) :
    Calls Try.prog 20 #[.agg (vs .u8 k), .agg (vs .u8 u)] w fun e w' => e = .returned (.tuple #[.agg (vs .u8 (List.replicate 32 0)), .int .i64 30]) ∧ Fr (fun _ => False) w w' := by
  obtain ⟨R, hR⟩ : ∃ R, R = xv k u := ⟨_, rfl⟩
  have C0 : ∀ W, Calls Try.prog 16 #[.agg (vs .u8 k), .agg (vs .u8 u)] W fun e w' => e = .returned (.agg (vs .u8 R)) ∧ Fr (fun _ => False) W w' := fun W => by rw [hR]; exact rx_is k u W hk bk hu bu
  have HRR : Hid (R = xv k u) := hR
  obtain ⟨Z, hZ⟩ : ∃ Z, Z = List.replicate 32 (0 : Int) := ⟨_, rfl⟩
  have HZZ : Hid (Z = List.replicate 32 (0 : Int)) := hZ
  have zk : ∀ W : World, (zeroValue 23).run Try.prog W = .ok (.agg (vs .u8 Z)) W := fun W => by rw [hZ]; exact key_zero W
  have HN : Hid (∀ l : List Int, (l = k ∨ l = u ∨ l = R ∨ l = Z) → l.length = 32) := by
    rintro l (rfl | rfl | rfl | rfl)
    · exact hk
    · exact hu
    · rw [hR, xv_length]
    · rw [hZ]; rfl
  have hq : ∀ W, (Op.equalIn 10000 23 (.agg (vs .u8 R)) (.agg (vs .u8 Z))).run Try.prog W = .ok true W := fun W => by
    rw [eq23 _ _ (HN.out _ (.inr (.inr (.inl rfl)))) (HN.out _ (.inr (.inr (.inr rfl)))) W, hR, hZ]
    rw [decide_eq_true h]
  clear hk bk hu bu hR hZ h
  go_enter Try.func20, Try.ntmps20
  go_upto_region 1 with (fail)
  generalize hW : ((w.alloc (.cells (vs .u8 k) 23)).alloc (.cells (vs .u8 u) 23)).alloc (.cells (vs .u8 Z) 23) = W0
  have HW := Lib.hid (calm3 hW)
  have X0 := Lib.hid HW.out.1
  have X1 := Lib.hid HW.out.2.1
  have X2 := Lib.hid HW.out.2.2.1
  have F0 : Hid (Fr (fun i => i = w.heap.size + 1 + 1) w W0) := HW.out.2.2.2.any
  clear hW HW
  refine wp_region_seq (fun b a w' => ∃ g6 : Nat, Fr (fun _ => False) W0 w' ∧ (b 3 = true → W0.heap.size ≤ g6 ∧ w'.heap[g6]? = some (.cells (if b 4 = true then vs .u8 R else vs .u8 Z) 23 (0, 0))) ∧ (b 4 = true → b 3 = true) ∧ a = ⟨#[.agg (vs .u8 k), .agg (vs .u8 u), .pointer (some ⟨w.heap.size, 0, none⟩), .pointer (some ⟨w.heap.size + 1, 0, none⟩), .pointer (some ⟨w.heap.size + 1 + 1, 0, none⟩), .int .i64 0, if b 3 = true then .pointer (some ⟨g6, 0, none⟩) else undef, if b 0 = true then .agg (vs .u8 k) else undef, if b 1 = true then .agg (vs .u8 u) else undef, if b 2 = true then .agg (vs .u8 R) else undef, undef, undef, undef, undef, undef], []⟩) (by kernel_rfl) ?start1 ?step1 ?done1
  case start1 => exact ⟨0, Fr.refl _ _, by simp, by simp, by simp⟩
  case step1 =>
    intro i o b a w1 ho hI hb hr
    obtain ⟨g6, hF, h3, hq3, rfl⟩ := hI
    match i, ho with
    | 0, ho =>
      injection ho with ho
      subst ho
      refine wp_quiet_here _ (quiet_load 23 (.tmp 2) rfl (w.heap.size) rfl 23 _ (0, 0) _ (fun _ h => (Fr.block h _ (Nat.lt_of_lt_of_le (heap_lt X0.out) hF.size) (fun x => x)).trans ((hF.block _ (heap_lt X0.out) (fun x => x)).trans X0.out)) Try.underlying23 rfl (key_info (HN.out _ (.inl rfl))) rfl) (fun w2 hw2 => ?_)
      refine ⟨g6, hF.trans hw2, ?_, ?_, ?_⟩
      · intro hx
        replace hx : b 3 = true := by simpa [upd] using hx
        obtain ⟨k1', k2⟩ := h3 hx
        refine ⟨k1', (hw2.block _ (heap_lt k2) (fun x => x)).trans ?_⟩
        rw [k2]
        simp [upd]
      · simpa [upd] using hq3
      · simp [upd, Act.put]
    | 1, ho =>
      injection ho with ho
      subst ho
      have d0 : b 0 = true := hr 0 (by decide)
      simp only [d0, if_true]
      refine wp_quiet_here _ (quiet_load 23 (.tmp 3) rfl (w.heap.size + 1) rfl 23 _ (0, 0) _ (fun _ h => (Fr.block h _ (Nat.lt_of_lt_of_le (heap_lt X1.out) hF.size) (fun x => x)).trans ((hF.block _ (heap_lt X1.out) (fun x => x)).trans X1.out)) Try.underlying23 rfl (key_info (HN.out _ (.inr (.inl rfl)))) rfl) (fun w2 hw2 => ?_)
      refine ⟨g6, hF.trans hw2, ?_, ?_, ?_⟩
      · intro hx
        replace hx : b 3 = true := by simpa [upd] using hx
        obtain ⟨k1', k2⟩ := h3 hx
        refine ⟨k1', (hw2.block _ (heap_lt k2) (fun x => x)).trans ?_⟩
        rw [k2]
        simp [upd]
      · simpa [upd] using hq3
      · simp [upd, Act.put, d0]
    | 2, ho =>
      injection ho with ho
      subst ho
      have d0 : b 0 = true := hr 0 (by decide)
      have d1 : b 1 = true := hr 1 (by decide)
      simp only [d0, d1, if_true]
      refine wp_quiet_here (.agg (vs .u8 R)) ?_ (fun w2 hw2 => ?_)
      · go_big_quiet_op
        exact ⟨_, Calm.calls C0, by simp [Act.put]⟩
      refine ⟨g6, hF.trans hw2, ?_, ?_, ?_⟩
      · intro hx
        replace hx : b 3 = true := by simpa [upd] using hx
        obtain ⟨k1', k2⟩ := h3 hx
        refine ⟨k1', (hw2.block _ (heap_lt k2) (fun x => x)).trans ?_⟩
        rw [k2]
        simp [upd]
      · simpa [upd] using hq3
      · simp [upd, Act.put, d0, d1]
    | 3, ho =>
      injection ho with ho
      subst ho
      have d0 : b 0 = true := hr 0 (by decide)
      have d1 : b 1 = true := hr 1 (by decide)
      have d2 : b 2 = true := hr 2 (by decide)
      simp only [d0, d1, d2, if_true]
      refine wp_alloc_any 23 rfl (vs .u8 Z) zk ?_
      refine ⟨w1.heap.size, hF.alloc _, ?_, ?_, ?_⟩
      · intro _
        refine ⟨hF.size, (heap_alloc_new w1 _).trans ?_⟩
        have hs : b 4 = false := by
          rcases hbs : b 4 with _ | _
          · rfl
          · rw [hq3 hbs] at hb
            cases hb
        simp [upd, hs]
      · simp [upd]
      · simp [upd, Act.put, d0, d1, d2]
    | 4, ho =>
      injection ho with ho
      subst ho
      have d0 : b 0 = true := hr 0 (by decide)
      have d1 : b 1 = true := hr 1 (by decide)
      have d2 : b 2 = true := hr 2 (by decide)
      have d3 : b 3 = true := hr 3 (by decide)
      simp only [d0, d1, d2, d3, if_true]
      obtain ⟨k1, k2⟩ := h3 d3
      rw [hb] at k2
      simp only [Bool.false_eq_true, if_false] at k2
      refine wp_store_row 23 (.tmp 6) (.tmp 9) rfl g6 (vs .u8 R) rfl rfl 23 _ k2 (key_info (HN.out _ (.inr (.inr (.inl rfl))))) (by rw [vs_size, vs_size, HN.out _ (.inr (.inr (.inr rfl))), HN.out _ (.inr (.inr (.inl rfl)))]) (vs_all _ _) ?_
      refine ⟨g6, hF.setRow _ (.inr k1), ?_, ?_, ?_⟩
      · intro _
        refine ⟨k1, (setRow_heap _ _ _ _ _ _ k2).trans ?_⟩
        simp [upd]
      · simp [upd, d3]
      · simp [upd, Act.put, d0, d1, d2, d3]
    | j + 5, ho => exact absurd ho (by simp)
  intro b a W2 hall hI
  obtain ⟨g6, hF, h3, hq3, rfl⟩ := hI
  have t0 : b 0 = true := hall 0 (by simp)
  have t1 : b 1 = true := hall 1 (by simp)
  have t2 : b 2 = true := hall 2 (by simp)
  have t3 : b 3 = true := hall 3 (by simp)
  have t4 : b 4 = true := hall 4 (by simp)
  simp only [t0, t1, t2, t3, t4, if_true, true_implies] at h3 hq3 ⊢
  have F2 : Hid (Fr (fun i => i = w.heap.size + 1 + 1) w W2) := F0.out.trans hF.any
  have X2_0 := Lib.hid ((hF.block _ (heap_lt X0.out) (fun x => x)).trans X0.out)
  have X2_1 := Lib.hid ((hF.block _ (heap_lt X1.out) (fun x => x)).trans X1.out)
  have X2_2 := Lib.hid ((hF.block _ (heap_lt X2.out) (fun x => x)).trans X2.out)
  have X2_3 := Lib.hid h3.2
  have Yg6 : w.heap.size ≤ g6 := Nat.le_trans F0.out.size h3.1
  have Dg6_0 : (w.heap.size) ≠ g6 := by
    have q := heap_lt X0.out
    have q2 := h3.1
    omega
  have Dg6_1 : (w.heap.size + 1) ≠ g6 := by
    have q := heap_lt X1.out
    have q2 := h3.1
    omega
  have Dg6_2 : (w.heap.size + 1 + 1) ≠ g6 := by
    have q := heap_lt X2.out
    have q2 := h3.1
    omega
  clear hall hF h3 hq3 t0 t1 t2 t3 t4 F0
  go_upto_region 2 with (fail)
  refine wp_region_seq (fun b a w' => Fr (fun _ => False) W2 w' ∧ a = ⟨#[.agg (vs .u8 k), .agg (vs .u8 u), .pointer (some ⟨w.heap.size, 0, none⟩), .pointer (some ⟨w.heap.size + 1, 0, none⟩), .pointer (some ⟨w.heap.size + 1 + 1, 0, none⟩), .int .i64 0, .pointer (some ⟨g6, 0, none⟩), .agg (vs .u8 k), .agg (vs .u8 u), .agg (vs .u8 R), if b 0 = true then .agg (vs .u8 R) else undef, if b 1 = true then .agg (vs .u8 Z) else undef, if b 2 = true then .bool true else undef, undef, undef], []⟩) (by kernel_rfl) ?start2 ?step2 ?done2
  case start2 => exact ⟨Fr.refl _ _, by simp⟩
  case step2 =>
    intro i o b a w1 ho hI hb hr
    obtain ⟨hF, rfl⟩ := hI
    match i, ho with
    | 0, ho =>
      injection ho with ho
      subst ho
      refine wp_quiet_here _ (quiet_load 23 (.tmp 6) rfl (g6) rfl 23 _ (0, 0) _ (fun _ h => (Fr.block h _ (Nat.lt_of_lt_of_le (heap_lt X2_3.out) hF.size) (fun x => x)).trans ((hF.block _ (heap_lt X2_3.out) (fun x => x)).trans X2_3.out)) Try.underlying23 rfl (key_info (HN.out _ (.inr (.inr (.inl rfl))))) rfl) (fun w2 hw2 => ?_)
      refine ⟨hF.trans hw2, ?_⟩
      · simp [upd, Act.put]
    | 1, ho =>
      injection ho with ho
      subst ho
      have d0 : b 0 = true := hr 0 (by decide)
      simp only [d0, if_true]
      refine wp_quiet_here (.agg (vs .u8 Z)) (quiet_run _ (fun _ _ => by rw [HZZ.out]; kernel_rfl) rfl) (fun w2 hw2 => ?_)
      refine ⟨hF.trans hw2, ?_⟩
      · simp [upd, Act.put, d0]
    | 2, ho =>
      injection ho with ho
      subst ho
      have d0 : b 0 = true := hr 0 (by decide)
      have d1 : b 1 = true := hr 1 (by decide)
      simp only [d0, d1, if_true]
      refine wp_quiet_here (.bool true) ?_ (fun w2 hw2 => ?_)
      · go_big_quiet_op
        first
          | (simp [Act.put]; done)
          | exact ⟨_, fun _ _ => rfl, by simp [Act.put]⟩
      refine ⟨hF.trans hw2, ?_⟩
      · simp [upd, Act.put, d0, d1]
    | j + 3, ho => exact absurd ho (by simp)
  intro b a W3 hall hI
  obtain ⟨hF, rfl⟩ := hI
  have t0 : b 0 = true := hall 0 (by simp)
  have t1 : b 1 = true := hall 1 (by simp)
  have t2 : b 2 = true := hall 2 (by simp)
  simp only [t0, t1, t2, if_true]
  have F3 : Hid (Fr (fun i => i = w.heap.size + 1 + 1) w W3) := F2.out.trans hF.any
  have X3_0 := Lib.hid ((hF.block _ (heap_lt X2_0.out) (fun x => x)).trans X2_0.out)
  have X3_1 := Lib.hid ((hF.block _ (heap_lt X2_1.out) (fun x => x)).trans X2_1.out)
  have X3_2 := Lib.hid ((hF.block _ (heap_lt X2_2.out) (fun x => x)).trans X2_2.out)
  have X3_3 := Lib.hid ((hF.block _ (heap_lt X2_3.out) (fun x => x)).trans X2_3.out)
  clear hall hF  t0 t1 t2 X2_0 X2_1 X2_2 X2_3 F2
  go_upto_region 3 with (fail)
  refine wp_region_seq (fun b a w' => Fr (fun i => i = w.heap.size + 1 + 1) W3 w' ∧ w'.heap[w.heap.size + 1 + 1]? = some (.cells (if b 1 = true then vs .u8 Z else vs .u8 Z) 23 (0, 0)) ∧ a = ⟨#[.agg (vs .u8 k), .agg (vs .u8 u), .pointer (some ⟨w.heap.size, 0, none⟩), .pointer (some ⟨w.heap.size + 1, 0, none⟩), .pointer (some ⟨w.heap.size + 1 + 1, 0, none⟩), if b 2 = true then .int .i64 30 else .int .i64 0, .pointer (some ⟨g6, 0, none⟩), .agg (vs .u8 k), .agg (vs .u8 u), .agg (vs .u8 R), .agg (vs .u8 R), .agg (vs .u8 Z), .bool true, if b 0 = true then .agg (vs .u8 Z) else undef, undef], []⟩) (by kernel_rfl) ?start3 ?step3 ?done3
  case start3 => exact ⟨Fr.refl _ _, by simp only [Bool.false_eq_true, if_false]; exact X3_2.out, by simp⟩
  case step3 =>
    intro i o b a w1 ho hI hb hr
    obtain ⟨hF, hR0, rfl⟩ := hI
    match i, ho with
    | 0, ho =>
      injection ho with ho
      subst ho
      refine wp_quiet_here (.agg (vs .u8 Z)) (quiet_run _ (fun _ _ => by rw [HZZ.out]; kernel_rfl) rfl) (fun w2 hw2 => ?_)
      refine ⟨hF.trans hw2.any, ?_, ?_⟩
      · have hh := (hw2.block _ (heap_lt hR0) (fun x => x)).trans hR0
        simpa [upd] using hh
      · simp [upd, Act.put]
    | 1, ho =>
      injection ho with ho
      subst ho
      have d0 : b 0 = true := hr 0 (by decide)
      simp only [d0, if_true]
      have k2 := hR0
      rw [hb] at k2
      simp only [Bool.false_eq_true, if_false] at k2
      refine wp_store_row 23 (.tmp 4) (.tmp 13) rfl (w.heap.size + 1 + 1) (vs .u8 Z) rfl rfl 23 _ k2 (key_info (HN.out _ (.inr (.inr (.inr rfl))))) rfl (vs_all _ _) ?_
      refine ⟨hF.setRow _ (.inl (by simp)), ?_, ?_⟩
      · refine (setRow_heap _ _ _ _ _ _ hR0).trans ?_
        simp [upd]
      · simp [upd, Act.put, d0]
    | 2, ho =>
      injection ho with ho
      subst ho
      have d0 : b 0 = true := hr 0 (by decide)
      have d1 : b 1 = true := hr 1 (by decide)
      simp only [d0, d1, if_true]
      refine wp_quiet_here (.int .i64 30) ?_ (fun w2 hw2 => ?_)
      · go_big_quiet_op
        first
          | (simp [Act.put]; done)
          | exact ⟨_, fun _ _ => rfl, by simp [Act.put]⟩
      refine ⟨hF.trans hw2.any, ?_, ?_⟩
      · have hh := (hw2.block _ (heap_lt hR0) (fun x => x)).trans hR0
        simpa [upd] using hh
      · simp [upd, Act.put, d0, d1]
    | j + 3, ho => exact absurd ho (by simp)
  intro b a W4 hall hI
  obtain ⟨hF, hR0, rfl⟩ := hI
  have t0 : b 0 = true := hall 0 (by simp)
  have t1 : b 1 = true := hall 1 (by simp)
  have t2 : b 2 = true := hall 2 (by simp)
  simp only [t0, t1, t2, if_true, true_implies] at hR0 ⊢
  have F4 : Hid (Fr (fun i => i = w.heap.size + 1 + 1) w W4) := F3.out.trans hF
  have X4_0 := Lib.hid ((hF.block _ (heap_lt X3_0.out) (by show ¬ _; omega)).trans X3_0.out)
  have X4_1 := Lib.hid ((hF.block _ (heap_lt X3_1.out) (by show ¬ _; omega)).trans X3_1.out)
  have X4_2 := Lib.hid hR0
  have X4_3 := Lib.hid ((hF.block _ (heap_lt X3_3.out) (fun e => Dg6_2 e.symm)).trans X3_3.out)
  clear hall hF hR0 t0 t1 t2 X3_0 X3_1 X3_2 X3_3 F3
  go_wp2
  refine bodyPost_ret (v := .tuple #[.agg (vs .u8 Z), .int .i64 30]) (results_row_int Try.results20 _ _ _ 23 _ (0, 0) _ _ rfl X4_2.out Try.underlying23 rfl (key_info (HN.out _ (.inr (.inr (.inr rfl))))) rfl) rfl ⟨?_, F4.out.weaken fun i hi hs => ?_⟩
  · rw [HZZ.out]
  · omega

set_option maxRecDepth 100000 in
set_option maxHeartbeats 8000000 in
theorem rshare_yes (k u : List Int) (w : World) (hk : k.length = 32) (bk : Bys k) (hu : u.length = 32) (bu : Bys u) (h : xv k u ≠ List.replicate 32 0) :
    Calls Try.prog 20 #[.agg (vs .u8 k), .agg (vs .u8 u)] w fun e w' => e = .returned (.tuple #[.agg (vs .u8 (xv k u)), .int .i64 0]) ∧ Fr (fun _ => False) w w' := by
  obtain ⟨R, hR⟩ : ∃ R, R = xv k u := ⟨_, rfl⟩
  have C0 : ∀ W, Calls Try.prog 16 #[.agg (vs .u8 k), .agg (vs .u8 u)] W fun e w' => e = .returned (.agg (vs .u8 R)) ∧ Fr (fun _ => False) W w' := fun W => by rw [hR]; exact rx_is k u W hk bk hu bu
  have HRR : Hid (R = xv k u) := hR
  obtain ⟨Z, hZ⟩ : ∃ Z, Z = List.replicate 32 (0 : Int) := ⟨_, rfl⟩
  have HZZ : Hid (Z = List.replicate 32 (0 : Int)) := hZ
  have zk : ∀ W : World, (zeroValue 23).run Try.prog W = .ok (.agg (vs .u8 Z)) W := fun W => by rw [hZ]; exact key_zero W
  have HN : Hid (∀ l : List Int, (l = k ∨ l = u ∨ l = R ∨ l = Z) → l.length = 32) := by
    rintro l (rfl | rfl | rfl | rfl)
    · exact hk
    · exact hu
    · rw [hR, xv_length]
    · rw [hZ]; rfl
  have hq : ∀ W, (Op.equalIn 10000 23 (.agg (vs .u8 R)) (.agg (vs .u8 Z))).run Try.prog W = .ok false W := fun W => by
    rw [eq23 _ _ (HN.out _ (.inr (.inr (.inl rfl)))) (HN.out _ (.inr (.inr (.inr rfl)))) W, hR, hZ]
    rw [decide_eq_false h]
  clear hk bk hu bu hR hZ h
  go_enter Try.func20, Try.ntmps20
  go_upto_region 1 with (fail)
  generalize hW : ((w.alloc (.cells (vs .u8 k) 23)).alloc (.cells (vs .u8 u) 23)).alloc (.cells (vs .u8 Z) 23) = W0
  have HW := Lib.hid (calm3 hW)
  have X0 := Lib.hid HW.out.1
  have X1 := Lib.hid HW.out.2.1
  have X2 := Lib.hid HW.out.2.2.1
  have F0 : Hid (Fr (fun i => i = w.heap.size + 1 + 1) w W0) := HW.out.2.2.2.any
  clear hW HW
  refine wp_region_seq (fun b a w' => ∃ g6 : Nat, Fr (fun _ => False) W0 w' ∧ (b 3 = true → W0.heap.size ≤ g6 ∧ w'.heap[g6]? = some (.cells (if b 4 = true then vs .u8 R else vs .u8 Z) 23 (0, 0))) ∧ (b 4 = true → b 3 = true) ∧ a = ⟨#[.agg (vs .u8 k), .agg (vs .u8 u), .pointer (some ⟨w.heap.size, 0, none⟩), .pointer (some ⟨w.heap.size + 1, 0, none⟩), .pointer (some ⟨w.heap.size + 1 + 1, 0, none⟩), .int .i64 0, if b 3 = true then .pointer (some ⟨g6, 0, none⟩) else undef, if b 0 = true then .agg (vs .u8 k) else undef, if b 1 = true then .agg (vs .u8 u) else undef, if b 2 = true then .agg (vs .u8 R) else undef, undef, undef, undef, undef, undef], []⟩) (by kernel_rfl) ?start1 ?step1 ?done1
  case start1 => exact ⟨0, Fr.refl _ _, by simp, by simp, by simp⟩
  case step1 =>
    intro i o b a w1 ho hI hb hr
    obtain ⟨g6, hF, h3, hq3, rfl⟩ := hI
    match i, ho with
    | 0, ho =>
      injection ho with ho
      subst ho
      refine wp_quiet_here _ (quiet_load 23 (.tmp 2) rfl (w.heap.size) rfl 23 _ (0, 0) _ (fun _ h => (Fr.block h _ (Nat.lt_of_lt_of_le (heap_lt X0.out) hF.size) (fun x => x)).trans ((hF.block _ (heap_lt X0.out) (fun x => x)).trans X0.out)) Try.underlying23 rfl (key_info (HN.out _ (.inl rfl))) rfl) (fun w2 hw2 => ?_)
      refine ⟨g6, hF.trans hw2, ?_, ?_, ?_⟩
      · intro hx
        replace hx : b 3 = true := by simpa [upd] using hx
        obtain ⟨k1', k2⟩ := h3 hx
        refine ⟨k1', (hw2.block _ (heap_lt k2) (fun x => x)).trans ?_⟩
        rw [k2]
        simp [upd]
      · simpa [upd] using hq3
      · simp [upd, Act.put]
    | 1, ho =>
      injection ho with ho
      subst ho
      have d0 : b 0 = true := hr 0 (by decide)
      simp only [d0, if_true]
      refine wp_quiet_here _ (quiet_load 23 (.tmp 3) rfl (w.heap.size + 1) rfl 23 _ (0, 0) _ (fun _ h => (Fr.block h _ (Nat.lt_of_lt_of_le (heap_lt X1.out) hF.size) (fun x => x)).trans ((hF.block _ (heap_lt X1.out) (fun x => x)).trans X1.out)) Try.underlying23 rfl (key_info (HN.out _ (.inr (.inl rfl)))) rfl) (fun w2 hw2 => ?_)
      refine ⟨g6, hF.trans hw2, ?_, ?_, ?_⟩
      · intro hx
        replace hx : b 3 = true := by simpa [upd] using hx
        obtain ⟨k1', k2⟩ := h3 hx
        refine ⟨k1', (hw2.block _ (heap_lt k2) (fun x => x)).trans ?_⟩
        rw [k2]
        simp [upd]
      · simpa [upd] using hq3
      · simp [upd, Act.put, d0]
    | 2, ho =>
      injection ho with ho
      subst ho
      have d0 : b 0 = true := hr 0 (by decide)
      have d1 : b 1 = true := hr 1 (by decide)
      simp only [d0, d1, if_true]
      refine wp_quiet_here (.agg (vs .u8 R)) ?_ (fun w2 hw2 => ?_)
      · go_big_quiet_op
        exact ⟨_, Calm.calls C0, by simp [Act.put]⟩
      refine ⟨g6, hF.trans hw2, ?_, ?_, ?_⟩
      · intro hx
        replace hx : b 3 = true := by simpa [upd] using hx
        obtain ⟨k1', k2⟩ := h3 hx
        refine ⟨k1', (hw2.block _ (heap_lt k2) (fun x => x)).trans ?_⟩
        rw [k2]
        simp [upd]
      · simpa [upd] using hq3
      · simp [upd, Act.put, d0, d1]
    | 3, ho =>
      injection ho with ho
      subst ho
      have d0 : b 0 = true := hr 0 (by decide)
      have d1 : b 1 = true := hr 1 (by decide)
      have d2 : b 2 = true := hr 2 (by decide)
      simp only [d0, d1, d2, if_true]
      refine wp_alloc_any 23 rfl (vs .u8 Z) zk ?_
      refine ⟨w1.heap.size, hF.alloc _, ?_, ?_, ?_⟩
      · intro _
        refine ⟨hF.size, (heap_alloc_new w1 _).trans ?_⟩
        have hs : b 4 = false := by
          rcases hbs : b 4 with _ | _
          · rfl
          · rw [hq3 hbs] at hb
            cases hb
        simp [upd, hs]
      · simp [upd]
      · simp [upd, Act.put, d0, d1, d2]
    | 4, ho =>
      injection ho with ho
      subst ho
      have d0 : b 0 = true := hr 0 (by decide)
      have d1 : b 1 = true := hr 1 (by decide)
      have d2 : b 2 = true := hr 2 (by decide)
      have d3 : b 3 = true := hr 3 (by decide)
      simp only [d0, d1, d2, d3, if_true]
      obtain ⟨k1, k2⟩ := h3 d3
      rw [hb] at k2
      simp only [Bool.false_eq_true, if_false] at k2
      refine wp_store_row 23 (.tmp 6) (.tmp 9) rfl g6 (vs .u8 R) rfl rfl 23 _ k2 (key_info (HN.out _ (.inr (.inr (.inl rfl))))) (by rw [vs_size, vs_size, HN.out _ (.inr (.inr (.inr rfl))), HN.out _ (.inr (.inr (.inl rfl)))]) (vs_all _ _) ?_
      refine ⟨g6, hF.setRow _ (.inr k1), ?_, ?_, ?_⟩
      · intro _
        refine ⟨k1, (setRow_heap _ _ _ _ _ _ k2).trans ?_⟩
        simp [upd]
      · simp [upd, d3]
      · simp [upd, Act.put, d0, d1, d2, d3]
    | j + 5, ho => exact absurd ho (by simp)
  intro b a W2 hall hI
  obtain ⟨g6, hF, h3, hq3, rfl⟩ := hI
  have t0 : b 0 = true := hall 0 (by simp)
  have t1 : b 1 = true := hall 1 (by simp)
  have t2 : b 2 = true := hall 2 (by simp)
  have t3 : b 3 = true := hall 3 (by simp)
  have t4 : b 4 = true := hall 4 (by simp)
  simp only [t0, t1, t2, t3, t4, if_true, true_implies] at h3 hq3 ⊢
  have F2 : Hid (Fr (fun i => i = w.heap.size + 1 + 1) w W2) := F0.out.trans hF.any
  have X2_0 := Lib.hid ((hF.block _ (heap_lt X0.out) (fun x => x)).trans X0.out)
  have X2_1 := Lib.hid ((hF.block _ (heap_lt X1.out) (fun x => x)).trans X1.out)
  have X2_2 := Lib.hid ((hF.block _ (heap_lt X2.out) (fun x => x)).trans X2.out)
  have X2_3 := Lib.hid h3.2
  have Yg6 : w.heap.size ≤ g6 := Nat.le_trans F0.out.size h3.1
  have Dg6_0 : (w.heap.size) ≠ g6 := by
    have q := heap_lt X0.out
    have q2 := h3.1
    omega
  have Dg6_1 : (w.heap.size + 1) ≠ g6 := by
    have q := heap_lt X1.out
    have q2 := h3.1
    omega
  have Dg6_2 : (w.heap.size + 1 + 1) ≠ g6 := by
    have q := heap_lt X2.out
    have q2 := h3.1
    omega
  clear hall hF h3 hq3 t0 t1 t2 t3 t4 F0
  go_upto_region 2 with (fail)
  refine wp_region_seq (fun b a w' => Fr (fun _ => False) W2 w' ∧ a = ⟨#[.agg (vs .u8 k), .agg (vs .u8 u), .pointer (some ⟨w.heap.size, 0, none⟩), .pointer (some ⟨w.heap.size + 1, 0, none⟩), .pointer (some ⟨w.heap.size + 1 + 1, 0, none⟩), .int .i64 0, .pointer (some ⟨g6, 0, none⟩), .agg (vs .u8 k), .agg (vs .u8 u), .agg (vs .u8 R), if b 0 = true then .agg (vs .u8 R) else undef, if b 1 = true then .agg (vs .u8 Z) else undef, if b 2 = true then .bool false else undef, undef, undef], []⟩) (by kernel_rfl) ?start2 ?step2 ?done2
  case start2 => exact ⟨Fr.refl _ _, by simp⟩
  case step2 =>
    intro i o b a w1 ho hI hb hr
    obtain ⟨hF, rfl⟩ := hI
    match i, ho with
    | 0, ho =>
      injection ho with ho
      subst ho
      refine wp_quiet_here _ (quiet_load 23 (.tmp 6) rfl (g6) rfl 23 _ (0, 0) _ (fun _ h => (Fr.block h _ (Nat.lt_of_lt_of_le (heap_lt X2_3.out) hF.size) (fun x => x)).trans ((hF.block _ (heap_lt X2_3.out) (fun x => x)).trans X2_3.out)) Try.underlying23 rfl (key_info (HN.out _ (.inr (.inr (.inl rfl))))) rfl) (fun w2 hw2 => ?_)
      refine ⟨hF.trans hw2, ?_⟩
      · simp [upd, Act.put]
    | 1, ho =>
      injection ho with ho
      subst ho
      have d0 : b 0 = true := hr 0 (by decide)
      simp only [d0, if_true]
      refine wp_quiet_here (.agg (vs .u8 Z)) (quiet_run _ (fun _ _ => by rw [HZZ.out]; kernel_rfl) rfl) (fun w2 hw2 => ?_)
      refine ⟨hF.trans hw2, ?_⟩
      · simp [upd, Act.put, d0]
    | 2, ho =>
      injection ho with ho
      subst ho
      have d0 : b 0 = true := hr 0 (by decide)
      have d1 : b 1 = true := hr 1 (by decide)
      simp only [d0, d1, if_true]
      refine wp_quiet_here (.bool false) ?_ (fun w2 hw2 => ?_)
      · go_big_quiet_op
        first
          | (simp [Act.put]; done)
          | exact ⟨_, fun _ _ => rfl, by simp [Act.put]⟩
      refine ⟨hF.trans hw2, ?_⟩
      · simp [upd, Act.put, d0, d1]
    | j + 3, ho => exact absurd ho (by simp)
  intro b a W3 hall hI
  obtain ⟨hF, rfl⟩ := hI
  have t0 : b 0 = true := hall 0 (by simp)
  have t1 : b 1 = true := hall 1 (by simp)
  have t2 : b 2 = true := hall 2 (by simp)
  simp only [t0, t1, t2, if_true]
  have F3 : Hid (Fr (fun i => i = w.heap.size + 1 + 1) w W3) := F2.out.trans hF.any
  have X3_0 := Lib.hid ((hF.block _ (heap_lt X2_0.out) (fun x => x)).trans X2_0.out)
  have X3_1 := Lib.hid ((hF.block _ (heap_lt X2_1.out) (fun x => x)).trans X2_1.out)
  have X3_2 := Lib.hid ((hF.block _ (heap_lt X2_2.out) (fun x => x)).trans X2_2.out)
  have X3_3 := Lib.hid ((hF.block _ (heap_lt X2_3.out) (fun x => x)).trans X2_3.out)
  clear hall hF  t0 t1 t2 X2_0 X2_1 X2_2 X2_3 F2
  go_upto_region 4 with (fail)
  refine wp_region_seq (fun b a w' => Fr (fun i => i = w.heap.size + 1 + 1) W3 w' ∧ w'.heap[w.heap.size + 1 + 1]? = some (.cells (if b 1 = true then vs .u8 R else vs .u8 Z) 23 (0, 0)) ∧ a = ⟨#[.agg (vs .u8 k), .agg (vs .u8 u), .pointer (some ⟨w.heap.size, 0, none⟩), .pointer (some ⟨w.heap.size + 1, 0, none⟩), .pointer (some ⟨w.heap.size + 1 + 1, 0, none⟩), if b 2 = true then .int .i64 0 else .int .i64 0, .pointer (some ⟨g6, 0, none⟩), .agg (vs .u8 k), .agg (vs .u8 u), .agg (vs .u8 R), .agg (vs .u8 R), .agg (vs .u8 Z), .bool false, undef, if b 0 = true then .agg (vs .u8 R) else undef], []⟩) (by kernel_rfl) ?start4 ?step4 ?done4
  case start4 => exact ⟨Fr.refl _ _, by simp only [Bool.false_eq_true, if_false]; exact X3_2.out, by simp⟩
  case step4 =>
    intro i o b a w1 ho hI hb hr
    obtain ⟨hF, hR0, rfl⟩ := hI
    match i, ho with
    | 0, ho =>
      injection ho with ho
      subst ho
      refine wp_quiet_here _ (quiet_load 23 (.tmp 6) rfl (g6) rfl 23 _ (0, 0) _ (fun _ h => (Fr.block h _ (Nat.lt_of_lt_of_le (heap_lt X3_3.out) hF.size) (fun x => x)).trans ((hF.block _ (heap_lt X3_3.out) (fun e => Dg6_2 e.symm)).trans X3_3.out)) Try.underlying23 rfl (key_info (HN.out _ (.inr (.inr (.inl rfl))))) rfl) (fun w2 hw2 => ?_)
      refine ⟨hF.trans hw2.any, ?_, ?_⟩
      · have hh := (hw2.block _ (heap_lt hR0) (fun x => x)).trans hR0
        simpa [upd] using hh
      · simp [upd, Act.put]
    | 1, ho =>
      injection ho with ho
      subst ho
      have d0 : b 0 = true := hr 0 (by decide)
      simp only [d0, if_true]
      have k2 := hR0
      rw [hb] at k2
      simp only [Bool.false_eq_true, if_false] at k2
      refine wp_store_row 23 (.tmp 4) (.tmp 14) rfl (w.heap.size + 1 + 1) (vs .u8 R) rfl rfl 23 _ k2 (key_info (HN.out _ (.inr (.inr (.inl rfl))))) (by rw [vs_size, vs_size, HN.out _ (.inr (.inr (.inr rfl))), HN.out _ (.inr (.inr (.inl rfl)))]) (vs_all _ _) ?_
      refine ⟨hF.setRow _ (.inl (by simp)), ?_, ?_⟩
      · refine (setRow_heap _ _ _ _ _ _ hR0).trans ?_
        simp [upd]
      · simp [upd, Act.put, d0]
    | 2, ho =>
      injection ho with ho
      subst ho
      have d0 : b 0 = true := hr 0 (by decide)
      have d1 : b 1 = true := hr 1 (by decide)
      simp only [d0, d1, if_true]
      refine wp_quiet_here (.int .i64 0) ?_ (fun w2 hw2 => ?_)
      · go_big_quiet_op
        first
          | (simp [Act.put]; done)
          | exact ⟨_, fun _ _ => rfl, by simp [Act.put]⟩
      refine ⟨hF.trans hw2.any, ?_, ?_⟩
      · have hh := (hw2.block _ (heap_lt hR0) (fun x => x)).trans hR0
        simpa [upd] using hh
      · simp [upd, Act.put, d0, d1]
    | j + 3, ho => exact absurd ho (by simp)
  intro b a W5 hall hI
  obtain ⟨hF, hR0, rfl⟩ := hI
  have t0 : b 0 = true := hall 0 (by simp)
  have t1 : b 1 = true := hall 1 (by simp)
  have t2 : b 2 = true := hall 2 (by simp)
  simp only [t0, t1, t2, if_true, true_implies] at hR0 ⊢
  have F5 : Hid (Fr (fun i => i = w.heap.size + 1 + 1) w W5) := F3.out.trans hF
  have X5_0 := Lib.hid ((hF.block _ (heap_lt X3_0.out) (by show ¬ _; omega)).trans X3_0.out)
  have X5_1 := Lib.hid ((hF.block _ (heap_lt X3_1.out) (by show ¬ _; omega)).trans X3_1.out)
  have X5_2 := Lib.hid hR0
  have X5_3 := Lib.hid ((hF.block _ (heap_lt X3_3.out) (fun e => Dg6_2 e.symm)).trans X3_3.out)
  clear hall hF hR0 t0 t1 t2 X3_0 X3_1 X3_2 X3_3 F3
  go_wp2
  refine bodyPost_ret (v := .tuple #[.agg (vs .u8 R), .int .i64 0]) (results_row_int Try.results20 _ _ _ 23 _ (0, 0) _ _ rfl X5_2.out Try.underlying23 rfl (key_info (HN.out _ (.inr (.inr (.inl rfl))))) rfl) rfl ⟨?_, F5.out.weaken fun i hi hs => ?_⟩
  · rw [HRR.out]
  · omega

end Go.Proofs.Ytbkbodcncjhcmaa
