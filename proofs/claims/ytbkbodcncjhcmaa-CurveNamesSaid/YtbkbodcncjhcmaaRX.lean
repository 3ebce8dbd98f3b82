/- The reference's X: contract. Condition: 32 bytes each. -/
import Derived.Test.YtbkbodcncjhcmaaRStep
namespace Go.Proofs.Ytbkbodcncjhcmaa
set_option linter.unusedSimpArgs false
set_option linter.unusedVariables false
open Go.RowKit

theorem kb_step (n : List Int) (hn : n.length = 32) (bn : Bys n) (i : Nat) (hi : i < 255) : ∃ b c, n[i / 8]? = some b ∧ 0 ≤ b ∧ b ≤ 255 ∧ b / 2 ^ (i % 8) = c ∧ bits .and .u8 c 1 = kb n i := by
  have gb := getD_some (l := n) (i := i / 8) (by omega)
  have bb := bn _ (List.mem_of_getElem? gb)
  refine ⟨_, _, gb, bb.1, bb.2, rfl, ?_⟩
  have c0 : 0 ≤ n.getD (i / 8) 0 / 2 ^ (i % 8) := Int.ediv_nonneg bb.1 (by have := (Int.pow_pos (n := 2) (m := i % 8) (by decide)); omega)
  have c9 : n.getD (i / 8) 0 / 2 ^ (i % 8) ≤ 255 := by
    have := Int.ediv_le_self (2 ^ (i % 8)) bb.1
    omega
  exact (by_low _ c0 c9).2.2.2.2.2
theorem bt_ne (n : List Int) (j : Nat) (h : bt n (j + 1) ≠ bt n j) (s : St) : swp (bt n j + bt n (j + 1)) s = ⟨s.c, s.d, s.a, s.b⟩ := by
  unfold swp
  have h1 := bt_bit n j
  have h2 := bt_bit n (j + 1)
  rw [if_pos (by omega)]
theorem bt_eq (n : List Int) (j : Nat) (h : bt n (j + 1) = bt n j) (s : St) : swp (bt n j + bt n (j + 1)) s = s := by
  unfold swp
  rw [if_neg (by omega)]

set_option maxRecDepth 100000 in
set_option maxHeartbeats 16000000 in
theorem rx_is (k u : List Int) (w : World) (hk : k.length = 32) (bk : Bys k) (hu : u.length = 32) (bu : Bys u) :
    Calls Try.prog 16 #[.agg (vs .u8 k), .agg (vs .u8 u)] w fun e w' => e = .returned (.agg (vs .u8 (xv k u))) ∧ Fr (fun _ => False) w w' := by
  obtain ⟨n, hn⟩ : ∃ n, n = cl k := ⟨_, rfl⟩
  obtain ⟨x1, hx⟩ : ∃ x, x = fe u := ⟨_, rfl⟩
  have nl : n.length = 32 := by rw [hn, cl_length, hk]
  have bn : Bys n := by rw [hn]; exact cl_bys hk bk
  obtain ⟨y1, hy1⟩ : ∃ y, y = frm u := ⟨_, rfl⟩
  have h1 : NumOf y1 x1 := by rw [hy1, hx]; exact frm_ok u hu bu
  have C0 : ∀ W, Calls Try.prog 14 #[.agg (vs .u8 k)] W fun e w' => e = .returned (.agg (vs .u8 n)) ∧ Fr (fun _ => False) W w' := fun W => by rw [hn]; exact rclamp_is k W hk bk
  have C1 : ∀ W, Calls Try.prog 30 #[.agg (vs .u8 u)] W fun e w' => e = .returned (.agg (vs .i64 y1)) ∧ Fr (fun _ => False) W w' := fun W => by rw [hy1]; exact rfrom_is u W hu bu
  obtain ⟨o1, ho1, C2⟩ := rsmall_ex 1 (by decide) (by decide)
  obtain ⟨Z, hZ⟩ : ∃ Z, Z = List.replicate 16 (0 : Int) := ⟨_, rfl⟩
  obtain ⟨ZZ, hZZ⟩ : ∃ Z, Z = List.replicate 32 (0 : Int) := ⟨_, rfl⟩
  obtain ⟨ZK, hZK⟩ : ∃ Z, Z = List.replicate 32 (0 : Int) := ⟨_, rfl⟩
  have zk : ∀ W : World, (zeroValue 49).run Try.prog W = .ok (.agg (vs .i64 Z)) W := fun W => by rw [hZ]; exact num_zero W
  have zzk : ∀ W : World, (zeroValue 53).run Try.prog W = .ok (.agg (vs .i64 ZZ)) W := fun W => by rw [hZZ]; exact side_zero W
  have zkk : ∀ W : World, (zeroValue 23).run Try.prog W = .ok (.agg (vs .u8 ZK)) W := fun W => by rw [hZK]; exact key_zero W
  have n_Z : Hid (Z.length = 16) := by show _ = _; rw [hZ]; rfl
  have n_ZZ : Hid (ZZ.length = 32) := by show _ = _; rw [hZZ]; rfl
  have k_ZK : Hid (ZK.length = 32) := by show _ = _; rw [hZK]; rfl
  have k_k : Hid (k.length = 32) := hk
  have k_u : Hid (u.length = 32) := hu
  have k_n : Hid (n.length = 32) := nl
  have n_y1 : Hid (y1.length = 16) := h1.len
  have n_o1 : Hid (o1.length = 16) := ho1.len
  have HZ0 : Hid (NumOf Z 0 ∧ Z = List.replicate 16 0) := by
    refine ⟨⟨n_Z.out, ?_, ?_⟩, hZ⟩
    · rw [hZ]; unfold Digs; decide
    · rw [hZ]; decide
  have HH := Lib.hid (And.intro h1 (And.intro ho1 (And.intro bn (And.intro hn hx))))
  clear hk bk hu bu hn hx nl bn hy1 h1 ho1 hZ hZZ hZK
  go_enter Try.func16, Try.ntmps16
  go_upto_region 1 with (fail)
  generalize hW : ((w.alloc (.cells (vs .u8 k) 23)).alloc (.cells (vs .u8 u) 23)).alloc (.cells (vs .u8 ZK) 23) = W0
  have HW := Lib.hid (calm3 hW)
  have X0 := Lib.hid HW.out.1
  have X1 := Lib.hid HW.out.2.1
  have X2 := Lib.hid HW.out.2.2.1
  have F0 : Hid (Fr (fun _ => False) w W0) := HW.out.2.2.2
  clear hW HW
  refine wp_region_seq (fun b a w' => ∃ g5 : Nat, Fr (fun _ => False) W0 w' ∧ (b 2 = true → W0.heap.size ≤ g5 ∧ w'.heap[g5]? = some (.cells (if b 3 = true then vs .u8 n else vs .u8 ZK) 23 (0, 0))) ∧ (b 3 = true → b 2 = true) ∧ a = ⟨#[.agg (vs .u8 k), .agg (vs .u8 u), .pointer (some ⟨w.heap.size, 0, none⟩), .pointer (some ⟨w.heap.size + 1, 0, none⟩), .pointer (some ⟨w.heap.size + 1 + 1, 0, none⟩), if b 2 = true then .pointer (some ⟨g5, 0, none⟩) else undef, undef, undef, undef, undef, undef, undef, if b 0 = true then .agg (vs .u8 k) else undef, if b 1 = true then .agg (vs .u8 n) else undef, undef, undef, undef, undef, undef, undef, undef, undef, undef, undef, undef, undef, undef, undef, undef, undef, undef, undef, undef, undef, undef, undef, undef, undef, undef, undef, undef, undef, undef, undef, undef, undef, undef, undef, undef, undef, undef, undef, undef, undef, undef, undef, undef], []⟩) (by kernel_rfl) ?start1 ?step1 ?done1
  case start1 => exact ⟨0, Fr.refl _ _, by simp, by simp, by simp⟩
  case step1 =>
    intro i o b a w1 ho hI hb hr
    obtain ⟨g5, hF, h2, hq2, rfl⟩ := hI
    match i, ho with
    | 0, ho =>
      injection ho with ho
      subst ho
      refine wp_quiet_here _ (quiet_load 23 (.tmp 2) rfl (w.heap.size) rfl 23 _ (0, 0) _ (fun _ h => (Fr.block h _ (Nat.lt_of_lt_of_le (heap_lt X0.out) hF.size) (fun x => x)).trans ((hF.block _ (heap_lt X0.out) (fun x => x)).trans X0.out)) Try.underlying23 rfl (key_info k_k.out) rfl) (fun w2 hw2 => ?_)
      refine ⟨g5, hF.trans hw2, ?_, ?_, ?_⟩
      · intro hx
        replace hx : b 2 = true := by simpa [upd] using hx
        obtain ⟨k1', k2⟩ := h2 hx
        refine ⟨k1', (hw2.block _ (heap_lt k2) (fun x => x)).trans ?_⟩
        rw [k2]
        simp [upd]
      · simpa [upd] using hq2
      · simp [upd, Act.put]
    | 1, ho =>
      injection ho with ho
      subst ho
      have d0 : b 0 = true := hr 0 (by decide)
      simp only [d0, if_true]
      refine wp_quiet_here (.agg (vs .u8 n)) ?_ (fun w2 hw2 => ?_)
      · go_big_quiet_op
        exact ⟨_, Calm.calls C0, by simp [Act.put]⟩
      refine ⟨g5, hF.trans hw2, ?_, ?_, ?_⟩
      · intro hx
        replace hx : b 2 = true := by simpa [upd] using hx
        obtain ⟨k1', k2⟩ := h2 hx
        refine ⟨k1', (hw2.block _ (heap_lt k2) (fun x => x)).trans ?_⟩
        rw [k2]
        simp [upd]
      · simpa [upd] using hq2
      · simp [upd, Act.put, d0]
    | 2, ho =>
      injection ho with ho
      subst ho
      have d0 : b 0 = true := hr 0 (by decide)
      have d1 : b 1 = true := hr 1 (by decide)
      simp only [d0, d1, if_true]
      refine wp_alloc_any 23 rfl (vs .u8 ZK) zkk ?_
      refine ⟨w1.heap.size, hF.alloc _, ?_, ?_, ?_⟩
      · intro _
        refine ⟨hF.size, (heap_alloc_new w1 _).trans ?_⟩
        have hs : b 3 = false := by
          rcases hbs : b 3 with _ | _
          · rfl
          · rw [hq2 hbs] at hb
            cases hb
        simp [upd, hs]
      · simp [upd]
      · simp [upd, Act.put, d0, d1]
    | 3, ho =>
      injection ho with ho
      subst ho
      have d0 : b 0 = true := hr 0 (by decide)
      have d1 : b 1 = true := hr 1 (by decide)
      have d2 : b 2 = true := hr 2 (by decide)
      simp only [d0, d1, d2, if_true]
      obtain ⟨k1, k2⟩ := h2 d2
      rw [hb] at k2
      simp only [Bool.false_eq_true, if_false] at k2
      refine wp_store_row 23 (.tmp 5) (.tmp 13) rfl g5 (vs .u8 n) rfl rfl 23 _ k2 (key_info k_n.out) (by rw [vs_size, vs_size, k_ZK.out, k_n.out]) (vs_all _ _) ?_
      refine ⟨g5, hF.setRow _ (.inr k1), ?_, ?_, ?_⟩
      · intro _
        refine ⟨k1, (setRow_heap _ _ _ _ _ _ k2).trans ?_⟩
        simp [upd]
      · simp [upd, d2]
      · simp [upd, Act.put, d0, d1, d2]
    | j + 4, ho => exact absurd ho (by simp)
  intro b a W2 hall hI
  obtain ⟨g5, hF, h2, hq2, rfl⟩ := hI
  have t0 : b 0 = true := hall 0 (by simp)
  have t1 : b 1 = true := hall 1 (by simp)
  have t2 : b 2 = true := hall 2 (by simp)
  have t3 : b 3 = true := hall 3 (by simp)
  simp only [t0, t1, t2, t3, if_true, true_implies] at h2 hq2 ⊢
  have F2 : Hid (Fr (fun _ => False) w W2) := F0.out.trans hF
  have X2_0 := Lib.hid ((hF.block _ (heap_lt X1.out) (fun x => x)).trans X1.out)
  have X2_1 := Lib.hid ((hF.block _ (heap_lt X2.out) (fun x => x)).trans X2.out)
  have X2_2 := Lib.hid h2.2
  have Yg5 : w.heap.size ≤ g5 := Nat.le_trans F0.out.size h2.1
  have Dg5_2 : (w.heap.size + 1 + 1) ≠ g5 := by
    have q := heap_lt X2.out
    have q2 := h2.1
    omega
  clear hall hF h2 hq2 t0 t1 t2 t3 F0
  go_upto_region 2 with (fail)
  refine wp_region_seq (fun b a w' => ∃ g6 : Nat, Fr (fun _ => False) W2 w' ∧ (b 2 = true → W2.heap.size ≤ g6 ∧ w'.heap[g6]? = some (.cells (if b 3 = true then vs .i64 y1 else vs .i64 Z) 49 (0, 0))) ∧ (b 3 = true → b 2 = true) ∧ a = ⟨#[.agg (vs .u8 k), .agg (vs .u8 u), .pointer (some ⟨w.heap.size, 0, none⟩), .pointer (some ⟨w.heap.size + 1, 0, none⟩), .pointer (some ⟨w.heap.size + 1 + 1, 0, none⟩), .pointer (some ⟨g5, 0, none⟩), if b 2 = true then .pointer (some ⟨g6, 0, none⟩) else undef, undef, undef, undef, undef, undef, .agg (vs .u8 k), .agg (vs .u8 n), if b 0 = true then .agg (vs .u8 u) else undef, if b 1 = true then .agg (vs .i64 y1) else undef, undef, undef, undef, undef, undef, undef, undef, undef, undef, undef, undef, undef, undef, undef, undef, undef, undef, undef, undef, undef, undef, undef, undef, undef, undef, undef, undef, undef, undef, undef, undef, undef, undef, undef, undef, undef, undef, undef, undef, undef, undef], []⟩) (by kernel_rfl) ?start2 ?step2 ?done2
  case start2 => exact ⟨0, Fr.refl _ _, by simp, by simp, by simp⟩
  case step2 =>
    intro i o b a w1 ho hI hb hr
    obtain ⟨g6, hF, h2, hq2, rfl⟩ := hI
    match i, ho with
    | 0, ho =>
      injection ho with ho
      subst ho
      refine wp_quiet_here _ (quiet_load 23 (.tmp 3) rfl (w.heap.size + 1) rfl 23 _ (0, 0) _ (fun _ h => (Fr.block h _ (Nat.lt_of_lt_of_le (heap_lt X2_0.out) hF.size) (fun x => x)).trans ((hF.block _ (heap_lt X2_0.out) (fun x => x)).trans X2_0.out)) Try.underlying23 rfl (key_info k_u.out) rfl) (fun w2 hw2 => ?_)
      refine ⟨g6, hF.trans hw2, ?_, ?_, ?_⟩
      · intro hx
        replace hx : b 2 = true := by simpa [upd] using hx
        obtain ⟨k1', k2⟩ := h2 hx
        refine ⟨k1', (hw2.block _ (heap_lt k2) (fun x => x)).trans ?_⟩
        rw [k2]
        simp [upd]
      · simpa [upd] using hq2
      · simp [upd, Act.put]
    | 1, ho =>
      injection ho with ho
      subst ho
      have d0 : b 0 = true := hr 0 (by decide)
      simp only [d0, if_true]
      refine wp_quiet_here (.agg (vs .i64 y1)) ?_ (fun w2 hw2 => ?_)
      · go_big_quiet_op
        exact ⟨_, Calm.calls C1, by simp [Act.put]⟩
      refine ⟨g6, hF.trans hw2, ?_, ?_, ?_⟩
      · intro hx
        replace hx : b 2 = true := by simpa [upd] using hx
        obtain ⟨k1', k2⟩ := h2 hx
        refine ⟨k1', (hw2.block _ (heap_lt k2) (fun x => x)).trans ?_⟩
        rw [k2]
        simp [upd]
      · simpa [upd] using hq2
      · simp [upd, Act.put, d0]
    | 2, ho =>
      injection ho with ho
      subst ho
      have d0 : b 0 = true := hr 0 (by decide)
      have d1 : b 1 = true := hr 1 (by decide)
      simp only [d0, d1, if_true]
      refine wp_alloc_any 49 rfl (vs .i64 Z) zk ?_
      refine ⟨w1.heap.size, hF.alloc _, ?_, ?_, ?_⟩
      · intro _
        refine ⟨hF.size, (heap_alloc_new w1 _).trans ?_⟩
        have hs : b 3 = false := by
          rcases hbs : b 3 with _ | _
          · rfl
          · rw [hq2 hbs] at hb
            cases hb
        simp [upd, hs]
      · simp [upd]
      · simp [upd, Act.put, d0, d1]
    | 3, ho =>
      injection ho with ho
      subst ho
      have d0 : b 0 = true := hr 0 (by decide)
      have d1 : b 1 = true := hr 1 (by decide)
      have d2 : b 2 = true := hr 2 (by decide)
      simp only [d0, d1, d2, if_true]
      obtain ⟨k1, k2⟩ := h2 d2
      rw [hb] at k2
      simp only [Bool.false_eq_true, if_false] at k2
      refine wp_store_row 49 (.tmp 6) (.tmp 15) rfl g6 (vs .i64 y1) rfl rfl 49 _ k2 (num_info n_y1.out) (by rw [vs_size, vs_size, n_Z.out, n_y1.out]) (vs_all _ _) ?_
      refine ⟨g6, hF.setRow _ (.inr k1), ?_, ?_, ?_⟩
      · intro _
        refine ⟨k1, (setRow_heap _ _ _ _ _ _ k2).trans ?_⟩
        simp [upd]
      · simp [upd, d2]
      · simp [upd, Act.put, d0, d1, d2]
    | j + 4, ho => exact absurd ho (by simp)
  intro b a W3 hall hI
  obtain ⟨g6, hF, h2, hq2, rfl⟩ := hI
  have t0 : b 0 = true := hall 0 (by simp)
  have t1 : b 1 = true := hall 1 (by simp)
  have t2 : b 2 = true := hall 2 (by simp)
  have t3 : b 3 = true := hall 3 (by simp)
  simp only [t0, t1, t2, t3, if_true, true_implies] at h2 hq2 ⊢
  have F3 : Hid (Fr (fun _ => False) w W3) := F2.out.trans hF
  have X3_0 := Lib.hid ((hF.block _ (heap_lt X2_1.out) (fun x => x)).trans X2_1.out)
  have X3_1 := Lib.hid ((hF.block _ (heap_lt X2_2.out) (fun x => x)).trans X2_2.out)
  have X3_2 := Lib.hid h2.2
  have Yg6 : w.heap.size ≤ g6 := Nat.le_trans F2.out.size h2.1
  have Dg6_2 : (w.heap.size + 1 + 1) ≠ g6 := by
    have q := heap_lt X2_1.out
    have q2 := h2.1
    omega
  have Dg6_g5 : (g5) ≠ g6 := by
    have q := heap_lt X2_2.out
    have q2 := h2.1
    omega
  clear hall hF h2 hq2 t0 t1 t2 t3 X2_0 X2_1 X2_2 F2
  go_upto_region 3 with (fail)
  refine wp_region_inv2 (fun b a w' => ∃ g7 g8 : Nat, Fr (fun _ => False) W3 w' ∧ (b 5 = true → W3.heap.size ≤ g7 ∧ w'.heap[g7]? = some (.cells (if b 7 = true then vs .i64 (o1 ++ Z) else vs .i64 ZZ) 53 (0, 0))) ∧ (b 6 = true → W3.heap.size ≤ g8 ∧ w'.heap[g8]? = some (.cells (if b 8 = true then vs .i64 (y1 ++ o1) else vs .i64 ZZ) 53 (0, 0))) ∧ (b 5 = true → b 6 = true → g7 ≠ g8) ∧ (b 7 = true → b 5 = true) ∧ (b 8 = true → b 6 = true) ∧ a = ⟨#[.agg (vs .u8 k), .agg (vs .u8 u), .pointer (some ⟨w.heap.size, 0, none⟩), .pointer (some ⟨w.heap.size + 1, 0, none⟩), .pointer (some ⟨w.heap.size + 1 + 1, 0, none⟩), .pointer (some ⟨g5, 0, none⟩), .pointer (some ⟨g6, 0, none⟩), if b 5 = true then .pointer (some ⟨g7, 0, none⟩) else undef, if b 6 = true then .pointer (some ⟨g8, 0, none⟩) else undef, undef, undef, undef, .agg (vs .u8 k), .agg (vs .u8 n), .agg (vs .u8 u), .agg (vs .i64 y1), if b 0 = true then .agg (vs .i64 o1) else undef, if b 1 = true then .agg (vs .i64 (o1 ++ Z)) else undef, if b 2 = true then .agg (vs .i64 y1) else undef, if b 3 = true then .agg (vs .i64 o1) else undef, if b 4 = true then .agg (vs .i64 (y1 ++ o1)) else undef, undef, undef, undef, undef, undef, undef, undef, undef, undef, undef, undef, undef, undef, undef, undef, undef, undef, undef, undef, undef, undef, undef, undef, undef, undef, undef, undef, undef, undef, undef, undef, undef, undef, undef, undef, undef], []⟩) (by kernel_rfl) (by kernel_rfl) ?start3 ?step3 ?done3
  case start3 => exact ⟨0, 0, ⟨rfl, rfl, rfl, Nat.le_refl _, fun _ _ _ => rfl⟩, by simp, by simp, by simp, by simp, by simp, by simp⟩
  case step3 =>
    intro i o b a w1 ho hI hb hr hc
    obtain ⟨g7, g8, hF, h5, h6, p5_6, hq5, hq6, rfl⟩ := hI
    match i, ho with
    | 0, ho =>
      injection ho with ho
      subst ho
      refine wp_quiet_here (.agg (vs .i64 o1)) ?_ (fun w2 hw2 => ?_)
      · simp only [Bool.false_eq_true] 
        go_big_quiet_op
        exact ⟨_, Calm.calls C2, by simp [Act.put]⟩
      refine ⟨g7, g8, hF.trans hw2, ?_, ?_, ?_, ?_, ?_, ?_⟩
      · intro hx
        replace hx : b 5 = true := by simpa [upd] using hx
        obtain ⟨k1', k2⟩ := h5 hx
        refine ⟨k1', (hw2.block _ (heap_lt k2) (fun x => x)).trans ?_⟩
        rw [k2]
        simp [upd]
      · intro hx
        replace hx : b 6 = true := by simpa [upd] using hx
        obtain ⟨k1', k2⟩ := h6 hx
        refine ⟨k1', (hw2.block _ (heap_lt k2) (fun x => x)).trans ?_⟩
        rw [k2]
        simp [upd]
      · intro hx hy
        exact p5_6 (by simpa [upd] using hx) (by simpa [upd] using hy)
      · simpa [upd] using hq5
      · simpa [upd] using hq6
      · simp [upd, Act.put]
    | 1, ho =>
      injection ho with ho
      subst ho
      simp [Region.binds] at hr
      have d0 : b 0 = true := by simp only [hr]
      simp only [hr, if_true]
      refine wp_quiet_here (.agg (vs .i64 (o1 ++ Z))) (quiet_build 53 _ rfl #[(0, .agg (vs .i64 o1))] (by rw [List.map_toArray]; rfl) _ (build_side1 n_o1.out HZ0.out.2) rfl) (fun w2 hw2 => ?_)
      refine ⟨g7, g8, hF.trans hw2, ?_, ?_, ?_, ?_, ?_, ?_⟩
      · intro hx
        replace hx : b 5 = true := by simpa [upd] using hx
        obtain ⟨k1', k2⟩ := h5 hx
        refine ⟨k1', (hw2.block _ (heap_lt k2) (fun x => x)).trans ?_⟩
        rw [k2]
        simp [upd]
      · intro hx
        replace hx : b 6 = true := by simpa [upd] using hx
        obtain ⟨k1', k2⟩ := h6 hx
        refine ⟨k1', (hw2.block _ (heap_lt k2) (fun x => x)).trans ?_⟩
        rw [k2]
        simp [upd]
      · intro hx hy
        exact p5_6 (by simpa [upd] using hx) (by simpa [upd] using hy)
      · simpa [upd] using hq5
      · simpa [upd] using hq6
      · simp [upd, Act.put, hr]
    | 2, ho =>
      injection ho with ho
      subst ho
      refine wp_quiet_here _ (quiet_load 49 (.tmp 6) rfl (g6) rfl 49 _ (0, 0) _ (fun _ h => (Fr.block h _ (Nat.lt_of_lt_of_le (heap_lt X3_2.out) hF.size) (fun x => x)).trans ((hF.block _ (heap_lt X3_2.out) (fun x => x)).trans X3_2.out)) Try.underlying49 rfl (num_info n_y1.out) rfl) (fun w2 hw2 => ?_)
      refine ⟨g7, g8, hF.trans hw2, ?_, ?_, ?_, ?_, ?_, ?_⟩
      · intro hx
        replace hx : b 5 = true := by simpa [upd] using hx
        obtain ⟨k1', k2⟩ := h5 hx
        refine ⟨k1', (hw2.block _ (heap_lt k2) (fun x => x)).trans ?_⟩
        rw [k2]
        simp [upd]
      · intro hx
        replace hx : b 6 = true := by simpa [upd] using hx
        obtain ⟨k1', k2⟩ := h6 hx
        refine ⟨k1', (hw2.block _ (heap_lt k2) (fun x => x)).trans ?_⟩
        rw [k2]
        simp [upd]
      · intro hx hy
        exact p5_6 (by simpa [upd] using hx) (by simpa [upd] using hy)
      · simpa [upd] using hq5
      · simpa [upd] using hq6
      · simp [upd, Act.put]
    | 3, ho =>
      injection ho with ho
      subst ho
      refine wp_quiet_here (.agg (vs .i64 o1)) ?_ (fun w2 hw2 => ?_)
      · simp only [Bool.false_eq_true] 
        go_big_quiet_op
        exact ⟨_, Calm.calls C2, by simp [Act.put]⟩
      refine ⟨g7, g8, hF.trans hw2, ?_, ?_, ?_, ?_, ?_, ?_⟩
      · intro hx
        replace hx : b 5 = true := by simpa [upd] using hx
        obtain ⟨k1', k2⟩ := h5 hx
        refine ⟨k1', (hw2.block _ (heap_lt k2) (fun x => x)).trans ?_⟩
        rw [k2]
        simp [upd]
      · intro hx
        replace hx : b 6 = true := by simpa [upd] using hx
        obtain ⟨k1', k2⟩ := h6 hx
        refine ⟨k1', (hw2.block _ (heap_lt k2) (fun x => x)).trans ?_⟩
        rw [k2]
        simp [upd]
      · intro hx hy
        exact p5_6 (by simpa [upd] using hx) (by simpa [upd] using hy)
      · simpa [upd] using hq5
      · simpa [upd] using hq6
      · simp [upd, Act.put]
    | 4, ho =>
      injection ho with ho
      subst ho
      simp [Region.binds] at hr
      have d2 : b 2 = true := by simp only [hr]
      have d3 : b 3 = true := by simp only [hr]
      simp only [hr, if_true]
      refine wp_quiet_here (.agg (vs .i64 (y1 ++ o1))) (quiet_build 53 _ rfl #[(0, .agg (vs .i64 y1)), (1, .agg (vs .i64 o1))] (by rw [List.map_toArray]; rfl) _ (build_side n_y1.out n_o1.out) rfl) (fun w2 hw2 => ?_)
      refine ⟨g7, g8, hF.trans hw2, ?_, ?_, ?_, ?_, ?_, ?_⟩
      · intro hx
        replace hx : b 5 = true := by simpa [upd] using hx
        obtain ⟨k1', k2⟩ := h5 hx
        refine ⟨k1', (hw2.block _ (heap_lt k2) (fun x => x)).trans ?_⟩
        rw [k2]
        simp [upd]
      · intro hx
        replace hx : b 6 = true := by simpa [upd] using hx
        obtain ⟨k1', k2⟩ := h6 hx
        refine ⟨k1', (hw2.block _ (heap_lt k2) (fun x => x)).trans ?_⟩
        rw [k2]
        simp [upd]
      · intro hx hy
        exact p5_6 (by simpa [upd] using hx) (by simpa [upd] using hy)
      · simpa [upd] using hq5
      · simpa [upd] using hq6
      · simp [upd, Act.put, hr]
    | 5, ho =>
      injection ho with ho
      subst ho
      refine wp_alloc_any 53 rfl (vs .i64 ZZ) zzk ?_
      refine ⟨w1.heap.size, g8, hF.alloc _, ?_, ?_, ?_, ?_, ?_, ?_⟩
      · intro _
        refine ⟨hF.size, (heap_alloc_new w1 _).trans ?_⟩
        have hs : b 7 = false := by
          rcases hbs : b 7 with _ | _
          · rfl
          · rw [hq5 hbs] at hb
            cases hb
        simp [upd, hs]
      · intro hx
        replace hx : b 6 = true := by simpa [upd] using hx
        obtain ⟨k1', k2⟩ := h6 hx
        refine ⟨k1', (Below.heap_alloc w1 _ _ (heap_lt k2)).trans ?_⟩
        rw [k2]
        simp [upd]
      · intro _ hy
        have := heap_lt (h6 (by simpa [upd] using hy)).2
        omega
      · simp [upd]
      · simpa [upd] using hq6
      · simp [upd, Act.put]
    | 6, ho =>
      injection ho with ho
      subst ho
      refine wp_alloc_any 53 rfl (vs .i64 ZZ) zzk ?_
      refine ⟨g7, w1.heap.size, hF.alloc _, ?_, ?_, ?_, ?_, ?_, ?_⟩
      · intro hx
        replace hx : b 5 = true := by simpa [upd] using hx
        obtain ⟨k1', k2⟩ := h5 hx
        refine ⟨k1', (Below.heap_alloc w1 _ _ (heap_lt k2)).trans ?_⟩
        rw [k2]
        simp [upd]
      · intro _
        refine ⟨hF.size, (heap_alloc_new w1 _).trans ?_⟩
        have hs : b 8 = false := by
          rcases hbs : b 8 with _ | _
          · rfl
          · rw [hq6 hbs] at hb
            cases hb
        simp [upd, hs]
      · intro hx _
        have := heap_lt (h5 (by simpa [upd] using hx)).2
        omega
      · simpa [upd] using hq5
      · simp [upd]
      · simp [upd, Act.put]
    | 7, ho =>
      injection ho with ho
      subst ho
      simp [Region.binds] at hr
      have d1 : b 1 = true := by simp only [hr]
      have d5 : b 5 = true := by simp only [hr]
      simp only [hr, if_true]
      obtain ⟨k1, k2⟩ := h5 d5
      rw [hb] at k2
      simp only [Bool.false_eq_true, if_false] at k2
      refine wp_store_row 53 (.tmp 7) (.tmp 17) rfl g7 (vs .i64 (o1 ++ Z)) rfl rfl 53 _ k2 (side_info (len32 n_o1.out n_Z.out)) (by rw [vs_size, vs_size, n_ZZ.out, (len32 n_o1.out n_Z.out)]) (vs_all _ _) ?_
      refine ⟨g7, g8, hF.setRow _ (.inr k1), ?_, ?_, ?_, ?_, ?_, ?_⟩
      · intro _
        refine ⟨k1, (setRow_heap _ _ _ _ _ _ k2).trans ?_⟩
        simp [upd]
      · intro hx
        replace hx : b 6 = true := by simpa [upd] using hx
        obtain ⟨k1', k2⟩ := h6 hx
        refine ⟨k1', (setRow_other _ _ _ _ (fun e => (p5_6 (by simp [d1, d5, hx]) (by simp [d1, d5, hx])) e.symm)).trans ?_⟩
        rw [k2]
        simp [upd]
      · intro hx hy
        exact p5_6 (by simpa [upd] using hx) (by simpa [upd] using hy)
      · simp [upd, d5]
      · simpa [upd] using hq6
      · simp [upd, Act.put, hr]
    | 8, ho =>
      injection ho with ho
      subst ho
      simp [Region.binds] at hr
      have d4 : b 4 = true := by simp only [hr]
      have d6 : b 6 = true := by simp only [hr]
      simp only [hr, if_true]
      obtain ⟨k1, k2⟩ := h6 d6
      rw [hb] at k2
      simp only [Bool.false_eq_true, if_false] at k2
      refine wp_store_row 53 (.tmp 8) (.tmp 20) rfl g8 (vs .i64 (y1 ++ o1)) rfl rfl 53 _ k2 (side_info (len32 n_y1.out n_o1.out)) (by rw [vs_size, vs_size, n_ZZ.out, (len32 n_y1.out n_o1.out)]) (vs_all _ _) ?_
      refine ⟨g7, g8, hF.setRow _ (.inr k1), ?_, ?_, ?_, ?_, ?_, ?_⟩
      · intro hx
        replace hx : b 5 = true := by simpa [upd] using hx
        obtain ⟨k1', k2⟩ := h5 hx
        refine ⟨k1', (setRow_other _ _ _ _ (fun e => (p5_6 (by simp [d4, d6, hx]) (by simp [d4, d6, hx])) e)).trans ?_⟩
        rw [k2]
        simp [upd]
      · intro _
        refine ⟨k1, (setRow_heap _ _ _ _ _ _ k2).trans ?_⟩
        simp [upd]
      · intro hx hy
        exact p5_6 (by simpa [upd] using hx) (by simpa [upd] using hy)
      · simpa [upd] using hq5
      · simp [upd, d6]
      · simp [upd, Act.put, hr]
    | j + 9, ho => exact absurd ho (by simp)
  intro b a W4 hall hI
  obtain ⟨g7, g8, hF, h5, h6, p5_6, hq5, hq6, rfl⟩ := hI
  have t0 : b 0 = true := hall 0 (by simp)
  have t1 : b 1 = true := hall 1 (by simp)
  have t2 : b 2 = true := hall 2 (by simp)
  have t3 : b 3 = true := hall 3 (by simp)
  have t4 : b 4 = true := hall 4 (by simp)
  have t5 : b 5 = true := hall 5 (by simp)
  have t6 : b 6 = true := hall 6 (by simp)
  have t7 : b 7 = true := hall 7 (by simp)
  have t8 : b 8 = true := hall 8 (by simp)
  simp only [t0, t1, t2, t3, t4, t5, t6, t7, t8, if_true, true_implies] at h5 h6 p5_6 hq5 hq6 ⊢
  have F4 : Hid (Fr (fun _ => False) w W4) := F3.out.trans hF
  have X4_0 := Lib.hid ((hF.block _ (heap_lt X3_0.out) (fun x => x)).trans X3_0.out)
  have X4_1 := Lib.hid ((hF.block _ (heap_lt X3_1.out) (fun x => x)).trans X3_1.out)
  have X4_2 := Lib.hid ((hF.block _ (heap_lt X3_2.out) (fun x => x)).trans X3_2.out)
  have X4_3 := Lib.hid h5.2
  have Yg7 : w.heap.size ≤ g7 := Nat.le_trans F3.out.size h5.1
  have Dg7_2 : (w.heap.size + 1 + 1) ≠ g7 := by
    have q := heap_lt X3_0.out
    have q2 := h5.1
    omega
  have Dg7_g5 : (g5) ≠ g7 := by
    have q := heap_lt X3_1.out
    have q2 := h5.1
    omega
  have Dg7_g6 : (g6) ≠ g7 := by
    have q := heap_lt X3_2.out
    have q2 := h5.1
    omega
  have X4_4 := Lib.hid h6.2
  have Yg8 : w.heap.size ≤ g8 := Nat.le_trans F3.out.size h6.1
  have Dg8_2 : (w.heap.size + 1 + 1) ≠ g8 := by
    have q := heap_lt X3_0.out
    have q2 := h6.1
    omega
  have Dg8_g5 : (g5) ≠ g8 := by
    have q := heap_lt X3_1.out
    have q2 := h6.1
    omega
  have Dg8_g6 : (g6) ≠ g8 := by
    have q := heap_lt X3_2.out
    have q2 := h6.1
    omega
  have Ng7g8 : g7 ≠ g8 := p5_6
  clear hall hF h5 h6 p5_6 hq5 hq6 t0 t1 t2 t3 t4 t5 t6 t7 t8 X3_0 X3_1 X3_2 F3
  have hA : Hid (W4.heap[g7]? = some (.cells (vs .i64 (o1 ++ Z)) 53 (0, 0))) := X4_3.out
  have hB : Hid (W4.heap[g8]? = some (.cells (vs .i64 (y1 ++ o1)) 53 (0, 0))) := X4_4.out
  have hN : Hid (Ar W4 g5 23 .u8 n) := X4_1.out
  have hY : Hid (W4.heap[g6]? = some (.cells (vs .i64 y1) 49 (0, 0))) := X4_2.out
  have hO : Hid (W4.heap[w.heap.size + 1 + 1]? = some (.cells (vs .u8 ZK) 23 (0, 0))) := X4_0.out
  have HD := Lib.hid (And.intro Dg7_2 (And.intro Dg8_2 (And.intro Dg7_g5 (And.intro Dg8_g5 (And.intro Dg7_g6 (And.intro Dg8_g6 Ng7g8))))))
  have HQ := Lib.hid (And.intro Yg7 Yg8)
  clear X4_0 X4_1 X4_2 X4_3 X4_4 Dg7_2 Dg8_2 Dg7_g5 Dg8_g5 Dg7_g6 Dg8_g6 Ng7g8 Dg5_2 Dg6_2 Dg6_g5 Yg5 Yg6 Yg7 Yg8 C0 C1 C2 zk zzk zkk
  go_upto_region 6 with (fail)
  go_loopw [9, 10, 11] (fun u9 u10 u11 wr => ∃ (j : Nat) (x : Int) (ya yb yc yd : List Int), u10 = .int .i64 x ∧ Hid (x = 254 - (j : Int)) ∧ j ≤ 255 ∧ u9 = .int .u8 (bt n j) ∧
      Hid (NumOf ya (ld n x1 j).a ∧ NumOf yb (ld n x1 j).b ∧ NumOf yc (ld n x1 j).c ∧ NumOf yd (ld n x1 j).d) ∧
      Hid (wr.heap[g7]? = some (.cells (vs .i64 (ya ++ yb)) 53 (0, 0))) ∧ Hid (wr.heap[g8]? = some (.cells (vs .i64 (yc ++ yd)) 53 (0, 0))) ∧ Hid (Fr (fun k => k = g7 ∨ k = g8) W4 wr))
    (fun _ u10 _ _ => (intOf u10 + 1).toNat)
  case atStart => exact ⟨0, 254, o1, Z, y1, o1, rfl, rfl, by omega, rfl, ⟨HH.out.2.1, HZ0.out.1, HH.out.1, HH.out.2.1⟩, hA.out, hB.out, Fr.refl _ _⟩
  case round =>
    obtain ⟨j, x, ya, yb, yc, yd, rfl, hx, hj, rfl, hV, hX, hW, hF⟩ := hrel
    have iN : Hid (Ar wr g5 23 .u8 n) := (hF.out.block _ (heap_lt hN.out) (by have := HD.out; omega)).trans hN.out
    have iY : Hid (wr.heap[g6]? = some (.cells (vs .i64 y1) 49 (0, 0))) := (hF.out.block _ (heap_lt hY.out) (by have := HD.out; omega)).trans hY.out
    have n_ya : Hid (ya.length = 16) := hV.out.1.len
    have n_yb : Hid (yb.length = 16) := hV.out.2.1.len
    have n_yc : Hid (yc.length = 16) := hV.out.2.2.1.len
    have n_yd : Hid (yd.length = 16) := hV.out.2.2.2.len
    by_cases hlt : j < 255
    · obtain ⟨i, hi⟩ : ∃ i : Nat, i = 254 - j := ⟨_, rfl⟩
      obtain rfl : x = (i : Int) := by have := hx.out; omega
      obtain ⟨b, c, hb, b0, b9, hc, hbit⟩ := kb_step n k_n.out HH.out.2.2.1 i (by omega)
      have cb := iN.out.cell hb
      obtain ⟨m, hm⟩ : ∃ m : Nat, i % 8 = m := ⟨_, rfl⟩
      obtain ⟨d, hd⟩ : ∃ d : Nat, i / 8 = d := ⟨_, rfl⟩
      rw [hm] at hc
      rw [hd] at cb
      have t1 : ((i : Int) / 8) = d := by omega
      have t2 : ((i : Int) % 8) = m := by omega
      have d9 : (d : Int) < 32 := by omega
      have m9 : m < 8 := by omega
      have wi : IntKind.i64.wrap ((i : Int) - 1) = (i : Int) - 1 := by rw [IntKind.wrap_i64]; omega
      obtain ⟨B, hB⟩ : ∃ B, B = bt n j := ⟨_, rfl⟩
      obtain ⟨B', hB'⟩ : ∃ B', B' = bt n (j + 1) := ⟨_, rfl⟩
      have hbit : bits .and .u8 c 1 = B' := by
        rw [hbit, hB', hi]
        rfl
      have HB := Lib.hid (And.intro hB hB')
      have HI := Lib.hid hi
      rw [← hB]
      by_cases hne : B' = B
      · have hq : (B' != B) = false := by simp [hne]
        obtain ⟨za, zb, zc, zd, ha, hb2, hc2, hd2, CS⟩ := rstep_ex hV.out.1 hV.out.2.1 hV.out.2.2.1 hV.out.2.2.2 HH.out.1
        have HN : Hid (NumOf za (ld n x1 (j + 1)).a ∧ NumOf zb (ld n x1 (j + 1)).b ∧ NumOf zc (ld n x1 (j + 1)).c ∧ NumOf zd (ld n x1 (j + 1)).d) := by
          have e : ld n x1 (j + 1) = stp x1 (ld n x1 j) := by
            show stp x1 (swp _ _) = _
            rw [bt_eq n j (by rw [← hB, ← hB', hne])]
          rw [e]
          exact ⟨ha, hb2, hc2, hd2⟩
        obtain rfl := hne
        clear hb hm hd hi hB hB' ha hb2 hc2 hd2
        go_upto_region 12 with (fail)
        go_wp2_with (first
          | refine wpList_load_row rfl 53 (.tmp 7) rfl g7 rfl 53 (vs .i64 (ya ++ yb)) (0, 0) _ hX.out Try.underlying53 rfl (side_info (len32 n_ya.out n_yb.out)) ?_
          | refine wpList_load_row rfl 53 (.tmp 8) rfl g8 rfl 53 (vs .i64 (yc ++ yd)) (0, 0) _ hW.out Try.underlying53 rfl (side_info (len32 n_yc.out n_yd.out)) ?_
          | refine wpList_load_row rfl 49 (.tmp 6) rfl g6 rfl 49 (vs .i64 y1) (0, 0) _ iY.out Try.underlying49 rfl (num_info n_y1.out) ?_)
        refine (CS _).mono ?_
        rintro e v3 ⟨rfl, hf⟩
        have A3 : Hid (v3.heap[g7]? = some (.cells (vs .i64 (ya ++ yb)) 53 (0, 0))) := (hf.block _ (heap_lt hX.out) (fun x => x)).trans hX.out
        have B3 : Hid (v3.heap[g8]? = some (.cells (vs .i64 (yc ++ yd)) 53 (0, 0))) := (hf.block _ (heap_lt hW.out) (fun x => x)).trans hW.out
        have F3 : Hid (Fr (fun k => k = g7 ∨ k = g8) W4 v3) := hF.out.trans hf.any
        have n_za : Hid (za.length = 16) := HN.out.1.len
        have n_zb : Hid (zb.length = 16) := HN.out.2.1.len
        have n_zc : Hid (zc.length = 16) := HN.out.2.2.1.len
        have n_zd : Hid (zd.length = 16) := HN.out.2.2.2.len
        clear hf CS
        go_wp2_with (first
          | (refine wpList_store_row rfl 53 (.tmp 7) (.tmp 44) rfl g7 (vs .i64 (za ++ zb)) rfl rfl 53 _ A3.out (side_info (len32 n_za.out n_zb.out)) (by rw [vs_size, vs_size, len32 n_za.out n_zb.out, len32 n_ya.out n_yb.out]) (vs_all _ _) ?_
             have A4 : Hid ((v3.setRow g7 (vs .i64 (za ++ zb))).heap[g7]? = some (.cells (vs .i64 (za ++ zb)) 53 (0, 0))) := setRow_heap _ _ _ _ _ _ A3.out
             have B4 : Hid ((v3.setRow g7 (vs .i64 (za ++ zb))).heap[g8]? = some (.cells (vs .i64 (yc ++ yd)) 53 (0, 0))) := (setRow_other _ _ _ _ (fun e => HD.out.2.2.2.2.2.2 e.symm)).trans B3.out
             have F4 : Hid (Fr (fun k => k = g7 ∨ k = g8) W4 (v3.setRow g7 (vs .i64 (za ++ zb)))) := F3.out.setRow _ (.inl (.inl rfl))
             generalize v3.setRow g7 (vs .i64 (za ++ zb)) = v4 at *
             clear A3 B3 F3)
          | (refine wpList_store_row rfl 53 (.tmp 8) (.tmp 45) rfl g8 (vs .i64 (zc ++ zd)) rfl rfl 53 _ B4.out (side_info (len32 n_zc.out n_zd.out)) (by rw [vs_size, vs_size, len32 n_zc.out n_zd.out, len32 n_yc.out n_yd.out]) (vs_all _ _) ?_
             have A5 : Hid ((v4.setRow g8 (vs .i64 (zc ++ zd))).heap[g7]? = some (.cells (vs .i64 (za ++ zb)) 53 (0, 0))) := (setRow_other _ _ _ _ HD.out.2.2.2.2.2.2).trans A4.out
             have B5 : Hid ((v4.setRow g8 (vs .i64 (zc ++ zd))).heap[g8]? = some (.cells (vs .i64 (zc ++ zd)) 53 (0, 0))) := setRow_heap _ _ _ _ _ _ B4.out
             have F5 : Hid (Fr (fun k => k = g7 ∨ k = g8) W4 (v4.setRow g8 (vs .i64 (zc ++ zd)))) := F4.out.setRow _ (.inl (.inr rfl))
             generalize v4.setRow g8 (vs .i64 (zc ++ zd)) = v5 at *
             clear A4 B4 F4))
        go_roundw
        case rel => exact ⟨j + 1, _, za, zb, zc, zd, rfl, by show _ = _; have := hx.out; omega, by omega, by first | rw [HB.out.2] | (rw [HI.out]; rfl), HN, A5, B5, F5⟩
        case measure => simp [intOf]

      · have hq : (B' != B) = true := by simp [hne]
        obtain ⟨za, zb, zc, zd, ha, hb2, hc2, hd2, CS⟩ := rstep_ex (s := ⟨(ld n x1 j).c, (ld n x1 j).d, (ld n x1 j).a, (ld n x1 j).b⟩) hV.out.2.2.1 hV.out.2.2.2 hV.out.1 hV.out.2.1 HH.out.1
        have HN : Hid (NumOf za (ld n x1 (j + 1)).a ∧ NumOf zb (ld n x1 (j + 1)).b ∧ NumOf zc (ld n x1 (j + 1)).c ∧ NumOf zd (ld n x1 (j + 1)).d) := by
          have e : ld n x1 (j + 1) = stp x1 ⟨(ld n x1 j).c, (ld n x1 j).d, (ld n x1 j).a, (ld n x1 j).b⟩ := by
            show stp x1 (swp _ _) = _
            rw [bt_ne n j (by rw [← hB, ← hB']; exact hne)]
          rw [e]
          exact ⟨ha, hb2, hc2, hd2⟩
        clear hb hm hd hi hB hB' ha hb2 hc2 hd2 hne
        go_upto_region 12 with (first
          | refine wpList_load_row rfl 53 (.tmp 8) rfl g8 rfl 53 (vs .i64 (yc ++ yd)) (0, 0) _ hW.out Try.underlying53 rfl (side_info (len32 n_yc.out n_yd.out)) ?_
          | refine wpList_load_row rfl 53 (.tmp 7) rfl g7 rfl 53 (vs .i64 (ya ++ yb)) (0, 0) _ hX.out Try.underlying53 rfl (side_info (len32 n_ya.out n_yb.out)) ?_
          | (refine wpList_store_row rfl 53 (.tmp 7) (.tmp 36) rfl g7 (vs .i64 (yc ++ yd)) rfl rfl 53 _ hX.out (side_info (len32 n_yc.out n_yd.out)) (by rw [vs_size, vs_size, len32 n_yc.out n_yd.out, len32 n_ya.out n_yb.out]) (vs_all _ _) ?_
             have Y1 : Hid ((wr.setRow g7 (vs .i64 (yc ++ yd))).heap[g7]? = some (.cells (vs .i64 (yc ++ yd)) 53 (0, 0))) := setRow_heap _ _ _ _ _ _ hX.out
             have Z1 : Hid ((wr.setRow g7 (vs .i64 (yc ++ yd))).heap[g8]? = some (.cells (vs .i64 (yc ++ yd)) 53 (0, 0))) := (setRow_other _ _ _ _ (fun e => HD.out.2.2.2.2.2.2 e.symm)).trans hW.out
             have I1 : Hid ((wr.setRow g7 (vs .i64 (yc ++ yd))).heap[g6]? = some (.cells (vs .i64 y1) 49 (0, 0))) := (setRow_other _ _ _ _ HD.out.2.2.2.2.1).trans iY.out
             have G1 : Hid (Fr (fun k => k = g7 ∨ k = g8) W4 (wr.setRow g7 (vs .i64 (yc ++ yd)))) := hF.out.setRow _ (.inl (.inl rfl))
             generalize wr.setRow g7 (vs .i64 (yc ++ yd)) = u1 at *)
          | (refine wpList_store_row rfl 53 (.tmp 8) (.tmp 37) rfl g8 (vs .i64 (ya ++ yb)) rfl rfl 53 _ Z1.out (side_info (len32 n_ya.out n_yb.out)) (by rw [vs_size, vs_size, len32 n_ya.out n_yb.out, len32 n_yc.out n_yd.out]) (vs_all _ _) ?_
             have Y2 : Hid ((u1.setRow g8 (vs .i64 (ya ++ yb))).heap[g7]? = some (.cells (vs .i64 (yc ++ yd)) 53 (0, 0))) := (setRow_other _ _ _ _ HD.out.2.2.2.2.2.2).trans Y1.out
             have Z2 : Hid ((u1.setRow g8 (vs .i64 (ya ++ yb))).heap[g8]? = some (.cells (vs .i64 (ya ++ yb)) 53 (0, 0))) := setRow_heap _ _ _ _ _ _ Z1.out
             have I2 : Hid ((u1.setRow g8 (vs .i64 (ya ++ yb))).heap[g6]? = some (.cells (vs .i64 y1) 49 (0, 0))) := (setRow_other _ _ _ _ HD.out.2.2.2.2.2.1).trans I1.out
             have G2 : Hid (Fr (fun k => k = g7 ∨ k = g8) W4 (u1.setRow g8 (vs .i64 (ya ++ yb)))) := G1.out.setRow _ (.inl (.inr rfl))
             generalize u1.setRow g8 (vs .i64 (ya ++ yb)) = u2 at *
             clear Y1 Z1 I1 G1))
        go_wp2_with (first
          | refine wpList_load_row rfl 53 (.tmp 7) rfl g7 rfl 53 (vs .i64 (yc ++ yd)) (0, 0) _ Y2.out Try.underlying53 rfl (side_info (len32 n_yc.out n_yd.out)) ?_
          | refine wpList_load_row rfl 53 (.tmp 8) rfl g8 rfl 53 (vs .i64 (ya ++ yb)) (0, 0) _ Z2.out Try.underlying53 rfl (side_info (len32 n_ya.out n_yb.out)) ?_
          | refine wpList_load_row rfl 49 (.tmp 6) rfl g6 rfl 49 (vs .i64 y1) (0, 0) _ I2.out Try.underlying49 rfl (num_info n_y1.out) ?_)
        refine (CS _).mono ?_
        rintro e v3 ⟨rfl, hf⟩
        have A3 : Hid (v3.heap[g7]? = some (.cells (vs .i64 (yc ++ yd)) 53 (0, 0))) := (hf.block _ (heap_lt Y2.out) (fun x => x)).trans Y2.out
        have B3 : Hid (v3.heap[g8]? = some (.cells (vs .i64 (ya ++ yb)) 53 (0, 0))) := (hf.block _ (heap_lt Z2.out) (fun x => x)).trans Z2.out
        have F3 : Hid (Fr (fun k => k = g7 ∨ k = g8) W4 v3) := G2.out.trans hf.any
        have n_za : Hid (za.length = 16) := HN.out.1.len
        have n_zb : Hid (zb.length = 16) := HN.out.2.1.len
        have n_zc : Hid (zc.length = 16) := HN.out.2.2.1.len
        have n_zd : Hid (zd.length = 16) := HN.out.2.2.2.len
        clear hf CS
        go_wp2_with (first
          | (refine wpList_store_row rfl 53 (.tmp 7) (.tmp 44) rfl g7 (vs .i64 (za ++ zb)) rfl rfl 53 _ A3.out (side_info (len32 n_za.out n_zb.out)) (by rw [vs_size, vs_size, len32 n_za.out n_zb.out, len32 n_yc.out n_yd.out]) (vs_all _ _) ?_
             have A4 : Hid ((v3.setRow g7 (vs .i64 (za ++ zb))).heap[g7]? = some (.cells (vs .i64 (za ++ zb)) 53 (0, 0))) := setRow_heap _ _ _ _ _ _ A3.out
             have B4 : Hid ((v3.setRow g7 (vs .i64 (za ++ zb))).heap[g8]? = some (.cells (vs .i64 (ya ++ yb)) 53 (0, 0))) := (setRow_other _ _ _ _ (fun e => HD.out.2.2.2.2.2.2 e.symm)).trans B3.out
             have F4 : Hid (Fr (fun k => k = g7 ∨ k = g8) W4 (v3.setRow g7 (vs .i64 (za ++ zb)))) := F3.out.setRow _ (.inl (.inl rfl))
             generalize v3.setRow g7 (vs .i64 (za ++ zb)) = v4 at *
             clear A3 B3 F3)
          | (refine wpList_store_row rfl 53 (.tmp 8) (.tmp 45) rfl g8 (vs .i64 (zc ++ zd)) rfl rfl 53 _ B4.out (side_info (len32 n_zc.out n_zd.out)) (by rw [vs_size, vs_size, len32 n_zc.out n_zd.out, len32 n_ya.out n_yb.out]) (vs_all _ _) ?_
             have A5 : Hid ((v4.setRow g8 (vs .i64 (zc ++ zd))).heap[g7]? = some (.cells (vs .i64 (za ++ zb)) 53 (0, 0))) := (setRow_other _ _ _ _ HD.out.2.2.2.2.2.2).trans A4.out
             have B5 : Hid ((v4.setRow g8 (vs .i64 (zc ++ zd))).heap[g8]? = some (.cells (vs .i64 (zc ++ zd)) 53 (0, 0))) := setRow_heap _ _ _ _ _ _ B4.out
             have F5 : Hid (Fr (fun k => k = g7 ∨ k = g8) W4 (v4.setRow g8 (vs .i64 (zc ++ zd)))) := F4.out.setRow _ (.inl (.inr rfl))
             generalize v4.setRow g8 (vs .i64 (zc ++ zd)) = v5 at *
             clear A4 B4 F4))
        go_roundw
        case rel => exact ⟨j + 1, _, za, zb, zc, zd, rfl, by show _ = _; have := hx.out; omega, by omega, by first | rw [HB.out.2] | (rw [HI.out]; rfl), HN, A5, B5, F5⟩
        case measure => simp [intOf]

    · obtain rfl : j = 255 := by omega
      obtain rfl : x = -1 := by have := hx.out; omega
      rcases bt_bit n 255 with hb | hb
      · rw [hb]
        go_upto_region 15 with (fail)
        have iO : Hid (wr.heap[w.heap.size + 1 + 1]? = some (.cells (vs .u8 ZK) 23 (0, 0))) := (hF.out.block _ (heap_lt hO.out) (by have := HD.out; omega)).trans hO.out
        have FF : Hid (Fr (fun i => i = w.heap.size + 1 + 1) w wr) := (F4.out.trans' hF.out (fun i hi h => by have := HQ.out; omega)).any
        obtain ⟨ri, hri, CI⟩ := rinv_ex hV.out.2.1
        obtain ⟨rm, hrm, CM⟩ := rmul_ex hV.out.1 hri
        obtain ⟨R, hR⟩ : ∃ R, R = lb 32 (Fm (ld n x1 255).a (vi (ld n x1 255).b)) := ⟨_, rfl⟩
        have CB : ∀ W, Calls Try.prog 33 #[.agg (vs .i64 rm)] W fun e w' => e = .returned (.agg (vs .u8 R)) ∧ Fr (fun _ => False) W w' := fun W => by rw [hR]; exact rbytes_is rm _ W hrm
        have k_R : Hid (R.length = 32) := by show _ = _; rw [hR, lb_length]
        have HR : Hid (R = xv k u) := by
          show _ = _
          rw [hR]
          unfold xv xe lad
          rw [← HH.out.2.2.2.1, ← HH.out.2.2.2.2, hb]
          rfl
        clear hri hrm hR hb
        refine wp_region_inv2 (fun b a w' => Fr (fun i => i = w.heap.size + 1 + 1) wr w' ∧ w'.heap[w.heap.size + 1 + 1]? = some (.cells (if b 7 = true then vs .u8 R else vs .u8 ZK) 23 (0, 0)) ∧ a = ⟨#[.agg (vs .u8 k), .agg (vs .u8 u), .pointer (some ⟨w.heap.size, 0, none⟩), .pointer (some ⟨w.heap.size + 1, 0, none⟩), .pointer (some ⟨w.heap.size + 1 + 1, 0, none⟩), .pointer (some ⟨g5, 0, none⟩), .pointer (some ⟨g6, 0, none⟩), .pointer (some ⟨g7, 0, none⟩), .pointer (some ⟨g8, 0, none⟩), .int .u8 0, .int .i64 (-1), u11, .agg (vs .u8 k), .agg (vs .u8 n), .agg (vs .u8 u), .agg (vs .i64 y1), .agg (vs .i64 o1), .agg (vs .i64 (o1 ++ Z)), .agg (vs .i64 y1), .agg (vs .i64 o1), .agg (vs .i64 (y1 ++ o1)), .int .i64 (-1), .bool false, u23, u24, u25, u26, u27, u28, u29, u30, u31, u32, u33, u34, u35, u36, u37, u38, u39, u40, u41, u42, u43, u44, u45, .int .u8 0, .bool false, undef, undef, if b 0 = true then .pointer (some ⟨g7, 0, none⟩) else undef, if b 1 = true then .agg (vs .i64 ya) else undef, if b 2 = true then .pointer (some ⟨g7, 16, none⟩) else undef, if b 3 = true then .agg (vs .i64 yb) else undef, if b 4 = true then .agg (vs .i64 ri) else undef, if b 5 = true then .agg (vs .i64 rm) else undef, if b 6 = true then .agg (vs .u8 R) else undef], []⟩) (by kernel_rfl) (by kernel_rfl) ?start15 ?step15 ?done15
        case start15 => exact ⟨⟨rfl, rfl, rfl, Nat.le_refl _, fun _ _ _ => rfl⟩, by simp only [Bool.false_eq_true, if_false]; exact iO.out, by simp⟩
        case step15 =>
          intro i o b a w1 ho hI hb hr hc
          obtain ⟨hF, hR0, rfl⟩ := hI
          match i, ho with
          | 0, ho =>
            injection ho with ho
            subst ho
            refine wp_quiet_here (.pointer (some ⟨g7, 0, none⟩)) ?_ (fun w2 hw2 => ?_)
            · simp only [Bool.false_eq_true] 
              go_big_quiet_op
              first
                | (simp [Act.put]; done)
                | exact ⟨_, fun _ _ => rfl, by simp [Act.put]⟩
            refine ⟨hF.trans hw2.any, ?_, ?_⟩
            · have hh := (hw2.block _ (heap_lt hR0) (fun x => x)).trans hR0
              simpa [upd] using hh
            · simp [upd, Act.put]
          | 1, ho =>
            injection ho with ho
            subst ho
            simp [Region.binds] at hr
            have d0 : b 0 = true := by simp only [hr]
            simp only [hr, if_true]
            refine wp_quiet_here _ (quiet_num (.tmp 50) rfl (g7) 0 rfl ya n_ya.out (fun _ h => side_r0 n_ya.out ((Fr.block h _ (Nat.lt_of_lt_of_le (heap_lt hX.out) hF.size) (fun x => x)).trans ((hF.block _ (heap_lt hX.out) (fun e => HD.out.1 e.symm)).trans hX.out))) rfl) (fun w2 hw2 => ?_)
            refine ⟨hF.trans hw2.any, ?_, ?_⟩
            · have hh := (hw2.block _ (heap_lt hR0) (fun x => x)).trans hR0
              simpa [upd] using hh
            · simp [upd, Act.put, hr]
          | 2, ho =>
            injection ho with ho
            subst ho
            refine wp_quiet_here (.pointer (some ⟨g7, 16, none⟩)) ?_ (fun w2 hw2 => ?_)
            · simp only [Bool.false_eq_true] 
              go_big_quiet_op
              first
                | (simp [Act.put]; done)
                | exact ⟨_, fun _ _ => rfl, by simp [Act.put]⟩
            refine ⟨hF.trans hw2.any, ?_, ?_⟩
            · have hh := (hw2.block _ (heap_lt hR0) (fun x => x)).trans hR0
              simpa [upd] using hh
            · simp [upd, Act.put]
          | 3, ho =>
            injection ho with ho
            subst ho
            simp [Region.binds] at hr
            have d2 : b 2 = true := by simp only [hr]
            simp only [hr, if_true]
            refine wp_quiet_here _ (quiet_num (.tmp 52) rfl (g7) 16 rfl yb n_yb.out (fun _ h => side_r1 n_ya.out ((Fr.block h _ (Nat.lt_of_lt_of_le (heap_lt hX.out) hF.size) (fun x => x)).trans ((hF.block _ (heap_lt hX.out) (fun e => HD.out.1 e.symm)).trans hX.out))) rfl) (fun w2 hw2 => ?_)
            refine ⟨hF.trans hw2.any, ?_, ?_⟩
            · have hh := (hw2.block _ (heap_lt hR0) (fun x => x)).trans hR0
              simpa [upd] using hh
            · simp [upd, Act.put, hr]
          | 4, ho =>
            injection ho with ho
            subst ho
            simp [Region.binds] at hr
            have d3 : b 3 = true := by simp only [hr]
            simp only [hr, if_true]
            refine wp_quiet_here (.agg (vs .i64 ri)) ?_ (fun w2 hw2 => ?_)
            · go_big_quiet_op
              exact ⟨_, Calm.calls CI, by simp [Act.put]⟩
            refine ⟨hF.trans hw2.any, ?_, ?_⟩
            · have hh := (hw2.block _ (heap_lt hR0) (fun x => x)).trans hR0
              simpa [upd] using hh
            · simp [upd, Act.put, hr]
          | 5, ho =>
            injection ho with ho
            subst ho
            simp [Region.binds] at hr
            have d1 : b 1 = true := by simp only [hr]
            have d4 : b 4 = true := by simp only [hr]
            simp only [hr, if_true]
            refine wp_quiet_here (.agg (vs .i64 rm)) ?_ (fun w2 hw2 => ?_)
            · go_big_quiet_op
              exact ⟨_, Calm.calls CM, by simp [Act.put]⟩
            refine ⟨hF.trans hw2.any, ?_, ?_⟩
            · have hh := (hw2.block _ (heap_lt hR0) (fun x => x)).trans hR0
              simpa [upd] using hh
            · simp [upd, Act.put, hr]
          | 6, ho =>
            injection ho with ho
            subst ho
            simp [Region.binds] at hr
            have d5 : b 5 = true := by simp only [hr]
            simp only [hr, if_true]
            refine wp_quiet_here (.agg (vs .u8 R)) ?_ (fun w2 hw2 => ?_)
            · go_big_quiet_op
              exact ⟨_, Calm.calls CB, by simp [Act.put]⟩
            refine ⟨hF.trans hw2.any, ?_, ?_⟩
            · have hh := (hw2.block _ (heap_lt hR0) (fun x => x)).trans hR0
              simpa [upd] using hh
            · simp [upd, Act.put, hr]
          | 7, ho =>
            injection ho with ho
            subst ho
            simp [Region.binds] at hr
            have d6 : b 6 = true := by simp only [hr]
            simp only [hr, if_true]
            have k2 := hR0
            rw [hb] at k2
            simp only [Bool.false_eq_true, if_false] at k2
            refine wp_store_row 23 (.tmp 4) (.tmp 56) rfl (w.heap.size + 1 + 1) (vs .u8 R) rfl rfl 23 _ k2 (key_info k_R.out) (by rw [vs_size, vs_size, k_ZK.out, k_R.out]) (vs_all _ _) ?_
            refine ⟨hF.setRow _ (.inl (by simp)), ?_, ?_⟩
            · refine (setRow_heap _ _ _ _ _ _ hR0).trans ?_
              simp [upd]
            · simp [upd, Act.put, hr]
          | j + 8, ho => exact absurd ho (by simp)
        intro b a W16 hall hI
        obtain ⟨hF, hR0, rfl⟩ := hI
        have t0 : b 0 = true := hall 0 (by simp)
        have t1 : b 1 = true := hall 1 (by simp)
        have t2 : b 2 = true := hall 2 (by simp)
        have t3 : b 3 = true := hall 3 (by simp)
        have t4 : b 4 = true := hall 4 (by simp)
        have t5 : b 5 = true := hall 5 (by simp)
        have t6 : b 6 = true := hall 6 (by simp)
        have t7 : b 7 = true := hall 7 (by simp)
        simp only [t0, t1, t2, t3, t4, t5, t6, t7, if_true, true_implies] at hR0 ⊢
        have F16 : Hid (Fr (fun i => i = w.heap.size + 1 + 1) w W16) := FF.out.trans hF
        have X16_0 := Lib.hid hR0
        clear hall hF hR0 t0 t1 t2 t3 t4 t5 t6 t7 
        go_wp2
        refine bodyPost_ret (results_cell_row Try.results16 _ _ _ 23 _ (0, 0) _ rfl X16_0.out Try.underlying23 rfl (key_info k_R.out)) rfl ⟨?_, F16.out.weaken fun i hi hs => ?_⟩
        · rw [HR.out]
        · omega
      · rw [hb]
        go_upto_region 15 with (first
          | refine wpList_load_row rfl 53 (.tmp 8) rfl g8 rfl 53 (vs .i64 (yc ++ yd)) (0, 0) _ hW.out Try.underlying53 rfl (side_info (len32 n_yc.out n_yd.out)) ?_
          | refine wpList_load_row rfl 53 (.tmp 7) rfl g7 rfl 53 (vs .i64 (ya ++ yb)) (0, 0) _ hX.out Try.underlying53 rfl (side_info (len32 n_ya.out n_yb.out)) ?_
          | (refine wpList_store_row rfl 53 (.tmp 7) (.tmp 48) rfl g7 (vs .i64 (yc ++ yd)) rfl rfl 53 _ hX.out (side_info (len32 n_yc.out n_yd.out)) (by rw [vs_size, vs_size, len32 n_yc.out n_yd.out, len32 n_ya.out n_yb.out]) (vs_all _ _) ?_
             have Y1 : Hid ((wr.setRow g7 (vs .i64 (yc ++ yd))).heap[g7]? = some (.cells (vs .i64 (yc ++ yd)) 53 (0, 0))) := setRow_heap _ _ _ _ _ _ hX.out
             have Z1 : Hid ((wr.setRow g7 (vs .i64 (yc ++ yd))).heap[g8]? = some (.cells (vs .i64 (yc ++ yd)) 53 (0, 0))) := (setRow_other _ _ _ _ (fun e => HD.out.2.2.2.2.2.2 e.symm)).trans hW.out
             have I1 : Hid ((wr.setRow g7 (vs .i64 (yc ++ yd))).heap[g6]? = some (.cells (vs .i64 y1) 49 (0, 0))) := (setRow_other _ _ _ _ HD.out.2.2.2.2.1).trans iY.out
             have G1 : Hid (Fr (fun k => k = g7 ∨ k = g8) W4 (wr.setRow g7 (vs .i64 (yc ++ yd)))) := hF.out.setRow _ (.inl (.inl rfl))
             generalize wr.setRow g7 (vs .i64 (yc ++ yd)) = u1 at *)
          | (refine wpList_store_row rfl 53 (.tmp 8) (.tmp 49) rfl g8 (vs .i64 (ya ++ yb)) rfl rfl 53 _ Z1.out (side_info (len32 n_ya.out n_yb.out)) (by rw [vs_size, vs_size, len32 n_ya.out n_yb.out, len32 n_yc.out n_yd.out]) (vs_all _ _) ?_
             have Y2 : Hid ((u1.setRow g8 (vs .i64 (ya ++ yb))).heap[g7]? = some (.cells (vs .i64 (yc ++ yd)) 53 (0, 0))) := (setRow_other _ _ _ _ HD.out.2.2.2.2.2.2).trans Y1.out
             have Z2 : Hid ((u1.setRow g8 (vs .i64 (ya ++ yb))).heap[g8]? = some (.cells (vs .i64 (ya ++ yb)) 53 (0, 0))) := setRow_heap _ _ _ _ _ _ Z1.out
             have I2 : Hid ((u1.setRow g8 (vs .i64 (ya ++ yb))).heap[g6]? = some (.cells (vs .i64 y1) 49 (0, 0))) := (setRow_other _ _ _ _ HD.out.2.2.2.2.2.1).trans I1.out
             have G2 : Hid (Fr (fun k => k = g7 ∨ k = g8) W4 (u1.setRow g8 (vs .i64 (ya ++ yb)))) := G1.out.setRow _ (.inl (.inr rfl))
             generalize u1.setRow g8 (vs .i64 (ya ++ yb)) = u2 at *
             clear Y1 Z1 I1 G1))
        try simp only [Act.put, List.setIfInBounds_toArray, List.set_cons_succ, List.set_cons_zero]
        have iO : Hid (u2.heap[w.heap.size + 1 + 1]? = some (.cells (vs .u8 ZK) 23 (0, 0))) := (G2.out.block _ (heap_lt hO.out) (by have := HD.out; omega)).trans hO.out
        have FF : Hid (Fr (fun i => i = w.heap.size + 1 + 1) w u2) := (F4.out.trans' G2.out (fun i hi h => by have := HQ.out; omega)).any
        obtain ⟨ri, hri, CI⟩ := rinv_ex hV.out.2.2.2
        obtain ⟨rm, hrm, CM⟩ := rmul_ex hV.out.2.2.1 hri
        obtain ⟨R, hR⟩ : ∃ R, R = lb 32 (Fm (ld n x1 255).c (vi (ld n x1 255).d)) := ⟨_, rfl⟩
        have CB : ∀ W, Calls Try.prog 33 #[.agg (vs .i64 rm)] W fun e w' => e = .returned (.agg (vs .u8 R)) ∧ Fr (fun _ => False) W w' := fun W => by rw [hR]; exact rbytes_is rm _ W hrm
        have k_R : Hid (R.length = 32) := by show _ = _; rw [hR, lb_length]
        have HR : Hid (R = xv k u) := by
          show _ = _
          rw [hR]
          unfold xv xe lad
          rw [← HH.out.2.2.2.1, ← HH.out.2.2.2.2, hb]
          rfl
        clear hri hrm hR hb
        refine wp_region_inv2 (fun b a w' => Fr (fun i => i = w.heap.size + 1 + 1) u2 w' ∧ w'.heap[w.heap.size + 1 + 1]? = some (.cells (if b 7 = true then vs .u8 R else vs .u8 ZK) 23 (0, 0)) ∧ a = ⟨#[.agg (vs .u8 k), .agg (vs .u8 u), .pointer (some ⟨w.heap.size, 0, none⟩), .pointer (some ⟨w.heap.size + 1, 0, none⟩), .pointer (some ⟨w.heap.size + 1 + 1, 0, none⟩), .pointer (some ⟨g5, 0, none⟩), .pointer (some ⟨g6, 0, none⟩), .pointer (some ⟨g7, 0, none⟩), .pointer (some ⟨g8, 0, none⟩), .int .u8 1, .int .i64 (-1), u11, .agg (vs .u8 k), .agg (vs .u8 n), .agg (vs .u8 u), .agg (vs .i64 y1), .agg (vs .i64 o1), .agg (vs .i64 (o1 ++ Z)), .agg (vs .i64 y1), .agg (vs .i64 o1), .agg (vs .i64 (y1 ++ o1)), .int .i64 (-1), .bool false, u23, u24, u25, u26, u27, u28, u29, u30, u31, u32, u33, u34, u35, u36, u37, u38, u39, u40, u41, u42, u43, u44, u45, .int .u8 1, .bool true, .agg (vs .i64 (yc ++ yd)), .agg (vs .i64 (ya ++ yb)), if b 0 = true then .pointer (some ⟨g7, 0, none⟩) else undef, if b 1 = true then .agg (vs .i64 yc) else undef, if b 2 = true then .pointer (some ⟨g7, 16, none⟩) else undef, if b 3 = true then .agg (vs .i64 yd) else undef, if b 4 = true then .agg (vs .i64 ri) else undef, if b 5 = true then .agg (vs .i64 rm) else undef, if b 6 = true then .agg (vs .u8 R) else undef], []⟩) (by kernel_rfl) (by kernel_rfl) ?start15b ?step15b ?done15b
        case start15b => exact ⟨⟨rfl, rfl, rfl, Nat.le_refl _, fun _ _ _ => rfl⟩, by simp only [Bool.false_eq_true, if_false]; exact iO.out, by simp⟩
        case step15b =>
          intro i o b a w1 ho hI hb hr hc
          obtain ⟨hF, hR0, rfl⟩ := hI
          match i, ho with
          | 0, ho =>
            injection ho with ho
            subst ho
            refine wp_quiet_here (.pointer (some ⟨g7, 0, none⟩)) ?_ (fun w2 hw2 => ?_)
            · simp only [Bool.false_eq_true] 
              go_big_quiet_op
              first
                | (simp [Act.put]; done)
                | exact ⟨_, fun _ _ => rfl, by simp [Act.put]⟩
            refine ⟨hF.trans hw2.any, ?_, ?_⟩
            · have hh := (hw2.block _ (heap_lt hR0) (fun x => x)).trans hR0
              simpa [upd] using hh
            · simp [upd, Act.put]
          | 1, ho =>
            injection ho with ho
            subst ho
            simp [Region.binds] at hr
            have d0 : b 0 = true := by simp only [hr]
            simp only [hr, if_true]
            refine wp_quiet_here _ (quiet_num (.tmp 50) rfl (g7) 0 rfl yc n_yc.out (fun _ h => side_r0 n_yc.out ((Fr.block h _ (Nat.lt_of_lt_of_le (heap_lt Y2.out) hF.size) (fun x => x)).trans ((hF.block _ (heap_lt Y2.out) (fun e => HD.out.1 e.symm)).trans Y2.out))) rfl) (fun w2 hw2 => ?_)
            refine ⟨hF.trans hw2.any, ?_, ?_⟩
            · have hh := (hw2.block _ (heap_lt hR0) (fun x => x)).trans hR0
              simpa [upd] using hh
            · simp [upd, Act.put, hr]
          | 2, ho =>
            injection ho with ho
            subst ho
            refine wp_quiet_here (.pointer (some ⟨g7, 16, none⟩)) ?_ (fun w2 hw2 => ?_)
            · simp only [Bool.false_eq_true] 
              go_big_quiet_op
              first
                | (simp [Act.put]; done)
                | exact ⟨_, fun _ _ => rfl, by simp [Act.put]⟩
            refine ⟨hF.trans hw2.any, ?_, ?_⟩
            · have hh := (hw2.block _ (heap_lt hR0) (fun x => x)).trans hR0
              simpa [upd] using hh
            · simp [upd, Act.put]
          | 3, ho =>
            injection ho with ho
            subst ho
            simp [Region.binds] at hr
            have d2 : b 2 = true := by simp only [hr]
            simp only [hr, if_true]
            refine wp_quiet_here _ (quiet_num (.tmp 52) rfl (g7) 16 rfl yd n_yd.out (fun _ h => side_r1 n_yc.out ((Fr.block h _ (Nat.lt_of_lt_of_le (heap_lt Y2.out) hF.size) (fun x => x)).trans ((hF.block _ (heap_lt Y2.out) (fun e => HD.out.1 e.symm)).trans Y2.out))) rfl) (fun w2 hw2 => ?_)
            refine ⟨hF.trans hw2.any, ?_, ?_⟩
            · have hh := (hw2.block _ (heap_lt hR0) (fun x => x)).trans hR0
              simpa [upd] using hh
            · simp [upd, Act.put, hr]
          | 4, ho =>
            injection ho with ho
            subst ho
            simp [Region.binds] at hr
            have d3 : b 3 = true := by simp only [hr]
            simp only [hr, if_true]
            refine wp_quiet_here (.agg (vs .i64 ri)) ?_ (fun w2 hw2 => ?_)
            · go_big_quiet_op
              exact ⟨_, Calm.calls CI, by simp [Act.put]⟩
            refine ⟨hF.trans hw2.any, ?_, ?_⟩
            · have hh := (hw2.block _ (heap_lt hR0) (fun x => x)).trans hR0
              simpa [upd] using hh
            · simp [upd, Act.put, hr]
          | 5, ho =>
            injection ho with ho
            subst ho
            simp [Region.binds] at hr
            have d1 : b 1 = true := by simp only [hr]
            have d4 : b 4 = true := by simp only [hr]
            simp only [hr, if_true]
            refine wp_quiet_here (.agg (vs .i64 rm)) ?_ (fun w2 hw2 => ?_)
            · go_big_quiet_op
              exact ⟨_, Calm.calls CM, by simp [Act.put]⟩
            refine ⟨hF.trans hw2.any, ?_, ?_⟩
            · have hh := (hw2.block _ (heap_lt hR0) (fun x => x)).trans hR0
              simpa [upd] using hh
            · simp [upd, Act.put, hr]
          | 6, ho =>
            injection ho with ho
            subst ho
            simp [Region.binds] at hr
            have d5 : b 5 = true := by simp only [hr]
            simp only [hr, if_true]
            refine wp_quiet_here (.agg (vs .u8 R)) ?_ (fun w2 hw2 => ?_)
            · go_big_quiet_op
              exact ⟨_, Calm.calls CB, by simp [Act.put]⟩
            refine ⟨hF.trans hw2.any, ?_, ?_⟩
            · have hh := (hw2.block _ (heap_lt hR0) (fun x => x)).trans hR0
              simpa [upd] using hh
            · simp [upd, Act.put, hr]
          | 7, ho =>
            injection ho with ho
            subst ho
            simp [Region.binds] at hr
            have d6 : b 6 = true := by simp only [hr]
            simp only [hr, if_true]
            have k2 := hR0
            rw [hb] at k2
            simp only [Bool.false_eq_true, if_false] at k2
            refine wp_store_row 23 (.tmp 4) (.tmp 56) rfl (w.heap.size + 1 + 1) (vs .u8 R) rfl rfl 23 _ k2 (key_info k_R.out) (by rw [vs_size, vs_size, k_ZK.out, k_R.out]) (vs_all _ _) ?_
            refine ⟨hF.setRow _ (.inl (by simp)), ?_, ?_⟩
            · refine (setRow_heap _ _ _ _ _ _ hR0).trans ?_
              simp [upd]
            · simp [upd, Act.put, hr]
          | j + 8, ho => exact absurd ho (by simp)
        intro b a W16 hall hI
        obtain ⟨hF, hR0, rfl⟩ := hI
        have t0 : b 0 = true := hall 0 (by simp)
        have t1 : b 1 = true := hall 1 (by simp)
        have t2 : b 2 = true := hall 2 (by simp)
        have t3 : b 3 = true := hall 3 (by simp)
        have t4 : b 4 = true := hall 4 (by simp)
        have t5 : b 5 = true := hall 5 (by simp)
        have t6 : b 6 = true := hall 6 (by simp)
        have t7 : b 7 = true := hall 7 (by simp)
        simp only [t0, t1, t2, t3, t4, t5, t6, t7, if_true, true_implies] at hR0 ⊢
        have F16 : Hid (Fr (fun i => i = w.heap.size + 1 + 1) w W16) := FF.out.trans hF
        have X16_0 := Lib.hid hR0
        clear hall hF hR0 t0 t1 t2 t3 t4 t5 t6 t7 
        go_wp2
        refine bodyPost_ret (results_cell_row Try.results16 _ _ _ 23 _ (0, 0) _ rfl X16_0.out Try.underlying23 rfl (key_info k_R.out)) rfl ⟨?_, F16.out.weaken fun i hi hs => ?_⟩
        · rw [HR.out]
        · omega
end Go.Proofs.Ytbkbodcncjhcmaa
