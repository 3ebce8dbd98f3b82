/- CurveNumber answers true for all keys, points and bits, and its arguments read behind the call as they did: the given statement CurveNumberSaid. No condition. -/
import Derived.Test.YtbkbodcncjhcmaaKLift
import Derived.Test.YtbkbodcncjhcmaaAwake
namespace Go.Proofs.Ytbkbodcncjhcmaa
set_option linter.unusedSimpArgs false
set_option linter.unusedVariables false
open Go.ChangeShapes Go.WideShapes Go.ChangeAt Go.RowKit

theorem and_7 (b : Int) (h0 : 0 ≤ b) (h1 : b ≤ 255) : bits .and .u8 b 7 = b % 8 ∧ bits .and .u8 b 192 = b - b % 64 := by
  have h : (List.range 256).all (fun b => decide (bits .and .u8 (b : Int) 7 = (b : Int) % 8 ∧ bits .and .u8 (b : Int) 192 = (b : Int) - (b : Int) % 64)) = true := by decide +kernel
  obtain ⟨n, rfl⟩ := Int.eq_ofNat_of_zero_le h0
  have := List.all_eq_true.1 h n (by simp; omega)
  simpa using this
theorem xor_low {b B x : Int} (h0 : 0 ≤ b) (h1 : b ≤ 255) (h2 : 0 ≤ B) (h3 : B ≤ 255) (hx : bits .xor .u8 b (bits .and .u8 B 7) = x) : 0 ≤ x ∧ x ≤ 255 ∧ x - x % 8 = b - b % 8 := by
  rw [(and_7 B h2 h3).1] at hx
  have h : (List.range 256).all (fun b => (List.range 8).all fun m => decide (0 ≤ bits .xor .u8 (b : Int) (m : Int) ∧ bits .xor .u8 (b : Int) (m : Int) ≤ 255 ∧ bits .xor .u8 (b : Int) (m : Int) - bits .xor .u8 (b : Int) (m : Int) % 8 = (b : Int) - (b : Int) % 8)) = true := by decide +kernel
  obtain ⟨n, rfl⟩ := Int.eq_ofNat_of_zero_le h0
  obtain ⟨m, hm⟩ := Int.eq_ofNat_of_zero_le (show 0 ≤ B % 8 by omega)
  rw [hm] at hx
  have := of_decide_eq_true (List.all_eq_true.1 (List.all_eq_true.1 h n (by simp; omega)) m (by simp; omega))
  rwa [hx] at this
theorem xor_high {b B x : Int} (h0 : 0 ≤ b) (h1 : b ≤ 255) (h2 : 0 ≤ B) (h3 : B ≤ 255) (hx : bits .xor .u8 b (bits .and .u8 B 192) = x) : 0 ≤ x ∧ x ≤ 255 ∧ x % 64 = b % 64 := by
  rw [(and_7 B h2 h3).2] at hx
  have h : (List.range 256).all (fun b => (List.range 4).all fun m => decide (0 ≤ bits .xor .u8 (b : Int) (64 * (m : Int)) ∧ bits .xor .u8 (b : Int) (64 * (m : Int)) ≤ 255 ∧ bits .xor .u8 (b : Int) (64 * (m : Int)) % 64 = (b : Int) % 64)) = true := by decide +kernel
  obtain ⟨n, rfl⟩ := Int.eq_ofNat_of_zero_le h0
  obtain ⟨m, hm⟩ := Int.eq_ofNat_of_zero_le (show 0 ≤ B / 64 by omega)
  rw [show B - B % 64 = 64 * (m : Int) by omega] at hx
  have := of_decide_eq_true (List.all_eq_true.1 (List.all_eq_true.1 h n (by simp; omega)) m (by simp; omega))
  rwa [hx] at this
theorem cl_other (k : List Int) (x y : Int) (hk : k.length = 32) (hx : x - x % 8 = k.getD 0 0 - k.getD 0 0 % 8) (hy : y % 64 = k.getD 31 0 % 64) : cl ((k.set 0 x).set 31 y) = cl k := by
  have e0 : ((k.set 0 x).set 31 y).getD 0 0 = x := by
    rw [List.getD_eq_getElem?_getD, List.getElem?_set_ne (by decide), List.getElem?_set_self (by omega)]
    rfl
  have e1 : ((k.set 0 x).set 31 y).getD 31 0 = y := by
    rw [List.getD_eq_getElem?_getD, List.getElem?_set_self (by simp [hk])]
    rfl
  unfold cl
  rw [e0, e1, hx, hy, List.set_comm _ _ (show 31 ≠ 0 by decide), List.set_set, List.set_set]
theorem cl_cl (k : List Int) (hk : k.length = 32) : cl (cl k) = cl k := by
  have h := cl_other k (k.getD 0 0 - k.getD 0 0 % 8) (k.getD 31 0 % 64 + 64) hk (by omega) (by omega)
  exact h

set_option maxRecDepth 100000 in
set_option maxHeartbeats 8000000 in
theorem law_number_any (vk vu : List Int) (vB : Int) (w : World) (hvk : vk.length = 32) (bvk : Bys vk) (hvu : vu.length = 32) (bvu : Bys vu) (hvB : 0 ≤ vB ∧ vB ≤ 255) :
    Calls Try.prog 8 #[.agg (vs .u8 vk), .agg (vs .u8 vu), .int .u8 vB] w fun e w' => e = .returned (.bool true) ∧ Fr (fun _ => False) w w' := by
  obtain ⟨S, hS⟩ : ∃ S, S = xv vk vu := ⟨_, rfl⟩
  obtain ⟨n, hn⟩ : ∃ n, n = cl vk := ⟨_, rfl⟩
  obtain ⟨k0, hk0⟩ : ∃ b, b = vk.getD 0 0 := ⟨_, rfl⟩
  obtain ⟨k1, hk1⟩ : ∃ b, b = vk.getD 31 0 := ⟨_, rfl⟩
  have g0 := getD_some (l := vk) (i := 0) (by omega)
  have g1 := getD_some (l := vk) (i := 31) (by omega)
  rw [← hk0] at g0
  rw [← hk1] at g1
  have b0 := bvk k0 (List.mem_of_getElem? g0)
  have b1 := bvk k1 (List.mem_of_getElem? g1)
  obtain ⟨m0, hm0⟩ : ∃ m, bits .and .u8 vB 7 = m := ⟨_, rfl⟩
  obtain ⟨m1, hm1⟩ : ∃ m, bits .and .u8 vB 192 = m := ⟨_, rfl⟩
  obtain ⟨x, hx⟩ : ∃ x, bits .xor .u8 k0 m0 = x := ⟨_, rfl⟩
  obtain ⟨y, hy⟩ : ∃ y, bits .xor .u8 k1 m1 = y := ⟨_, rfl⟩
  obtain ⟨x0, x9, xm⟩ := xor_low (x := x) b0.1 b0.2 hvB.1 hvB.2 (by rw [hm0]; exact hx)
  obtain ⟨y0, y9, ym⟩ := xor_high (x := y) b1.1 b1.2 hvB.1 hvB.2 (by rw [hm1]; exact hy)
  obtain ⟨M0, hM0⟩ : ∃ M, vk.set 0 x = M := ⟨_, rfl⟩
  have HM0 : vk.set 0 x = M0 := hM0
  obtain ⟨M, hM⟩ : ∃ M, M0.set 31 y = M := ⟨_, rfl⟩
  have HM : M0.set 31 y = M := hM
  have lM0 : M0.length = 32 := by rw [← hM0, List.length_set]; exact hvk
  have lM : M.length = 32 := by rw [← hM, List.length_set]; exact lM0
  have yM0 : Bys M0 := by rw [← hM0]; exact bys_set bvk 0 ⟨x0, x9⟩
  have yM : Bys M := by rw [← hM]; exact bys_set yM0 31 ⟨y0, y9⟩
  have gM : M0[31]? = some k1 := by rw [← hM0, List.getElem?_set_ne (by decide)]; exact g1
  have cM : cl M = n := by
    rw [hn, ← hM, ← hM0]
    exact cl_other vk x y hvk (by rw [← hk0]; exact xm) (by rw [← hk1]; exact ym)
  have cN : cl n = n := by rw [hn]; exact cl_cl vk hvk
  have ln : n.length = 32 := by rw [hn, cl_length]; exact hvk
  have yn : Bys n := by rw [hn]; exact cl_bys hvk bvk
  have C0 : ∀ W, Calls Try.prog 13 #[.agg (vs .u8 vk)] W fun e w' => e = .returned (.agg (vs .u8 n)) ∧ Fr (fun _ => False) W w' := fun W => by rw [hn]; exact clamp_is vk W hvk bvk
  have C1 : ∀ W, Calls Try.prog 13 #[.agg (vs .u8 M)] W fun e w' => e = .returned (.agg (vs .u8 n)) ∧ Fr (fun _ => False) W w' := fun W => by
    have h := clamp_is M W lM yM
    rwa [cM] at h
  have C2 : ∀ W, Calls Try.prog 13 #[.agg (vs .u8 n)] W fun e w' => e = .returned (.agg (vs .u8 n)) ∧ Fr (fun _ => False) W w' := fun W => by
    have h := clamp_is n W ln yn
    rwa [cN] at h
  have C3 : ∀ W, Calls Try.prog 15 #[.agg (vs .u8 M), .agg (vs .u8 vu)] W fun e w' => e = .returned (.agg (vs .u8 S)) ∧ Fr (fun _ => False) W w' := fun W => by
    have h := x_is M vu W lM yM hvu bvu
    rwa [show xv M vu = S by rw [hS]; unfold xv xe; rw [cM, hn]] at h
  have C4 : ∀ W, Calls Try.prog 15 #[.agg (vs .u8 vk), .agg (vs .u8 vu)] W fun e w' => e = .returned (.agg (vs .u8 S)) ∧ Fr (fun _ => False) W w' := fun W => by rw [hS]; exact x_is vk vu W hvk bvk hvu bvu
  have C5 : ∀ W, Calls Try.prog 15 #[.agg (vs .u8 n), .agg (vs .u8 vu)] W fun e w' => e = .returned (.agg (vs .u8 S)) ∧ Fr (fun _ => False) W w' := fun W => by
    have h := x_is n vu W ln yn hvu bvu
    rwa [show xv n vu = S by rw [hS]; unfold xv xe; rw [cN, hn]] at h
  have k_S : Hid (S.length = 32) := by show _ = _; rw [hS]; exact xv_length _ _
  have k_M : Hid (M.length = 32) := lM
  have k_M0 : Hid (M0.length = 32) := lM0
  have k_n : Hid (n.length = 32) := ln
  have GB := Lib.hid (And.intro g0 (And.intro g1 gM))
  have CA := awake_is
  have k_vk : Hid (vk.length = 32) := hvk
  have k_vu : Hid (vu.length = 32) := hvu
  have hq0 : ∀ W, (Op.equalIn 10000 23 (.agg (vs .u8 S)) (.agg (vs .u8 S))).run Try.prog W = .ok true W := fun W => by rw [eq23 _ _ k_S.out k_S.out W, decide_eq_true rfl]
  have hq1 : ∀ W, (Op.equalIn 10000 23 (.agg (vs .u8 n)) (.agg (vs .u8 n))).run Try.prog W = .ok true W := fun W => by rw [eq23 _ _ k_n.out k_n.out W, decide_eq_true rfl]
  obtain ⟨ZK, hZK⟩ : ∃ Z, Z = List.replicate 32 (0 : Int) := ⟨_, rfl⟩
  have zkk : ∀ W : World, (zeroValue 23).run Try.prog W = .ok (.agg (vs .u8 ZK)) W := fun W => by rw [hZK]; exact key_zero W
  have k_ZK : Hid (ZK.length = 32) := by show _ = _; rw [hZK]; rfl
  clear hZK
  clear hvk bvk hvu bvu hvB hS hn hk0 hk1 g0 g1 b0 b1 x0 x9 xm y0 y9 ym hM0 hM lM0 lM yM0 yM gM cM cN ln yn
  go_enter Try.func8, Try.ntmps8
  go_upto_region 1 with (fail)
  generalize hW : ((w.alloc (.cells (vs .u8 vk) 23)).alloc (.cells (vs .u8 vu) 23)) = W0
  have HW := Lib.hid (calm2 hW)
  have X0 := Lib.hid HW.out.1
  have X1 := Lib.hid HW.out.2.1
  have F0 : Hid (Fr (fun _ => False) w W0) := HW.out.2.2
  clear hW HW
  refine wp_region_seq (fun b a w' => ∃ g7 : Nat, Fr (fun _ => False) W0 w' ∧ (b 1 = true → W0.heap.size ≤ g7 ∧ w'.heap[g7]? = some (.cells (if b 2 = true then vs .u8 vk else vs .u8 ZK) 23 (0, 0))) ∧ (b 2 = true → b 1 = true) ∧ a = ⟨#[.agg (vs .u8 vk), .agg (vs .u8 vu), .int .u8 vB, .pointer (some ⟨w.heap.size, 0, none⟩), .pointer (some ⟨w.heap.size + 1, 0, none⟩), undef, .bool false, if b 1 = true then .pointer (some ⟨g7, 0, none⟩) else undef, undef, if b 0 = true then .agg (vs .u8 vk) else undef, undef, undef, undef, undef, undef, undef, undef, undef, undef, undef, undef, undef, undef, undef, undef, undef, undef, undef, undef, undef, undef, undef, undef, undef, undef, undef, undef, undef, undef, undef, undef, undef, undef, undef, undef, undef, undef, undef, undef, undef, undef, undef, undef, undef, undef], []⟩) (by kernel_rfl) ?start1 ?step1 ?done1
  case start1 => exact ⟨0, Fr.refl _ _, by simp, by simp, by simp⟩
  case step1 =>
    intro i o b a w1 ho hI hb hr
    obtain ⟨g7, hF, h1, hq1, rfl⟩ := hI
    match i, ho with
    | 0, ho =>
      injection ho with ho
      subst ho
      refine wp_quiet_here _ (quiet_load 23 (.tmp 3) rfl (w.heap.size) rfl 23 _ (0, 0) _ (fun _ h => (Fr.block h _ (Nat.lt_of_lt_of_le (heap_lt X0.out) hF.size) (fun x => x)).trans ((hF.block _ (heap_lt X0.out) (fun x => x)).trans X0.out)) Try.underlying23 rfl (key_info k_vk.out) rfl) (fun w2 hw2 => ?_)
      refine ⟨g7, hF.trans hw2, ?_, ?_, ?_⟩
      · intro hx
        replace hx : b 1 = true := by simpa [upd] using hx
        obtain ⟨k1', k2⟩ := h1 hx
        refine ⟨k1', (hw2.block _ (heap_lt k2) (fun x => x)).trans ?_⟩
        rw [k2]
        simp [upd]
      · simpa [upd] using hq1
      · simp [upd, Act.put]
    | 1, ho =>
      injection ho with ho
      subst ho
      have d0 : b 0 = true := hr 0 (by decide)
      simp only [d0, if_true]
      refine wp_alloc_any 23 rfl (vs .u8 ZK) zkk ?_
      refine ⟨w1.heap.size, hF.alloc _, ?_, ?_, ?_⟩
      · intro _
        refine ⟨hF.size, (heap_alloc_new w1 _).trans ?_⟩
        have hs : b 2 = false := by
          rcases hbs : b 2 with _ | _
          · rfl
          · rw [hq1 hbs] at hb
            cases hb
        simp [upd, hs]
      · simp [upd]
      · simp [upd, Act.put, d0]
    | 2, ho =>
      injection ho with ho
      subst ho
      have d0 : b 0 = true := hr 0 (by decide)
      have d1 : b 1 = true := hr 1 (by decide)
      simp only [d0, d1, if_true]
      obtain ⟨k1, k2⟩ := h1 d1
      rw [hb] at k2
      simp only [Bool.false_eq_true, if_false] at k2
      refine wp_store_row 23 (.tmp 7) (.tmp 9) rfl g7 (vs .u8 vk) rfl rfl 23 _ k2 (key_info k_vk.out) (by rw [vs_size, vs_size, k_ZK.out, k_vk.out]) (vs_all _ _) ?_
      refine ⟨g7, hF.setRow _ (.inr k1), ?_, ?_, ?_⟩
      · intro _
        refine ⟨k1, (setRow_heap _ _ _ _ _ _ k2).trans ?_⟩
        simp [upd]
      · simp [upd, d1]
      · simp [upd, Act.put, d0, d1]
    | j + 3, ho => exact absurd ho (by simp)
  intro b a W2 hall hI
  obtain ⟨g7, hF, h1, hq1, rfl⟩ := hI
  have t0 : b 0 = true := hall 0 (by simp)
  have t1 : b 1 = true := hall 1 (by simp)
  have t2 : b 2 = true := hall 2 (by simp)
  simp only [t0, t1, t2, if_true, true_implies] at h1 hq1 ⊢
  have F2 : Hid (Fr (fun _ => False) w W2) := F0.out.trans hF
  have X2_0 := Lib.hid ((hF.block _ (heap_lt X0.out) (fun x => x)).trans X0.out)
  have X2_1 := Lib.hid ((hF.block _ (heap_lt X1.out) (fun x => x)).trans X1.out)
  have X2_2 := Lib.hid h1.2
  have Yg7 : w.heap.size ≤ g7 := Nat.le_trans F0.out.size h1.1
  have Dg7_0 : (w.heap.size) ≠ g7 := by
    have q := heap_lt X0.out
    have q2 := h1.1
    omega
  have Dg7_1 : (w.heap.size + 1) ≠ g7 := by
    have q := heap_lt X1.out
    have q2 := h1.1
    omega
  clear hall hF h1 hq1 t0 t1 t2 F0
  go_upto_region 2 with (fail)
  have c1 := Ar.cell (show Ar W2 (w.heap.size) 23 .u8 vk from X2_0.out) GB.out.1
  have c2 := Ar.cell (show Ar W2 g7 23 .u8 vk from X2_2.out) GB.out.1
  have c3 := Ar.frozen (show Ar W2 g7 23 .u8 vk from X2_2.out) 0
  have X3_0 : Hid ((W2.setCell ⟨g7, 0, none⟩ (.int .u8 x)).heap[w.heap.size]? = some (.cells (vs .u8 vk) 23 (0, 0))) := (heap_setCell_other _ _ _ _ Dg7_0).trans X2_0.out
  have X3_1 : Hid ((W2.setCell ⟨g7, 0, none⟩ (.int .u8 x)).heap[w.heap.size + 1]? = some (.cells (vs .u8 vu) 23 (0, 0))) := (heap_setCell_other _ _ _ _ Dg7_1).trans X2_1.out
  have X3_2 : Hid ((W2.setCell ⟨g7, 0, none⟩ (.int .u8 x)).heap[g7]? = some (.cells (vs .u8 M0) 23 (0, 0))) := by
    have h := Ar.set (show Ar W2 (g7) 23 .u8 vk from X2_2.out) 0 x
    rwa [HM0] at h
  have F3 : Hid (Fr (fun _ => False) w (W2.setCell ⟨g7, 0, none⟩ (.int .u8 x))) := F2.out.setCell _ (.inr Yg7)
  go_upto_region 3 with (fail)
  generalize W2.setCell ⟨g7, 0, none⟩ (.int .u8 x) = W3 at *
  clear c1 c2 c3 X2_0 X2_1 X2_2 F2
  have c1 := Ar.cell (show Ar W3 (w.heap.size) 23 .u8 vk from X3_0.out) GB.out.2.1
  have c2 := Ar.cell (show Ar W3 g7 23 .u8 M0 from X3_2.out) GB.out.2.2
  have c3 := Ar.frozen (show Ar W3 g7 23 .u8 M0 from X3_2.out) 31
  have X4_0 : Hid ((W3.setCell ⟨g7, 31, none⟩ (.int .u8 y)).heap[w.heap.size]? = some (.cells (vs .u8 vk) 23 (0, 0))) := (heap_setCell_other _ _ _ _ Dg7_0).trans X3_0.out
  have X4_1 : Hid ((W3.setCell ⟨g7, 31, none⟩ (.int .u8 y)).heap[w.heap.size + 1]? = some (.cells (vs .u8 vu) 23 (0, 0))) := (heap_setCell_other _ _ _ _ Dg7_1).trans X3_1.out
  have X4_2 : Hid ((W3.setCell ⟨g7, 31, none⟩ (.int .u8 y)).heap[g7]? = some (.cells (vs .u8 M) 23 (0, 0))) := by
    have h := Ar.set (show Ar W3 (g7) 23 .u8 M0 from X3_2.out) 31 y
    rwa [HM] at h
  have F4 : Hid (Fr (fun _ => False) w (W3.setCell ⟨g7, 31, none⟩ (.int .u8 y))) := F3.out.setCell _ (.inr Yg7)
  go_upto_region 4 with (fail)
  generalize W3.setCell ⟨g7, 31, none⟩ (.int .u8 y) = W4 at *
  clear c1 c2 c3 X3_0 X3_1 X3_2 F3
  try simp only [Act.put, List.setIfInBounds_toArray, List.set_cons_succ, List.set_cons_zero]
  refine wp_region_seq (fun b a w' => ∃ g8 : Nat, Fr (fun _ => False) W4 w' ∧ (b 2 = true → W4.heap.size ≤ g8 ∧ w'.heap[g8]? = some (.cells (if b 3 = true then vs .u8 n else vs .u8 ZK) 23 (0, 0))) ∧ (b 3 = true → b 2 = true) ∧ a = ⟨#[.agg (vs .u8 vk), .agg (vs .u8 vu), .int .u8 vB, .pointer (some ⟨w.heap.size, 0, none⟩), .pointer (some ⟨w.heap.size + 1, 0, none⟩), undef, .bool false, .pointer (some ⟨g7, 0, none⟩), if b 2 = true then .pointer (some ⟨g8, 0, none⟩) else undef, .agg (vs .u8 vk), .pointer (some ⟨w.heap.size, 0, none⟩), .int .u8 k0, .int .u8 vB, .int .u8 m0, .int .u8 x, .pointer (some ⟨g7, 0, none⟩), .pointer (some ⟨w.heap.size, 31, none⟩), .int .u8 k1, .int .u8 vB, .int .u8 m1, .int .u8 y, .pointer (some ⟨g7, 31, none⟩), if b 0 = true then .agg (vs .u8 vk) else undef, if b 1 = true then .agg (vs .u8 n) else undef, undef, undef, undef, undef, undef, undef, undef, undef, undef, undef, undef, undef, undef, undef, undef, undef, undef, undef, undef, undef, undef, undef, undef, undef, undef, undef, undef, undef, undef, undef, undef], []⟩) (by kernel_rfl) ?start4 ?step4 ?done4
  case start4 => exact ⟨0, Fr.refl _ _, by simp, by simp, by simp⟩
  case step4 =>
    intro i o b a w1 ho hI hb hr
    obtain ⟨g8, hF, h2, hq2, rfl⟩ := hI
    match i, ho with
    | 0, ho =>
      injection ho with ho
      subst ho
      refine wp_quiet_here _ (quiet_load 23 (.tmp 3) rfl (w.heap.size) rfl 23 _ (0, 0) _ (fun _ h => (Fr.block h _ (Nat.lt_of_lt_of_le (heap_lt X4_0.out) hF.size) (fun x => x)).trans ((hF.block _ (heap_lt X4_0.out) (fun x => x)).trans X4_0.out)) Try.underlying23 rfl (key_info k_vk.out) rfl) (fun w2 hw2 => ?_)
      refine ⟨g8, hF.trans hw2, ?_, ?_, ?_⟩
      · intro hx
        replace hx : b 2 = true := by simpa [upd] using hx
        obtain ⟨k1', k2⟩ := h2 hx
        refine ⟨k1', (hw2.block _ (heap_lt k2) (fun x => x)).trans ?_⟩
        rw [k2]
        simp [upd]
      · simpa [upd] using hq2
      · simp [upd, Act.put]
    | 1, ho =>
      injection ho with ho
      subst ho
      have d0 : b 0 = true := hr 0 (by decide)
      simp only [d0, if_true]
      refine wp_quiet_here (.agg (vs .u8 n)) ?_ (fun w2 hw2 => ?_)
      · go_big_quiet_op
        exact ⟨_, Calm.calls C0, by simp [Act.put]⟩
      refine ⟨g8, hF.trans hw2, ?_, ?_, ?_⟩
      · intro hx
        replace hx : b 2 = true := by simpa [upd] using hx
        obtain ⟨k1', k2⟩ := h2 hx
        refine ⟨k1', (hw2.block _ (heap_lt k2) (fun x => x)).trans ?_⟩
        rw [k2]
        simp [upd]
      · simpa [upd] using hq2
      · simp [upd, Act.put, d0]
    | 2, ho =>
      injection ho with ho
      subst ho
      have d0 : b 0 = true := hr 0 (by decide)
      have d1 : b 1 = true := hr 1 (by decide)
      simp only [d0, d1, if_true]
      refine wp_alloc_any 23 rfl (vs .u8 ZK) zkk ?_
      refine ⟨w1.heap.size, hF.alloc _, ?_, ?_, ?_⟩
      · intro _
        refine ⟨hF.size, (heap_alloc_new w1 _).trans ?_⟩
        have hs : b 3 = false := by
          rcases hbs : b 3 with _ | _
          · rfl
          · rw [hq2 hbs] at hb
            cases hb
        simp [upd, hs]
      · simp [upd]
      · simp [upd, Act.put, d0, d1]
    | 3, ho =>
      injection ho with ho
      subst ho
      have d0 : b 0 = true := hr 0 (by decide)
      have d1 : b 1 = true := hr 1 (by decide)
      have d2 : b 2 = true := hr 2 (by decide)
      simp only [d0, d1, d2, if_true]
      obtain ⟨k1, k2⟩ := h2 d2
      rw [hb] at k2
      simp only [Bool.false_eq_true, if_false] at k2
      refine wp_store_row 23 (.tmp 8) (.tmp 23) rfl g8 (vs .u8 n) rfl rfl 23 _ k2 (key_info k_n.out) (by rw [vs_size, vs_size, k_ZK.out, k_n.out]) (vs_all _ _) ?_
      refine ⟨g8, hF.setRow _ (.inr k1), ?_, ?_, ?_⟩
      · intro _
        refine ⟨k1, (setRow_heap _ _ _ _ _ _ k2).trans ?_⟩
        simp [upd]
      · simp [upd, d2]
      · simp [upd, Act.put, d0, d1, d2]
    | j + 4, ho => exact absurd ho (by simp)
  intro b a W5 hall hI
  obtain ⟨g8, hF, h2, hq2, rfl⟩ := hI
  have t0 : b 0 = true := hall 0 (by simp)
  have t1 : b 1 = true := hall 1 (by simp)
  have t2 : b 2 = true := hall 2 (by simp)
  have t3 : b 3 = true := hall 3 (by simp)
  simp only [t0, t1, t2, t3, if_true, true_implies] at h2 hq2 ⊢
  have F5 : Hid (Fr (fun _ => False) w W5) := F4.out.trans hF
  have X5_0 := Lib.hid ((hF.block _ (heap_lt X4_0.out) (fun x => x)).trans X4_0.out)
  have X5_1 := Lib.hid ((hF.block _ (heap_lt X4_1.out) (fun x => x)).trans X4_1.out)
  have X5_2 := Lib.hid ((hF.block _ (heap_lt X4_2.out) (fun x => x)).trans X4_2.out)
  have X5_3 := Lib.hid h2.2
  have Yg8 : w.heap.size ≤ g8 := Nat.le_trans F4.out.size h2.1
  clear hall hF h2 hq2 t0 t1 t2 t3 X4_0 X4_1 X4_2 F4
  go_upto_region 5 with (fail)
  refine wp_region_quiet (C := Calm W5) (by kernel_rfl) (by kernel_rfl) (Calm.start _ _ (Fr.refl _ _)) ?_
  refine BigFrame.wpQuiet_want rfl fun K hK => quiet_load 23 (.tmp 7) rfl (g7) rfl 23 _ (0, 0) _ (fun _ h => Calm.at X5_2.out h) Try.underlying23 rfl (key_info k_M.out) (hK _ ?_)
  refine BigFrame.wpQuiet_want rfl fun K hK => ?_
  try simp only [Act.put, List.setIfInBounds_toArray, List.set_cons_succ, List.set_cons_zero]
  go_big_quiet_op
  refine ⟨_, Calm.calls C1, hK _ ?_⟩
  refine BigFrame.wpQuiet_want rfl fun K hK => quiet_load 23 (.tmp 8) rfl (g8) rfl 23 _ (0, 0) _ (fun _ h => Calm.at X5_3.out h) Try.underlying23 rfl (key_info k_n.out) (hK _ ?_)
  refine BigFrame.wpQuiet_want rfl fun K hK => ?_
  try simp only [Act.put, List.setIfInBounds_toArray, List.set_cons_succ, List.set_cons_zero]
  go_big_quiet_op
  first
    | refine ⟨_, fun _ _ => rfl, hK _ ?_⟩
    | refine hK _ ?_
  refine BigFrame.wpQuiet_want rfl fun K hK => ?_
  try simp only [Act.put, List.setIfInBounds_toArray, List.set_cons_succ, List.set_cons_zero]
  go_big_quiet_op
  refine hK _ ?_
  refine BigFrame.wpQuiet_want rfl fun K hK => quiet_load 23 (.tmp 8) rfl (g8) rfl 23 _ (0, 0) _ (fun _ h => Calm.at X5_3.out h) Try.underlying23 rfl (key_info k_n.out) (hK _ ?_)
  refine BigFrame.wpQuiet_want rfl fun K hK => ?_
  try simp only [Act.put, List.setIfInBounds_toArray, List.set_cons_succ, List.set_cons_zero]
  go_big_quiet_op
  refine ⟨_, Calm.calls C2, hK _ ?_⟩
  refine BigFrame.wpQuiet_want rfl fun K hK => quiet_load 23 (.tmp 8) rfl (g8) rfl 23 _ (0, 0) _ (fun _ h => Calm.at X5_3.out h) Try.underlying23 rfl (key_info k_n.out) (hK _ ?_)
  refine BigFrame.wpQuiet_want rfl fun K hK => ?_
  try simp only [Act.put, List.setIfInBounds_toArray, List.set_cons_succ, List.set_cons_zero]
  go_big_quiet_op
  first
    | refine ⟨_, fun _ _ => rfl, hK _ ?_⟩
    | refine hK _ ?_
  refine BigFrame.wpQuiet_want rfl fun K hK => ?_
  try simp only [Act.put, List.setIfInBounds_toArray, List.set_cons_succ, List.set_cons_zero]
  go_big_quiet_op
  first
    | refine ⟨_, fun _ _ => rfl, hK _ ?_⟩
    | refine hK _ ?_
  refine BigFrame.wpQuiet_want rfl fun K hK => ?_
  try simp only [Act.put, List.setIfInBounds_toArray, List.set_cons_succ, List.set_cons_zero]
  go_big_quiet_op
  refine hK _ ?_
  refine BigFrame.wpQuiet_want rfl fun K hK => quiet_load 23 (.tmp 7) rfl (g7) rfl 23 _ (0, 0) _ (fun _ h => Calm.at X5_2.out h) Try.underlying23 rfl (key_info k_M.out) (hK _ ?_)
  refine BigFrame.wpQuiet_want rfl fun K hK => quiet_load 23 (.tmp 4) rfl (w.heap.size + 1) rfl 23 _ (0, 0) _ (fun _ h => Calm.at X5_1.out h) Try.underlying23 rfl (key_info k_vu.out) (hK _ ?_)
  refine BigFrame.wpQuiet_want rfl fun K hK => ?_
  try simp only [Act.put, List.setIfInBounds_toArray, List.set_cons_succ, List.set_cons_zero]
  go_big_quiet_op
  refine ⟨_, Calm.calls C3, hK _ ?_⟩
  refine BigFrame.wpQuiet_want rfl fun K hK => quiet_load 23 (.tmp 3) rfl (w.heap.size) rfl 23 _ (0, 0) _ (fun _ h => Calm.at X5_0.out h) Try.underlying23 rfl (key_info k_vk.out) (hK _ ?_)
  refine BigFrame.wpQuiet_want rfl fun K hK => quiet_load 23 (.tmp 4) rfl (w.heap.size + 1) rfl 23 _ (0, 0) _ (fun _ h => Calm.at X5_1.out h) Try.underlying23 rfl (key_info k_vu.out) (hK _ ?_)
  refine BigFrame.wpQuiet_want rfl fun K hK => ?_
  try simp only [Act.put, List.setIfInBounds_toArray, List.set_cons_succ, List.set_cons_zero]
  go_big_quiet_op
  refine ⟨_, Calm.calls C4, hK _ ?_⟩
  refine BigFrame.wpQuiet_want rfl fun K hK => ?_
  try simp only [Act.put, List.setIfInBounds_toArray, List.set_cons_succ, List.set_cons_zero]
  go_big_quiet_op
  first
    | refine ⟨_, fun _ _ => rfl, hK _ ?_⟩
    | refine hK _ ?_
  refine BigFrame.wpQuiet_want rfl fun K hK => ?_
  try simp only [Act.put, List.setIfInBounds_toArray, List.set_cons_succ, List.set_cons_zero]
  go_big_quiet_op
  first
    | refine ⟨_, fun _ _ => rfl, hK _ ?_⟩
    | refine hK _ ?_
  refine BigFrame.wpQuiet_want rfl fun K hK => ?_
  try simp only [Act.put, List.setIfInBounds_toArray, List.set_cons_succ, List.set_cons_zero]
  go_big_quiet_op
  refine hK _ ?_
  refine BigFrame.wpQuiet_want rfl fun K hK => quiet_load 23 (.tmp 8) rfl (g8) rfl 23 _ (0, 0) _ (fun _ h => Calm.at X5_3.out h) Try.underlying23 rfl (key_info k_n.out) (hK _ ?_)
  refine BigFrame.wpQuiet_want rfl fun K hK => quiet_load 23 (.tmp 4) rfl (w.heap.size + 1) rfl 23 _ (0, 0) _ (fun _ h => Calm.at X5_1.out h) Try.underlying23 rfl (key_info k_vu.out) (hK _ ?_)
  refine BigFrame.wpQuiet_want rfl fun K hK => ?_
  try simp only [Act.put, List.setIfInBounds_toArray, List.set_cons_succ, List.set_cons_zero]
  go_big_quiet_op
  refine ⟨_, Calm.calls C5, hK _ ?_⟩
  refine BigFrame.wpQuiet_want rfl fun K hK => quiet_load 23 (.tmp 3) rfl (w.heap.size) rfl 23 _ (0, 0) _ (fun _ h => Calm.at X5_0.out h) Try.underlying23 rfl (key_info k_vk.out) (hK _ ?_)
  refine BigFrame.wpQuiet_want rfl fun K hK => quiet_load 23 (.tmp 4) rfl (w.heap.size + 1) rfl 23 _ (0, 0) _ (fun _ h => Calm.at X5_1.out h) Try.underlying23 rfl (key_info k_vu.out) (hK _ ?_)
  refine BigFrame.wpQuiet_want rfl fun K hK => ?_
  try simp only [Act.put, List.setIfInBounds_toArray, List.set_cons_succ, List.set_cons_zero]
  go_big_quiet_op
  refine ⟨_, Calm.calls C4, hK _ ?_⟩
  refine BigFrame.wpQuiet_want rfl fun K hK => ?_
  try simp only [Act.put, List.setIfInBounds_toArray, List.set_cons_succ, List.set_cons_zero]
  go_big_quiet_op
  first
    | refine ⟨_, fun _ _ => rfl, hK _ ?_⟩
    | refine hK _ ?_
  refine BigFrame.wpQuiet_want rfl fun K hK => ?_
  try simp only [Act.put, List.setIfInBounds_toArray, List.set_cons_succ, List.set_cons_zero]
  go_big_quiet_op
  first
    | refine ⟨_, fun _ _ => rfl, hK _ ?_⟩
    | refine hK _ ?_
  refine BigFrame.wpQuiet_want rfl fun K hK => ?_
  try simp only [Act.put, List.setIfInBounds_toArray, List.set_cons_succ, List.set_cons_zero]
  go_big_quiet_op
  refine hK _ ?_
  refine BigFrame.wpQuiet_want rfl fun K hK => ?_
  try simp only [Act.put, List.setIfInBounds_toArray, List.set_cons_succ, List.set_cons_zero]
  go_big_quiet_op
  refine ⟨_, Calm.calls CA, hK _ ?_⟩
  refine BigFrame.wpQuiet_want rfl fun K hK => ?_
  try simp only [Act.put, List.setIfInBounds_toArray, List.set_cons_succ, List.set_cons_zero]
  go_big_quiet_op
  first
    | refine ⟨_, fun _ _ => rfl, hK _ ?_⟩
    | refine hK _ ?_
  refine BigFrame.wpQuiet_want rfl fun K hK => ?_
  try simp only [Act.put, List.setIfInBounds_toArray, List.set_cons_succ, List.set_cons_zero]
  go_big_quiet_op
  refine hK _ ?_
  refine wpQuiet_nil ?_
  intro w9 hw9
  have F9 : Hid (Fr (fun _ => False) w w9) := F5.out.trans hw9
  clear hw9
  try simp only [Act.put, List.setIfInBounds_toArray, List.set_cons_succ, List.set_cons_zero]
  go_wp2
  go_ret
  exact ⟨rfl, F9.out⟩

set_option maxRecDepth 100000 in
theorem law_number_lifted (os : Os) (started : os.Started) (H : Type) (enc : TypeId × Value → H) :
    ReturnsInHanded {} Try.checked os 8 .any (Rows.curveNumberSpec.pre6 enc Try.prog Try.f8 Rows.curveNumberRow.domain false) (Rows.curveNumberSpec.post enc Try.prog Try.f8 false true false false) := by
  refine returnsInHanded_of_change (C := Try.checked) own started (by kernel_rfl) Try.func8
    (ChangeSpec.witness6 (enc := enc) (C := Try.checked) false ⟨#[], #[.agg (vs .u8 (List.replicate 32 0)), .agg (vs .u8 (List.replicate 32 0)), .int .u8 0], []⟩ 8 (by kernel_rfl) (by kernel_rfl) (by kernel_rfl) (by kernel_rfl)) ?_
  intro W base args ds gs before hval0 hW hcnd _
  have hval : ∀ (j : Nat) t v, Try.f8.params[j]? = some t → args[j]? = some v → Value.okWide Try.prog W .any base t v := hval0
  have hW' := hW
  obtain ⟨p, q, hA0, hV, rfl, hfz, hnd⟩ := hW
  have hA : DataW.TrodAll enc Try.prog W 0 (fun _ => true) true Try.f8.params.toList args.toList ds p := hA0
  rw [Try.params8] at hA hval
  obtain ⟨v0, vs0, d0, ds0, p0, q0, hargs, rfl, rfl, h0, r0⟩ := trodAll_cons hA
  obtain ⟨v1, vs1, d1, ds1, p1, q1, rfl, rfl, rfl, h1, r1⟩ := trodAll_cons r0
  obtain ⟨v2, vs2, d2, ds2, p2, q2, rfl, rfl, rfl, h2, r2⟩ := trodAll_cons r1
  obtain ⟨rfl, rfl, rfl⟩ := trodAll_nil r2
  obtain rfl : args = #[v0, v1, v2] := by cases args; simp_all
  obtain ⟨rfl, rfl⟩ := trodVars_none hV
  obtain ⟨l0, rfl, e0, b0⟩ := open_key (hval 0 23 v0 rfl rfl) h0
  obtain ⟨l1, rfl, e1, b1⟩ := open_key (hval 1 23 v1 rfl rfl) h1
  obtain ⟨a2, rfl, rfl, rfl, w2⟩ := open_int Try.underlying5 (hval 2 5 v2 rfl rfl) h2
  clear hA0 hval0
  refine (law_number_any l0 l1 a2 W e0 b0 e1 b1 (bounds_u8 w2)).mono fun e W' ⟨he, hg⟩ => ?_
  subst he
  exact ⟨_, rfl, post_true rfl hW' (by kernel_rfl) rfl rfl hg⟩

theorem curveNumber_holds : Rows.CurveNumberSaid :=
  OpenClaim.holds_of_wide 8 Try.f8 rfl rfl rfl rfl rfl rfl rfl ⟨rfl, rfl, rfl, rfl, rfl⟩ rfl rfl rfl rfl rfl (by kernel_rfl) Try.func8 (by kernel_rfl)
    (of_decide_eq_true (by kernel_rfl)) (by unfold Func.isWrapper; first | (rw [if_pos (by decide +kernel)]; kernel_rfl) | (rw [if_neg (by decide +kernel)]; exact ⟨rfl, rfl⟩))
    (fun os started H enc _ => law_number_lifted os started H enc)
#print axioms curveNumber_holds
end Go.Proofs.Ytbkbodcncjhcmaa
