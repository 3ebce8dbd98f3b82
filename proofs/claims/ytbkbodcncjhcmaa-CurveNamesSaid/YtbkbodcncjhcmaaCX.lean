/- curve's X, Public, Share: contracts. Condition: 32 bytes each. -/
import Derived.Test.YtbkbodcncjhcmaaCLad
namespace Go.Proofs.Ytbkbodcncjhcmaa
set_option linter.unusedSimpArgs false
set_option linter.unusedVariables false
open Go.RowKit

/-- The bytes of the point of a key and a point. -/
def xe (k u : List Int) : Int := lad (cl k) (fe u)
def xv (k u : List Int) : List Int := lb 32 (xe k u)
theorem el_xe (k u : List Int) : El (xe k u) := el_lad _ _
theorem xv_length (k u : List Int) : (xv k u).length = 32 := lb_length _ _
theorem xv_bys (k u : List Int) : Bys (xv k u) := lb_bys _ _
theorem el_fe (u : List Int) : El (fe u) := El.mod _

set_option maxRecDepth 100000 in
set_option maxHeartbeats 8000000 in
theorem x_is (k u : List Int) (w : World) (hk : k.length = 32) (bk : Bys k) (hu : u.length = 32) (bu : Bys u) :
    Calls Try.prog 15 #[.agg (vs .u8 k), .agg (vs .u8 u)] w fun e w' => e = .returned (.agg (vs .u8 (xv k u))) ∧ Fr (fun _ => False) w w' := by
  obtain ⟨n, hn⟩ : ∃ n, n = cl k := ⟨_, rfl⟩
  obtain ⟨x, hx⟩ : ∃ x, x = fe u := ⟨_, rfl⟩
  obtain ⟨r, hr⟩ : ∃ r, r = lad n x := ⟨_, rfl⟩
  obtain ⟨R, hR⟩ : ∃ R, R = lb 32 r := ⟨_, rfl⟩
  have nl : n.length = 32 := by rw [hn, cl_length, hk]
  have C0 : ∀ W, Calls Try.prog 13 #[.agg (vs .u8 k)] W fun e w' => e = .returned (.agg (vs .u8 n)) ∧ Fr (fun _ => False) W w' := fun W => by rw [hn]; exact clamp_is k W hk bk
  have C1 : ∀ W, Calls Try.prog 22 #[.agg (vs .u8 u)] W fun e w' => e = .returned (.agg (ec x)) ∧ Fr (fun _ => False) W w' := fun W => by rw [hx]; exact from_el u W hu bu
  have C2 : ∀ W, Calls Try.prog 29 #[.agg (vs .u8 n), .agg (ec x)] W fun e w' => e = .returned (.agg (ec r)) ∧ Fr (fun _ => False) W w' := fun W => by rw [hr]; exact ladder_is n x W nl (by rw [hn]; exact cl_bys hk bk) (by rw [hx]; exact el_fe u)
  have C3 : ∀ W, Calls Try.prog 23 #[.agg (ec r)] W fun e w' => e = .returned (.agg (vs .u8 R)) ∧ Fr (fun _ => False) W w' := fun W => by rw [hR]; exact ebytes_is r W (by rw [hr]; exact el_lad _ _)
  have HRR : Hid (R = xv k u) := by show _ = _; rw [hR, hr, hn, hx]; rfl
  obtain ⟨Z, hZ⟩ : ∃ Z, Z = List.replicate 32 (0 : Int) := ⟨_, rfl⟩
  have zk : ∀ W : World, (zeroValue 23).run Try.prog W = .ok (.agg (vs .u8 Z)) W := fun W => by rw [hZ]; exact key_zero W
  have HN : Hid (∀ l : List Int, (l = k ∨ l = u ∨ l = R ∨ l = Z) → l.length = 32) := by
    rintro l (rfl | rfl | rfl | rfl)
    · exact hk
    · exact hu
    · rw [hR, lb_length]
    · rw [hZ]; rfl
  clear hk bk hu bu hn hx hr hR nl hZ
  go_enter Try.func15, Try.ntmps15
  go_upto_region 1 with (fail)
  generalize hW : ((w.alloc (.cells (vs .u8 k) 23)).alloc (.cells (vs .u8 u) 23)).alloc (.cells (vs .u8 Z) 23) = W0
  have HW := Lib.hid (calm3 hW)
  have X0 := Lib.hid HW.out.1
  have X1 := Lib.hid HW.out.2.1
  have X2 := Lib.hid HW.out.2.2.1
  have F0 : Hid (Fr (fun i => i = w.heap.size + 1 + 1) w W0) := HW.out.2.2.2.any
  clear hW HW zk
  refine wp_region_inv2 (fun b a w' => Fr (fun i => i = w.heap.size + 1 + 1) W0 w' ∧ w'.heap[w.heap.size + 1 + 1]? = some (.cells (if b 6 = true then vs .u8 R else vs .u8 Z) 23 (0, 0)) ∧ a = ⟨#[.agg (vs .u8 k), .agg (vs .u8 u), .pointer (some ⟨w.heap.size, 0, none⟩), .pointer (some ⟨w.heap.size + 1, 0, none⟩), .pointer (some ⟨w.heap.size + 1 + 1, 0, none⟩), if b 0 = true then .agg (vs .u8 k) else undef, if b 1 = true then .agg (vs .u8 n) else undef, if b 2 = true then .agg (vs .u8 u) else undef, if b 3 = true then .agg (ec x) else undef, if b 4 = true then .agg (ec r) else undef, if b 5 = true then .agg (vs .u8 R) else undef], []⟩) (by kernel_rfl) (by kernel_rfl) ?start1 ?step1 ?done1
  case start1 => exact ⟨⟨rfl, rfl, rfl, Nat.le_refl _, fun _ _ _ => rfl⟩, by simp only [Bool.false_eq_true, if_false]; exact X2.out, by simp⟩
  case step1 =>
    intro i o b a w1 ho hI hb hr hc
    obtain ⟨hF, hR0, rfl⟩ := hI
    match i, ho with
    | 0, ho =>
      injection ho with ho
      subst ho
      refine wp_quiet_here _ (quiet_load 23 (.tmp 2) rfl (w.heap.size) rfl 23 _ (0, 0) _ (fun _ h => (Fr.block h _ (Nat.lt_of_lt_of_le (heap_lt X0.out) hF.size) (fun x => x)).trans ((hF.block _ (heap_lt X0.out) (by show ¬ _; omega)).trans X0.out)) Try.underlying23 rfl (key_info (HN.out _ (.inl rfl))) rfl) (fun w2 hw2 => ?_)
      refine ⟨hF.trans hw2.any, ?_, ?_⟩
      · have hh := (hw2.block _ (heap_lt hR0) (fun x => x)).trans hR0
        simpa [upd] using hh
      · simp [upd, Act.put]
    | 1, ho =>
      injection ho with ho
      subst ho
      simp [Region.binds] at hr
      have d0 : b 0 = true := by simp only [hr]
      simp only [hr, if_true]
      refine wp_quiet_here (.agg (vs .u8 n)) ?_ (fun w2 hw2 => ?_)
      · go_big_quiet_op
        exact ⟨_, Calm.calls C0, by simp [Act.put]⟩
      refine ⟨hF.trans hw2.any, ?_, ?_⟩
      · have hh := (hw2.block _ (heap_lt hR0) (fun x => x)).trans hR0
        simpa [upd] using hh
      · simp [upd, Act.put, hr]
    | 2, ho =>
      injection ho with ho
      subst ho
      refine wp_quiet_here _ (quiet_load 23 (.tmp 3) rfl (w.heap.size + 1) rfl 23 _ (0, 0) _ (fun _ h => (Fr.block h _ (Nat.lt_of_lt_of_le (heap_lt X1.out) hF.size) (fun x => x)).trans ((hF.block _ (heap_lt X1.out) (by show ¬ _; omega)).trans X1.out)) Try.underlying23 rfl (key_info (HN.out _ (.inr (.inl rfl)))) rfl) (fun w2 hw2 => ?_)
      refine ⟨hF.trans hw2.any, ?_, ?_⟩
      · have hh := (hw2.block _ (heap_lt hR0) (fun x => x)).trans hR0
        simpa [upd] using hh
      · simp [upd, Act.put]
    | 3, ho =>
      injection ho with ho
      subst ho
      simp [Region.binds] at hr
      have d2 : b 2 = true := by simp only [hr]
      simp only [hr, if_true]
      refine wp_quiet_here (.agg (ec x)) ?_ (fun w2 hw2 => ?_)
      · go_big_quiet_op
        exact ⟨_, Calm.calls C1, by simp [Act.put]⟩
      refine ⟨hF.trans hw2.any, ?_, ?_⟩
      · have hh := (hw2.block _ (heap_lt hR0) (fun x => x)).trans hR0
        simpa [upd] using hh
      · simp [upd, Act.put, hr]
    | 4, ho =>
      injection ho with ho
      subst ho
      simp [Region.binds] at hr
      have d1 : b 1 = true := by simp only [hr]
      have d3 : b 3 = true := by simp only [hr]
      simp only [hr, if_true]
      refine wp_quiet_here (.agg (ec r)) ?_ (fun w2 hw2 => ?_)
      · go_big_quiet_op
        exact ⟨_, Calm.calls C2, by simp [Act.put]⟩
      refine ⟨hF.trans hw2.any, ?_, ?_⟩
      · have hh := (hw2.block _ (heap_lt hR0) (fun x => x)).trans hR0
        simpa [upd] using hh
      · simp [upd, Act.put, hr]
    | 5, ho =>
      injection ho with ho
      subst ho
      simp [Region.binds] at hr
      have d4 : b 4 = true := by simp only [hr]
      simp only [hr, if_true]
      refine wp_quiet_here (.agg (vs .u8 R)) ?_ (fun w2 hw2 => ?_)
      · go_big_quiet_op
        exact ⟨_, Calm.calls C3, by simp [Act.put]⟩
      refine ⟨hF.trans hw2.any, ?_, ?_⟩
      · have hh := (hw2.block _ (heap_lt hR0) (fun x => x)).trans hR0
        simpa [upd] using hh
      · simp [upd, Act.put, hr]
    | 6, ho =>
      injection ho with ho
      subst ho
      simp [Region.binds] at hr
      have d5 : b 5 = true := by simp only [hr]
      simp only [hr, if_true]
      have k2 := hR0
      rw [hb] at k2
      simp only [Bool.false_eq_true, if_false] at k2
      refine wp_store_row 23 (.tmp 4) (.tmp 10) rfl (w.heap.size + 1 + 1) (vs .u8 R) rfl rfl 23 _ k2 (key_info (HN.out _ (.inr (.inr (.inl rfl))))) (by rw [vs_size, vs_size, HN.out _ (.inr (.inr (.inr rfl))), HN.out _ (.inr (.inr (.inl rfl)))]) (vs_all _ _) ?_
      refine ⟨hF.setRow _ (.inl (by simp)), ?_, ?_⟩
      · refine (setRow_heap _ _ _ _ _ _ hR0).trans ?_
        simp [upd]
      · simp [upd, Act.put, hr]
    | j + 7, ho => exact absurd ho (by simp)
  intro b a W2 hall hI
  obtain ⟨hF, hR0, rfl⟩ := hI
  have t0 : b 0 = true := hall 0 (by simp)
  have t1 : b 1 = true := hall 1 (by simp)
  have t2 : b 2 = true := hall 2 (by simp)
  have t3 : b 3 = true := hall 3 (by simp)
  have t4 : b 4 = true := hall 4 (by simp)
  have t5 : b 5 = true := hall 5 (by simp)
  have t6 : b 6 = true := hall 6 (by simp)
  simp only [t0, t1, t2, t3, t4, t5, t6, if_true, true_implies] at hR0 ⊢
  have F2 : Hid (Fr (fun i => i = w.heap.size + 1 + 1) w W2) := F0.out.trans hF
  have X2_0 := Lib.hid ((hF.block _ (heap_lt X0.out) (by show ¬ _; omega)).trans X0.out)
  have X2_1 := Lib.hid ((hF.block _ (heap_lt X1.out) (by show ¬ _; omega)).trans X1.out)
  have X2_2 := Lib.hid hR0
  clear hall hF hR0 t0 t1 t2 t3 t4 t5 t6 F0
  go_wp2
  refine bodyPost_ret (results_cell_row Try.results15 _ _ _ 23 _ (0, 0) _ rfl X2_2.out Try.underlying23 rfl (key_info (HN.out _ (.inr (.inr (.inl rfl)))))) rfl ⟨?_, F2.out.weaken fun i hi hs => ?_⟩
  · rw [HRR.out]
  · omega

def nine : List Int := 9 :: List.replicate 31 0
def pub (k : List Int) : List Int := xv k nine
set_option maxRecDepth 100000 in
set_option maxHeartbeats 8000000 in
theorem public_is (k : List Int) (w : World) (hk : k.length = 32) (bk : Bys k) :
    Calls Try.prog 17 #[.agg (vs .u8 k)] w fun e w' => e = .returned (.agg (vs .u8 (pub k))) ∧ Fr (fun _ => False) w w' := by
  obtain ⟨R, hR⟩ : ∃ R, R = pub k := ⟨_, rfl⟩
  obtain ⟨B, hB⟩ : ∃ B, B = nine := ⟨_, rfl⟩
  have C0 : ∀ W, Calls Try.prog 15 #[.agg (vs .u8 k), .agg (vs .u8 B)] W fun e w' => e = .returned (.agg (vs .u8 R)) ∧ Fr (fun _ => False) W w' := fun W => by rw [hR, hB]; exact x_is k nine W hk bk rfl (by unfold Bys; decide)
  have HRR : Hid (R = pub k) := hR
  have HB : Hid (B = nine) := hB
  obtain ⟨Z, hZ⟩ : ∃ Z, Z = List.replicate 32 (0 : Int) := ⟨_, rfl⟩
  have zk : ∀ W : World, (zeroValue 23).run Try.prog W = .ok (.agg (vs .u8 Z)) W := fun W => by rw [hZ]; exact key_zero W
  have HN : Hid (∀ l : List Int, (l = k ∨ l = R ∨ l = Z) → l.length = 32) := by
    rintro l (rfl | rfl | rfl)
    · exact hk
    · rw [hR, pub, xv_length]
    · rw [hZ]; rfl
  clear hk bk hR hZ hB
  go_enter Try.func17, Try.ntmps17
  go_upto_region 1 with (fail)
  generalize hW : (w.alloc (.cells (vs .u8 k) 23)).alloc (.cells (vs .u8 Z) 23) = W0
  have HW := Lib.hid (calm2 hW)
  have X0 := Lib.hid HW.out.1
  have X1 := Lib.hid HW.out.2.1
  have F0 : Hid (Fr (fun i => i = w.heap.size + 1) w W0) := HW.out.2.2.any
  clear hW HW zk
  refine wp_region_seq (fun b a w' => Fr (fun i => i = w.heap.size + 1) W0 w' ∧ w'.heap[w.heap.size + 1]? = some (.cells (if b 3 = true then vs .u8 R else vs .u8 Z) 23 (0, 0)) ∧ a = ⟨#[.agg (vs .u8 k), .pointer (some ⟨w.heap.size, 0, none⟩), .pointer (some ⟨w.heap.size + 1, 0, none⟩), if b 0 = true then .agg (vs .u8 k) else undef, if b 1 = true then .agg (vs .u8 B) else undef, if b 2 = true then .agg (vs .u8 R) else undef], []⟩) (by kernel_rfl) ?start1 ?step1 ?done1
  case start1 => exact ⟨Fr.refl _ _, by simp only [Bool.false_eq_true, if_false]; exact X1.out, by simp⟩
  case step1 =>
    intro i o b a w1 ho hI hb hr
    obtain ⟨hF, hR0, rfl⟩ := hI
    match i, ho with
    | 0, ho =>
      injection ho with ho
      subst ho
      refine wp_quiet_here _ (quiet_load 23 (.tmp 1) rfl (w.heap.size) rfl 23 _ (0, 0) _ (fun _ h => (Fr.block h _ (Nat.lt_of_lt_of_le (heap_lt X0.out) hF.size) (fun x => x)).trans ((hF.block _ (heap_lt X0.out) (by show ¬ _; omega)).trans X0.out)) Try.underlying23 rfl (key_info (HN.out _ (.inl rfl))) rfl) (fun w2 hw2 => ?_)
      refine ⟨hF.trans hw2.any, ?_, ?_⟩
      · have hh := (hw2.block _ (heap_lt hR0) (fun x => x)).trans hR0
        simpa [upd] using hh
      · simp [upd, Act.put]
    | 1, ho =>
      injection ho with ho
      subst ho
      have d0 : b 0 = true := hr 0 (by decide)
      simp only [d0, if_true]
      refine wp_quiet_here (.agg (vs .u8 B)) (quiet_run _ (fun _ _ => by rw [HB.out]; kernel_rfl) rfl) (fun w2 hw2 => ?_)
      refine ⟨hF.trans hw2.any, ?_, ?_⟩
      · have hh := (hw2.block _ (heap_lt hR0) (fun x => x)).trans hR0
        simpa [upd] using hh
      · simp [upd, Act.put, d0]
    | 2, ho =>
      injection ho with ho
      subst ho
      have d0 : b 0 = true := hr 0 (by decide)
      have d1 : b 1 = true := hr 1 (by decide)
      simp only [d0, d1, if_true]
      refine wp_quiet_here (.agg (vs .u8 R)) ?_ (fun w2 hw2 => ?_)
      · go_big_quiet_op
        exact ⟨_, Calm.calls C0, by simp [Act.put]⟩
      refine ⟨hF.trans hw2.any, ?_, ?_⟩
      · have hh := (hw2.block _ (heap_lt hR0) (fun x => x)).trans hR0
        simpa [upd] using hh
      · simp [upd, Act.put, d0, d1]
    | 3, ho =>
      injection ho with ho
      subst ho
      have d0 : b 0 = true := hr 0 (by decide)
      have d1 : b 1 = true := hr 1 (by decide)
      have d2 : b 2 = true := hr 2 (by decide)
      simp only [d0, d1, d2, if_true]
      have k2 := hR0
      rw [hb] at k2
      simp only [Bool.false_eq_true, if_false] at k2
      refine wp_store_row 23 (.tmp 2) (.tmp 5) rfl (w.heap.size + 1) (vs .u8 R) rfl rfl 23 _ k2 (key_info (HN.out _ (.inr (.inl rfl)))) (by rw [vs_size, vs_size, HN.out _ (.inr (.inr rfl)), HN.out _ (.inr (.inl rfl))]) (vs_all _ _) ?_
      refine ⟨hF.setRow _ (.inl (by simp)), ?_, ?_⟩
      · refine (setRow_heap _ _ _ _ _ _ hR0).trans ?_
        simp [upd]
      · simp [upd, Act.put, d0, d1, d2]
    | j + 4, ho => exact absurd ho (by simp)
  intro b a W2 hall hI
  obtain ⟨hF, hR0, rfl⟩ := hI
  have t0 : b 0 = true := hall 0 (by simp)
  have t1 : b 1 = true := hall 1 (by simp)
  have t2 : b 2 = true := hall 2 (by simp)
  have t3 : b 3 = true := hall 3 (by simp)
  simp only [t0, t1, t2, t3, if_true, true_implies] at hR0 ⊢
  have F2 : Hid (Fr (fun i => i = w.heap.size + 1) w W2) := F0.out.trans hF
  have X2_0 := Lib.hid ((hF.block _ (heap_lt X0.out) (by show ¬ _; omega)).trans X0.out)
  have X2_1 := Lib.hid hR0
  clear hall hF hR0 t0 t1 t2 t3 F0
  go_wp2
  refine bodyPost_ret (results_cell_row Try.results17 _ _ _ 23 _ (0, 0) _ rfl X2_1.out Try.underlying23 rfl (key_info (HN.out _ (.inr (.inl rfl))))) rfl ⟨?_, F2.out.weaken fun i hi hs => ?_⟩
  · rw [HRR.out]
  · omega
end Go.Proofs.Ytbkbodcncjhcmaa
