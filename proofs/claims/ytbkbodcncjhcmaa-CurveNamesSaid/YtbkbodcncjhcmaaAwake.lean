/- The law's helpers alice, bob, awake: contracts; the ladder's numbers reckoned. No condition. -/
import Derived.Test.YtbkbodcncjhcmaaHex
import Derived.Test.YtbkbodcncjhcmaaOrd
namespace Go.Proofs.Ytbkbodcncjhcmaa
set_option linter.unusedSimpArgs false
set_option linter.unusedVariables false
open Go.RowKit

/-- The ladder's answer, in numbers that can be reckoned. -/
def evl (l : List Int) (x : Int) : Int :=
  let t := swp (bt l 255) (ld l x 255)
  t.a * ((pm 256 t.b.toNat 57896044618658097711785492504343953926634992332820282019728792003956564819947 57896044618658097711785492504343953926634992332820282019728792003956564819949 : Nat) : Int) % 57896044618658097711785492504343953926634992332820282019728792003956564819949
theorem vi_ev {u : Int} (h : El u) : vi u = ((pm 256 u.toNat 57896044618658097711785492504343953926634992332820282019728792003956564819947 57896044618658097711785492504343953926634992332820282019728792003956564819949 : Nat) : Int) := by
  obtain ⟨n, rfl⟩ := Int.eq_ofNat_of_zero_le h.1
  have e : ex 0 = qq := by decide
  have hq : pm 256 n 57896044618658097711785492504343953926634992332820282019728792003956564819947 57896044618658097711785492504343953926634992332820282019728792003956564819949 = n ^ qq % 57896044618658097711785492504343953926634992332820282019728792003956564819949 := pm_ok 256 n qq 57896044618658097711785492504343953926634992332820282019728792003956564819949 (by decide)
  have hn : ((n : Int)).toNat = n := by omega
  rw [hn, hq]
  unfold vi pwr pp
  rw [e]
  generalize qq = m
  simp
theorem lad_ev (l : List Int) {x : Int} (h : El x) : lad l x = evl l x := by
  unfold lad evl Fm
  rw [vi_ev ((ld_els l h 255).swp _).b]
  rfl
def xev (k u : List Int) : List Int := lb 32 (evl (cl k) (fe u))
theorem xv_ev (k u : List Int) : xv k u = xev k u := by
  unfold xv xe xev
  rw [lad_ev _ (el_fe u)]

def aliceK : List Int := [119, 7, 109, 10, 115, 24, 165, 125, 60, 22, 193, 114, 81, 178, 102, 69, 223, 76, 47, 135, 235, 192, 153, 42, 177, 119, 251, 165, 29, 185, 44, 42]
def bobK : List Int := [93, 171, 8, 126, 98, 74, 138, 75, 121, 225, 127, 139, 131, 128, 14, 230, 111, 59, 177, 41, 38, 24, 182, 253, 28, 47, 139, 39, 255, 136, 224, 235]
def pubA : List Int := [133, 32, 240, 9, 137, 48, 167, 84, 116, 139, 125, 220, 180, 62, 247, 90, 13, 191, 58, 13, 38, 56, 26, 244, 235, 164, 169, 142, 170, 155, 78, 106]
def pubB : List Int := [222, 158, 219, 125, 123, 125, 193, 180, 211, 91, 97, 194, 236, 228, 53, 55, 63, 131, 67, 200, 91, 120, 103, 77, 173, 252, 126, 20, 111, 136, 43, 79]
def shared : List Int := [74, 93, 157, 91, 164, 206, 45, 225, 114, 142, 59, 244, 128, 53, 15, 37, 224, 126, 33, 201, 71, 209, 158, 51, 118, 240, 155, 60, 30, 22, 23, 66]
theorem pub_alice : pub aliceK = pubA := by
  rw [pub, xv_ev]
  decide +kernel
theorem pub_bob : pub bobK = pubB := by
  rw [pub, xv_ev]
  decide +kernel
theorem xv_shared : xv aliceK pubB = shared := by
  rw [xv_ev]
  decide +kernel
theorem shared_ne : shared ≠ List.replicate 32 0 := by decide
theorem bys_a : Bys aliceK := by unfold Bys; decide
theorem bys_b : Bys bobK := by unfold Bys; decide
theorem bys_pa : Bys pubA := by unfold Bys; decide
theorem bys_pb : Bys pubB := by unfold Bys; decide
theorem bys_sh : Bys shared := by unfold Bys; decide
theorem hx_pub : hx pubA = { data := #[56, 53, 50, 48, 102, 48, 48, 57, 56, 57, 51, 48, 97, 55, 53, 52, 55, 52, 56, 98, 55, 100, 100, 99, 98, 52, 51, 101, 102, 55, 53, 97, 48, 100, 98, 102, 51, 97, 48, 100, 50, 54, 51, 56, 49, 97, 102, 52, 101, 98, 97, 52, 97, 57, 56, 101, 97, 97, 57, 98, 52, 101, 54, 97] } := by decide +kernel
theorem hx_shared : hx shared = { data := #[52, 97, 53, 100, 57, 100, 53, 98, 97, 52, 99, 101, 50, 100, 101, 49, 55, 50, 56, 101, 51, 98, 102, 52, 56, 48, 51, 53, 48, 102, 50, 53, 101, 48, 55, 101, 50, 49, 99, 57, 52, 55, 100, 49, 57, 101, 51, 51, 55, 54, 102, 48, 57, 98, 51, 99, 49, 101, 49, 54, 49, 55, 52, 50] } := by decide +kernel

set_option maxRecDepth 100000 in
set_option maxHeartbeats 2000000 in
theorem alice_is (w : World) : Calls Try.prog 27 #[] w fun e w' => e = .returned (.agg (vs .u8 aliceK)) ∧ Fr (fun _ => False) w w' := by
  obtain ⟨A, hA⟩ : ∃ A, A = aliceK := ⟨_, rfl⟩
  have HA : Hid (A = aliceK) := hA
  have k_A : Hid (A.length = 32) := by show _ = _; rw [hA]; rfl
  obtain ⟨ZK, hZK⟩ : ∃ Z, Z = List.replicate 32 (0 : Int) := ⟨_, rfl⟩
  have zkk : ∀ W : World, (zeroValue 23).run Try.prog W = .ok (.agg (vs .u8 ZK)) W := fun W => by rw [hZK]; exact key_zero W
  have k_ZK : Hid (ZK.length = 32) := by show _ = _; rw [hZK]; rfl
  rw [← hA]
  clear hZK hA
  go_enter Try.func27, Try.ntmps27
  go_upto_region 1 with (fail)
  generalize hW : w.alloc (.cells (vs .u8 ZK) 23) = W0
  have HW := Lib.hid (calm1a hW)
  have X0 := Lib.hid HW.out.1
  have F0 : Hid (Fr (fun i => i = w.heap.size) w W0) := HW.out.2.any
  clear hW HW
  refine wp_region_seq (fun b a w' => Fr (fun i => i = w.heap.size) W0 w' ∧ w'.heap[w.heap.size]? = some (.cells (if b 1 = true then vs .u8 A else vs .u8 ZK) 23 (0, 0)) ∧ a = ⟨#[.pointer (some ⟨w.heap.size, 0, none⟩), if b 0 = true then .agg (vs .u8 A) else undef], []⟩) (by kernel_rfl) ?start1 ?step1 ?done1
  case start1 => exact ⟨Fr.refl _ _, by simp only [Bool.false_eq_true, if_false]; exact X0.out, by simp⟩
  case step1 =>
    intro i o b a w1 ho hI hb hr
    obtain ⟨hF, hR0, rfl⟩ := hI
    match i, ho with
    | 0, ho =>
      injection ho with ho
      subst ho
      refine wp_quiet_here (.agg (vs .u8 A)) (quiet_run _ (fun _ _ => by rw [HA.out]; kernel_rfl) rfl) (fun w2 hw2 => ?_)
      refine ⟨hF.trans hw2.any, ?_, ?_⟩
      · have hh := (hw2.block _ (heap_lt hR0) (fun x => x)).trans hR0
        simpa [upd] using hh
      · simp [upd, Act.put]
    | 1, ho =>
      injection ho with ho
      subst ho
      have d0 : b 0 = true := hr 0 (by decide)
      simp only [d0, if_true]
      have k2 := hR0
      rw [hb] at k2
      simp only [Bool.false_eq_true, if_false] at k2
      refine wp_store_row 23 (.tmp 0) (.tmp 1) rfl (w.heap.size) (vs .u8 A) rfl rfl 23 _ k2 (key_info k_A.out) (by rw [vs_size, vs_size, k_ZK.out, k_A.out]) (vs_all _ _) ?_
      refine ⟨hF.setRow _ (.inl (by simp)), ?_, ?_⟩
      · refine (setRow_heap _ _ _ _ _ _ hR0).trans ?_
        simp [upd]
      · simp [upd, Act.put, d0]
    | j + 2, ho => exact absurd ho (by simp)
  intro b a W2 hall hI
  obtain ⟨hF, hR0, rfl⟩ := hI
  have t0 : b 0 = true := hall 0 (by simp)
  have t1 : b 1 = true := hall 1 (by simp)
  simp only [t0, t1, if_true, true_implies] at hR0 ⊢
  have F2 : Hid (Fr (fun i => i = w.heap.size) w W2) := F0.out.trans hF
  have X2_0 := Lib.hid hR0
  clear hall hF hR0 t0 t1 F0
  go_wp2
  refine bodyPost_ret (results_cell_row Try.results27 _ _ _ 23 _ (0, 0) _ rfl X2_0.out Try.underlying23 rfl (key_info k_A.out)) rfl ⟨rfl, F2.out.weaken fun i hi hs => ?_⟩
  omega

set_option maxRecDepth 100000 in
set_option maxHeartbeats 2000000 in
theorem bob_is (w : World) : Calls Try.prog 28 #[] w fun e w' => e = .returned (.agg (vs .u8 bobK)) ∧ Fr (fun _ => False) w w' := by
  obtain ⟨A, hA⟩ : ∃ A, A = bobK := ⟨_, rfl⟩
  have HA : Hid (A = bobK) := hA
  have k_A : Hid (A.length = 32) := by show _ = _; rw [hA]; rfl
  obtain ⟨ZK, hZK⟩ : ∃ Z, Z = List.replicate 32 (0 : Int) := ⟨_, rfl⟩
  have zkk : ∀ W : World, (zeroValue 23).run Try.prog W = .ok (.agg (vs .u8 ZK)) W := fun W => by rw [hZK]; exact key_zero W
  have k_ZK : Hid (ZK.length = 32) := by show _ = _; rw [hZK]; rfl
  rw [← hA]
  clear hZK hA
  go_enter Try.func28, Try.ntmps28
  go_upto_region 1 with (fail)
  generalize hW : w.alloc (.cells (vs .u8 ZK) 23) = W0
  have HW := Lib.hid (calm1a hW)
  have X0 := Lib.hid HW.out.1
  have F0 : Hid (Fr (fun i => i = w.heap.size) w W0) := HW.out.2.any
  clear hW HW
  refine wp_region_seq (fun b a w' => Fr (fun i => i = w.heap.size) W0 w' ∧ w'.heap[w.heap.size]? = some (.cells (if b 1 = true then vs .u8 A else vs .u8 ZK) 23 (0, 0)) ∧ a = ⟨#[.pointer (some ⟨w.heap.size, 0, none⟩), if b 0 = true then .agg (vs .u8 A) else undef], []⟩) (by kernel_rfl) ?start1 ?step1 ?done1
  case start1 => exact ⟨Fr.refl _ _, by simp only [Bool.false_eq_true, if_false]; exact X0.out, by simp⟩
  case step1 =>
    intro i o b a w1 ho hI hb hr
    obtain ⟨hF, hR0, rfl⟩ := hI
    match i, ho with
    | 0, ho =>
      injection ho with ho
      subst ho
      refine wp_quiet_here (.agg (vs .u8 A)) (quiet_run _ (fun _ _ => by rw [HA.out]; kernel_rfl) rfl) (fun w2 hw2 => ?_)
      refine ⟨hF.trans hw2.any, ?_, ?_⟩
      · have hh := (hw2.block _ (heap_lt hR0) (fun x => x)).trans hR0
        simpa [upd] using hh
      · simp [upd, Act.put]
    | 1, ho =>
      injection ho with ho
      subst ho
      have d0 : b 0 = true := hr 0 (by decide)
      simp only [d0, if_true]
      have k2 := hR0
      rw [hb] at k2
      simp only [Bool.false_eq_true, if_false] at k2
      refine wp_store_row 23 (.tmp 0) (.tmp 1) rfl (w.heap.size) (vs .u8 A) rfl rfl 23 _ k2 (key_info k_A.out) (by rw [vs_size, vs_size, k_ZK.out, k_A.out]) (vs_all _ _) ?_
      refine ⟨hF.setRow _ (.inl (by simp)), ?_, ?_⟩
      · refine (setRow_heap _ _ _ _ _ _ hR0).trans ?_
        simp [upd]
      · simp [upd, Act.put, d0]
    | j + 2, ho => exact absurd ho (by simp)
  intro b a W2 hall hI
  obtain ⟨hF, hR0, rfl⟩ := hI
  have t0 : b 0 = true := hall 0 (by simp)
  have t1 : b 1 = true := hall 1 (by simp)
  simp only [t0, t1, if_true, true_implies] at hR0 ⊢
  have F2 : Hid (Fr (fun i => i = w.heap.size) w W2) := F0.out.trans hF
  have X2_0 := Lib.hid hR0
  clear hall hF hR0 t0 t1 F0
  go_wp2
  refine bodyPost_ret (results_cell_row Try.results28 _ _ _ 23 _ (0, 0) _ rfl X2_0.out Try.underlying23 rfl (key_info k_A.out)) rfl ⟨rfl, F2.out.weaken fun i hi hs => ?_⟩
  omega

set_option maxRecDepth 100000 in
set_option maxHeartbeats 4000000 in
theorem awake_is (w : World) : Calls Try.prog 21 #[] w fun e w' => e = .returned (.bool true) ∧ Fr (fun _ => False) w w' := by
  have CA := alice_is
  have CB := bob_is
  have CP : ∀ W, Calls Try.prog 17 #[.agg (vs .u8 bobK)] W fun e w' => e = .returned (.agg (vs .u8 pubB)) ∧ Fr (fun _ => False) W w' := fun W => by rw [← pub_bob]; exact public_is bobK W rfl bys_b
  have CQ : ∀ W, Calls Try.prog 17 #[.agg (vs .u8 aliceK)] W fun e w' => e = .returned (.agg (vs .u8 pubA)) ∧ Fr (fun _ => False) W w' := fun W => by rw [← pub_alice]; exact public_is aliceK W rfl bys_a
  have CS : ∀ W, Calls Try.prog 19 #[.agg (vs .u8 aliceK), .agg (vs .u8 pubB)] W fun e w' => e = .returned (.tuple #[.agg (vs .u8 shared), .int .i64 0]) ∧ Fr (fun _ => False) W w' := fun W => by
    rw [← xv_shared]
    exact share_yes aliceK pubB W rfl bys_a rfl bys_pb (by rw [xv_shared]; exact shared_ne)
  have CH1 : ∀ W, Calls Try.prog 26 #[.agg (vs .u8 pubA)] W fun e w' => e = .returned (.string { data := #[56, 53, 50, 48, 102, 48, 48, 57, 56, 57, 51, 48, 97, 55, 53, 52, 55, 52, 56, 98, 55, 100, 100, 99, 98, 52, 51, 101, 102, 55, 53, 97, 48, 100, 98, 102, 51, 97, 48, 100, 50, 54, 51, 56, 49, 97, 102, 52, 101, 98, 97, 52, 97, 57, 56, 101, 97, 97, 57, 98, 52, 101, 54, 97] }) ∧ Fr (fun _ => False) W w' := fun W => by rw [← hx_pub]; exact hex_is pubA W rfl bys_pa
  have CH2 : ∀ W, Calls Try.prog 26 #[.agg (vs .u8 shared)] W fun e w' => e = .returned (.string { data := #[52, 97, 53, 100, 57, 100, 53, 98, 97, 52, 99, 101, 50, 100, 101, 49, 55, 50, 56, 101, 51, 98, 102, 52, 56, 48, 51, 53, 48, 102, 50, 53, 101, 48, 55, 101, 50, 49, 99, 57, 52, 55, 100, 49, 57, 101, 51, 51, 55, 54, 102, 48, 57, 98, 51, 99, 49, 101, 49, 54, 49, 55, 52, 50] }) ∧ Fr (fun _ => False) W w' := fun W => by rw [← hx_shared]; exact hex_is shared W rfl bys_sh
  have k_shared : Hid (shared.length = 32) := rfl
  obtain ⟨ZK, hZK⟩ : ∃ Z, Z = List.replicate 32 (0 : Int) := ⟨_, rfl⟩
  have zkk : ∀ W : World, (zeroValue 23).run Try.prog W = .ok (.agg (vs .u8 ZK)) W := fun W => by rw [hZK]; exact key_zero W
  have k_ZK : Hid (ZK.length = 32) := by show _ = _; rw [hZK]; rfl
  clear hZK
  have F0 : Hid (Fr (fun _ => False) w w) := Fr.refl _ _
  go_enter Try.func21, Try.ntmps21
  go_upto_region 1 with (fail)
  refine wp_region_seq (fun b a w' => ∃ g1 : Nat, Fr (fun _ => False) w w' ∧ (b 7 = true → w.heap.size ≤ g1 ∧ w'.heap[g1]? = some (.cells (if b 8 = true then vs .u8 shared else vs .u8 ZK) 23 (0, 0))) ∧ (b 8 = true → b 7 = true) ∧ a = ⟨#[.bool false, if b 7 = true then .pointer (some ⟨g1, 0, none⟩) else undef, if b 9 = true then .int .i64 0 else undef, if b 4 = true then .tuple #[.agg (vs .u8 shared), .int .i64 0] else undef, if b 0 = true then .agg (vs .u8 aliceK) else undef, if b 1 = true then .agg (vs .u8 bobK) else undef, if b 2 = true then .agg (vs .u8 pubB) else undef, if b 3 = true then .tuple #[.agg (vs .u8 shared), .int .i64 0] else undef, if b 5 = true then .agg (vs .u8 shared) else undef, if b 6 = true then .int .i64 0 else undef, undef, undef, undef, undef, undef, undef, undef, undef, undef, undef, undef, undef, undef], []⟩) (by kernel_rfl) ?start1 ?step1 ?done1
  case start1 => exact ⟨0, Fr.refl _ _, by simp, by simp, by simp⟩
  case step1 =>
    intro i o b a w1 ho hI hb hr
    obtain ⟨g1, hF, h7, hq7, rfl⟩ := hI
    match i, ho with
    | 0, ho =>
      injection ho with ho
      subst ho
      refine wp_quiet_here (.agg (vs .u8 aliceK)) ?_ (fun w2 hw2 => ?_)
      · simp only [Bool.false_eq_true] 
        go_big_quiet_op
        exact ⟨_, Calm.calls CA, by simp [Act.put]⟩
      refine ⟨g1, hF.trans hw2, ?_, ?_, ?_⟩
      · intro hx
        replace hx : b 7 = true := by simpa [upd] using hx
        obtain ⟨k1', k2⟩ := h7 hx
        refine ⟨k1', (hw2.block _ (heap_lt k2) (fun x => x)).trans ?_⟩
        rw [k2]
        simp [upd]
      · simpa [upd] using hq7
      · simp [upd, Act.put]
    | 1, ho =>
      injection ho with ho
      subst ho
      have d0 : b 0 = true := hr 0 (by decide)
      simp only [d0, if_true]
      refine wp_quiet_here (.agg (vs .u8 bobK)) ?_ (fun w2 hw2 => ?_)
      · go_big_quiet_op
        exact ⟨_, Calm.calls CB, by simp [Act.put]⟩
      refine ⟨g1, hF.trans hw2, ?_, ?_, ?_⟩
      · intro hx
        replace hx : b 7 = true := by simpa [upd] using hx
        obtain ⟨k1', k2⟩ := h7 hx
        refine ⟨k1', (hw2.block _ (heap_lt k2) (fun x => x)).trans ?_⟩
        rw [k2]
        simp [upd]
      · simpa [upd] using hq7
      · simp [upd, Act.put, d0]
    | 2, ho =>
      injection ho with ho
      subst ho
      have d0 : b 0 = true := hr 0 (by decide)
      have d1 : b 1 = true := hr 1 (by decide)
      simp only [d0, d1, if_true]
      refine wp_quiet_here (.agg (vs .u8 pubB)) ?_ (fun w2 hw2 => ?_)
      · go_big_quiet_op
        exact ⟨_, Calm.calls CP, by simp [Act.put]⟩
      refine ⟨g1, hF.trans hw2, ?_, ?_, ?_⟩
      · intro hx
        replace hx : b 7 = true := by simpa [upd] using hx
        obtain ⟨k1', k2⟩ := h7 hx
        refine ⟨k1', (hw2.block _ (heap_lt k2) (fun x => x)).trans ?_⟩
        rw [k2]
        simp [upd]
      · simpa [upd] using hq7
      · simp [upd, Act.put, d0, d1]
    | 3, ho =>
      injection ho with ho
      subst ho
      have d0 : b 0 = true := hr 0 (by decide)
      have d1 : b 1 = true := hr 1 (by decide)
      have d2 : b 2 = true := hr 2 (by decide)
      simp only [d0, d1, d2, if_true]
      refine wp_quiet_here (.tuple #[.agg (vs .u8 shared), .int .i64 0]) ?_ (fun w2 hw2 => ?_)
      · go_big_quiet_op
        exact ⟨_, Calm.calls CS, by simp [Act.put]⟩
      refine ⟨g1, hF.trans hw2, ?_, ?_, ?_⟩
      · intro hx
        replace hx : b 7 = true := by simpa [upd] using hx
        obtain ⟨k1', k2⟩ := h7 hx
        refine ⟨k1', (hw2.block _ (heap_lt k2) (fun x => x)).trans ?_⟩
        rw [k2]
        simp [upd]
      · simpa [upd] using hq7
      · simp [upd, Act.put, d0, d1, d2]
    | 4, ho =>
      injection ho with ho
      subst ho
      have d0 : b 0 = true := hr 0 (by decide)
      have d1 : b 1 = true := hr 1 (by decide)
      have d2 : b 2 = true := hr 2 (by decide)
      have d3 : b 3 = true := hr 3 (by decide)
      simp only [d0, d1, d2, d3, if_true]
      refine wp_quiet_here (.tuple #[.agg (vs .u8 shared), .int .i64 0]) ?_ (fun w2 hw2 => ?_)
      · go_big_quiet_op
        first
          | (simp [Act.put]; done)
          | exact ⟨_, fun _ _ => rfl, by simp [Act.put]⟩
      refine ⟨g1, hF.trans hw2, ?_, ?_, ?_⟩
      · intro hx
        replace hx : b 7 = true := by simpa [upd] using hx
        obtain ⟨k1', k2⟩ := h7 hx
        refine ⟨k1', (hw2.block _ (heap_lt k2) (fun x => x)).trans ?_⟩
        rw [k2]
        simp [upd]
      · simpa [upd] using hq7
      · simp [upd, Act.put, d0, d1, d2, d3]
    | 5, ho =>
      injection ho with ho
      subst ho
      have d0 : b 0 = true := hr 0 (by decide)
      have d1 : b 1 = true := hr 1 (by decide)
      have d2 : b 2 = true := hr 2 (by decide)
      have d3 : b 3 = true := hr 3 (by decide)
      have d4 : b 4 = true := hr 4 (by decide)
      simp only [d0, d1, d2, d3, d4, if_true]
      refine wp_quiet_here (.agg (vs .u8 shared)) ?_ (fun w2 hw2 => ?_)
      · go_big_quiet_op
        first
          | (simp [Act.put]; done)
          | exact ⟨_, fun _ _ => rfl, by simp [Act.put]⟩
      refine ⟨g1, hF.trans hw2, ?_, ?_, ?_⟩
      · intro hx
        replace hx : b 7 = true := by simpa [upd] using hx
        obtain ⟨k1', k2⟩ := h7 hx
        refine ⟨k1', (hw2.block _ (heap_lt k2) (fun x => x)).trans ?_⟩
        rw [k2]
        simp [upd]
      · simpa [upd] using hq7
      · simp [upd, Act.put, d0, d1, d2, d3, d4]
    | 6, ho =>
      injection ho with ho
      subst ho
      have d0 : b 0 = true := hr 0 (by decide)
      have d1 : b 1 = true := hr 1 (by decide)
      have d2 : b 2 = true := hr 2 (by decide)
      have d3 : b 3 = true := hr 3 (by decide)
      have d4 : b 4 = true := hr 4 (by decide)
      have d5 : b 5 = true := hr 5 (by decide)
      simp only [d0, d1, d2, d3, d4, d5, if_true]
      refine wp_quiet_here (.int .i64 0) ?_ (fun w2 hw2 => ?_)
      · go_big_quiet_op
        first
          | (simp [Act.put]; done)
          | exact ⟨_, fun _ _ => rfl, by simp [Act.put]⟩
      refine ⟨g1, hF.trans hw2, ?_, ?_, ?_⟩
      · intro hx
        replace hx : b 7 = true := by simpa [upd] using hx
        obtain ⟨k1', k2⟩ := h7 hx
        refine ⟨k1', (hw2.block _ (heap_lt k2) (fun x => x)).trans ?_⟩
        rw [k2]
        simp [upd]
      · simpa [upd] using hq7
      · simp [upd, Act.put, d0, d1, d2, d3, d4, d5]
    | 7, ho =>
      injection ho with ho
      subst ho
      have d0 : b 0 = true := hr 0 (by decide)
      have d1 : b 1 = true := hr 1 (by decide)
      have d2 : b 2 = true := hr 2 (by decide)
      have d3 : b 3 = true := hr 3 (by decide)
      have d4 : b 4 = true := hr 4 (by decide)
      have d5 : b 5 = true := hr 5 (by decide)
      have d6 : b 6 = true := hr 6 (by decide)
      simp only [d0, d1, d2, d3, d4, d5, d6, if_true]
      refine wp_alloc_any 23 rfl (vs .u8 ZK) zkk ?_
      refine ⟨w1.heap.size, hF.alloc _, ?_, ?_, ?_⟩
      · intro _
        refine ⟨hF.size, (heap_alloc_new w1 _).trans ?_⟩
        have hs : b 8 = false := by
          rcases hbs : b 8 with _ | _
          · rfl
          · rw [hq7 hbs] at hb
            cases hb
        simp [upd, hs]
      · simp [upd]
      · simp [upd, Act.put, d0, d1, d2, d3, d4, d5, d6]
    | 8, ho =>
      injection ho with ho
      subst ho
      have d0 : b 0 = true := hr 0 (by decide)
      have d1 : b 1 = true := hr 1 (by decide)
      have d2 : b 2 = true := hr 2 (by decide)
      have d3 : b 3 = true := hr 3 (by decide)
      have d4 : b 4 = true := hr 4 (by decide)
      have d5 : b 5 = true := hr 5 (by decide)
      have d6 : b 6 = true := hr 6 (by decide)
      have d7 : b 7 = true := hr 7 (by decide)
      simp only [d0, d1, d2, d3, d4, d5, d6, d7, if_true]
      obtain ⟨k1, k2⟩ := h7 d7
      rw [hb] at k2
      simp only [Bool.false_eq_true, if_false] at k2
      refine wp_store_row 23 (.tmp 1) (.tmp 8) rfl g1 (vs .u8 shared) rfl rfl 23 _ k2 (key_info k_shared.out) (by rw [vs_size, vs_size, k_ZK.out, k_shared.out]) (vs_all _ _) ?_
      refine ⟨g1, hF.setRow _ (.inr k1), ?_, ?_, ?_⟩
      · intro _
        refine ⟨k1, (setRow_heap _ _ _ _ _ _ k2).trans ?_⟩
        simp [upd]
      · simp [upd, d7]
      · simp [upd, Act.put, d0, d1, d2, d3, d4, d5, d6, d7]
    | 9, ho =>
      injection ho with ho
      subst ho
      have d0 : b 0 = true := hr 0 (by decide)
      have d1 : b 1 = true := hr 1 (by decide)
      have d2 : b 2 = true := hr 2 (by decide)
      have d3 : b 3 = true := hr 3 (by decide)
      have d4 : b 4 = true := hr 4 (by decide)
      have d5 : b 5 = true := hr 5 (by decide)
      have d6 : b 6 = true := hr 6 (by decide)
      have d7 : b 7 = true := hr 7 (by decide)
      have d8 : b 8 = true := hr 8 (by decide)
      simp only [d0, d1, d2, d3, d4, d5, d6, d7, d8, if_true]
      refine wp_quiet_here (.int .i64 0) ?_ (fun w2 hw2 => ?_)
      · go_big_quiet_op
        first
          | (simp [Act.put]; done)
          | exact ⟨_, fun _ _ => rfl, by simp [Act.put]⟩
      refine ⟨g1, hF.trans hw2, ?_, ?_, ?_⟩
      · intro hx
        replace hx : b 7 = true := by simpa [upd] using hx
        obtain ⟨k1', k2⟩ := h7 hx
        refine ⟨k1', (hw2.block _ (heap_lt k2) (fun x => x)).trans ?_⟩
        rw [k2]
        simp [upd]
      · simpa [upd] using hq7
      · simp [upd, Act.put, d0, d1, d2, d3, d4, d5, d6, d7, d8]
    | j + 10, ho => exact absurd ho (by simp)
  intro b a W2 hall hI
  obtain ⟨g1, hF, h7, hq7, rfl⟩ := hI
  have t0 : b 0 = true := hall 0 (by simp)
  have t1 : b 1 = true := hall 1 (by simp)
  have t2 : b 2 = true := hall 2 (by simp)
  have t3 : b 3 = true := hall 3 (by simp)
  have t4 : b 4 = true := hall 4 (by simp)
  have t5 : b 5 = true := hall 5 (by simp)
  have t6 : b 6 = true := hall 6 (by simp)
  have t7 : b 7 = true := hall 7 (by simp)
  have t8 : b 8 = true := hall 8 (by simp)
  have t9 : b 9 = true := hall 9 (by simp)
  simp only [t0, t1, t2, t3, t4, t5, t6, t7, t8, t9, if_true, true_implies] at h7 hq7 ⊢
  have F2 : Hid (Fr (fun _ => False) w W2) := F0.out.trans hF
  have X2_0 := Lib.hid h7.2
  have Yg1 : w.heap.size ≤ g1 := Nat.le_trans F0.out.size h7.1
  clear hall hF h7 hq7 t0 t1 t2 t3 t4 t5 t6 t7 t8 t9 F0
  go_upto_region 2 with (fail)
  refine wp_region_head (C := Calm W2) 14 (Fr.refl _ _) ?_
  simp only [List.take_succ_cons, List.take_zero, List.drop_succ_cons, List.drop_zero]
  refine BigFrame.wpQuiet_want rfl fun K hK => ?_
  try simp only [Act.put, List.setIfInBounds_toArray, List.set_cons_succ, List.set_cons_zero]
  go_big_quiet_op
  refine hK _ ?_
  refine BigFrame.wpQuiet_want rfl fun K hK => ?_
  try simp only [Act.put, List.setIfInBounds_toArray, List.set_cons_succ, List.set_cons_zero]
  go_big_quiet_op
  first
    | refine ⟨_, fun _ _ => rfl, hK _ ?_⟩
    | refine hK _ ?_
  refine BigFrame.wpQuiet_want rfl fun K hK => ?_
  try simp only [Act.put, List.setIfInBounds_toArray, List.set_cons_succ, List.set_cons_zero]
  go_big_quiet_op
  refine hK _ ?_
  refine BigFrame.wpQuiet_want rfl fun K hK => ?_
  try simp only [Act.put, List.setIfInBounds_toArray, List.set_cons_succ, List.set_cons_zero]
  go_big_quiet_op
  refine ⟨_, Calm.calls CA, hK _ ?_⟩
  refine BigFrame.wpQuiet_want rfl fun K hK => ?_
  try simp only [Act.put, List.setIfInBounds_toArray, List.set_cons_succ, List.set_cons_zero]
  go_big_quiet_op
  refine ⟨_, Calm.calls CQ, hK _ ?_⟩
  refine BigFrame.wpQuiet_want rfl fun K hK => ?_
  try simp only [Act.put, List.setIfInBounds_toArray, List.set_cons_succ, List.set_cons_zero]
  go_big_quiet_op
  refine ⟨_, Calm.calls CH1, hK _ ?_⟩
  refine BigFrame.wpQuiet_want rfl fun K hK => ?_
  try simp only [Act.put, List.setIfInBounds_toArray, List.set_cons_succ, List.set_cons_zero]
  go_big_quiet_op
  first
    | refine ⟨_, fun _ _ => rfl, hK _ ?_⟩
    | refine hK _ ?_
  refine BigFrame.wpQuiet_want rfl fun K hK => ?_
  try simp only [Act.put, List.setIfInBounds_toArray, List.set_cons_succ, List.set_cons_zero]
  go_big_quiet_op
  first
    | refine ⟨_, fun _ _ => rfl, hK _ ?_⟩
    | refine hK _ ?_
  refine BigFrame.wpQuiet_want rfl fun K hK => ?_
  try simp only [Act.put, List.setIfInBounds_toArray, List.set_cons_succ, List.set_cons_zero]
  go_big_quiet_op
  refine hK _ ?_
  refine BigFrame.wpQuiet_want rfl fun K hK => quiet_load 23 (.tmp 1) rfl (g1) rfl 23 _ (0, 0) _ (fun _ h => Calm.at X2_0.out h) Try.underlying23 rfl (key_info k_shared.out) (hK _ ?_)
  refine BigFrame.wpQuiet_want rfl fun K hK => ?_
  try simp only [Act.put, List.setIfInBounds_toArray, List.set_cons_succ, List.set_cons_zero]
  go_big_quiet_op
  refine ⟨_, Calm.calls CH2, hK _ ?_⟩
  refine BigFrame.wpQuiet_want rfl fun K hK => ?_
  try simp only [Act.put, List.setIfInBounds_toArray, List.set_cons_succ, List.set_cons_zero]
  go_big_quiet_op
  first
    | refine ⟨_, fun _ _ => rfl, hK _ ?_⟩
    | refine hK _ ?_
  refine BigFrame.wpQuiet_want rfl fun K hK => ?_
  try simp only [Act.put, List.setIfInBounds_toArray, List.set_cons_succ, List.set_cons_zero]
  go_big_quiet_op
  first
    | refine ⟨_, fun _ _ => rfl, hK _ ?_⟩
    | refine hK _ ?_
  refine BigFrame.wpQuiet_want rfl fun K hK => ?_
  try simp only [Act.put, List.setIfInBounds_toArray, List.set_cons_succ, List.set_cons_zero]
  go_big_quiet_op
  refine hK _ ?_
  refine wpQuiet_nil ?_
  intro w9 hw9
  have F9 : Hid (Fr (fun _ => False) w w9) := F2.out.trans hw9
  clear hw9
  try simp only [Act.put, List.setIfInBounds_toArray, List.set_cons_succ, List.set_cons_zero]
  go_wp2
  go_ret
  exact ⟨rfl, F9.out⟩
end Go.Proofs.Ytbkbodcncjhcmaa
