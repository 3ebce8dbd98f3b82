/- Sums, differences and products of elements as cells; curve's square, element and step. Conditions: elements below p, the points' blocks. -/
import Derived.Test.YtbkbodcncjhcmaaCSwap
namespace Go.Proofs.Ytbkbodcncjhcmaa
set_option linter.unusedSimpArgs false
set_option linter.unusedVariables false
open Go.RowKit

def Fa (u v : Int) : Int := (u + v) % pp
def Fs (u v : Int) : Int := (u - v) % pp
def Fm (u v : Int) : Int := (u * v) % pp
theorem el_fa (u v : Int) : El (Fa u v) := El.mod _
theorem el_fs (u v : Int) : El (Fs u v) := El.mod _
theorem el_fm (u v : Int) : El (Fm u v) := El.mod _
theorem add_c {u v r : Int} (h : r = Fa u v) (hu : El u) (hv : El v) (w : World) : Calls Try.prog 50 #[.agg (ec u), .agg (ec v)] w fun e w' => e = .returned (.agg (ec r)) ∧ Fr (fun _ => False) w w' := add_is u v r w hu hv h.symm
theorem sub_c {u v r : Int} (h : r = Fs u v) (hu : El u) (hv : El v) (w : World) : Calls Try.prog 24 #[.agg (ec u), .agg (ec v)] w fun e w' => e = .returned (.agg (ec r)) ∧ Fr (fun _ => False) w w' := sub_is u v r w hu hv h.symm
theorem mul_c {u v r : Int} (h : r = Fm u v) (hu : El u) (hv : El v) (w : World) : Calls Try.prog 52 #[.agg (ec u), .agg (ec v)] w fun e w' => e = .returned (.agg (ec r)) ∧ Fr (fun _ => False) w w' := mul_is u v r w hu hv h.symm
theorem small_c (n : Int) (h0 : 0 ≤ n) (h1 : n ≤ 4294967295) (w : World) : Calls Try.prog 25 #[.int .u32 n] w fun e w' => e = .returned (.agg (ec n)) ∧ Fr (fun _ => False) w w' := small_is n w h0 h1
def vi (u : Int) : Int := pwr u (ex 0)
theorem el_vi (u : Int) : El (vi u) := pwr_el _ _
theorem inv_c {u r : Int} (h : r = vi u) (hu : El u) (w : World) : Calls Try.prog 53 #[.agg (ec u)] w fun e w' => e = .returned (.agg (ec r)) ∧ Fr (fun _ => False) w w' := by
  rw [h]
  exact inv_is u w hu

set_option maxRecDepth 100000 in
set_option maxHeartbeats 2000000 in
theorem square_c {u r : Int} (h : r = Fm u u) (hu : El u) (w : World) : Calls Try.prog 51 #[.agg (ec u)] w fun e w' => e = .returned (.agg (ec r)) ∧ Fr (fun _ => False) w w' := by
  have C0 := fun W => mul_c h hu hu W
  have hz := ec_zero
  clear h hu
  go_enter Try.func51, Try.ntmps51
  go_upto_region 1 with (fail)
  generalize hW : (w.alloc (.cells (ec u) 37)).alloc (.cells (ec 0) 37) = W0
  have HW := Lib.hid (calm2 hW)
  have X0 := Lib.hid HW.out.1
  have X1 := Lib.hid HW.out.2.1
  have F0 : Hid (Fr (fun k => k = w.heap.size + 1) w W0) := HW.out.2.2.any
  clear hW HW hz
  refine wp_region_seq (fun b a w' => Fr (fun k => k = w.heap.size + 1) W0 w' ∧ w'.heap[w.heap.size + 1]? = some (.cells (if b 3 = true then ec r else ec 0) 37 (0, 0)) ∧ a = ⟨#[.agg (ec u), .pointer (some ⟨w.heap.size, 0, none⟩), .pointer (some ⟨w.heap.size + 1, 0, none⟩), if b 0 = true then .agg (ec u) else undef, if b 1 = true then .agg (ec u) else undef, if b 2 = true then .agg (ec r) else undef], []⟩) (by kernel_rfl) ?start1 ?step1 ?done1
  case start1 => exact ⟨Fr.refl _ _, by simp only [Bool.false_eq_true, if_false]; exact X1.out, by simp⟩
  case step1 =>
    intro i o b a w1 ho hI hb hr
    obtain ⟨hF, hR0, rfl⟩ := hI
    match i, ho with
    | 0, ho =>
      injection ho with ho
      subst ho
      refine wp_quiet_here _ (quiet_load 37 (.tmp 1) rfl (w.heap.size) rfl 37 _ (0, 0) _ (fun _ h => (Fr.block h _ (Nat.lt_of_lt_of_le (heap_lt X0.out) hF.size) (fun x => x)).trans ((hF.block _ (heap_lt X0.out) (by simp)).trans X0.out)) Try.underlying37 rfl (ec_info _) rfl) (fun w2 hw2 => ?_)
      refine ⟨hF.trans hw2.any, ?_, ?_⟩
      · have hh := (hw2.block _ (heap_lt hR0) (fun x => x)).trans hR0
        simpa [upd] using hh
      · simp [upd, Act.put]
    | 1, ho =>
      injection ho with ho
      subst ho
      have d0 : b 0 = true := hr 0 (by decide)
      simp only [d0, if_true]
      refine wp_quiet_here _ (quiet_load 37 (.tmp 1) rfl (w.heap.size) rfl 37 _ (0, 0) _ (fun _ h => (Fr.block h _ (Nat.lt_of_lt_of_le (heap_lt X0.out) hF.size) (fun x => x)).trans ((hF.block _ (heap_lt X0.out) (by simp)).trans X0.out)) Try.underlying37 rfl (ec_info _) rfl) (fun w2 hw2 => ?_)
      refine ⟨hF.trans hw2.any, ?_, ?_⟩
      · have hh := (hw2.block _ (heap_lt hR0) (fun x => x)).trans hR0
        simpa [upd] using hh
      · simp [upd, Act.put, d0]
    | 2, ho =>
      injection ho with ho
      subst ho
      have d0 : b 0 = true := hr 0 (by decide)
      have d1 : b 1 = true := hr 1 (by decide)
      simp only [d0, d1, if_true]
      refine wp_quiet_here (.agg (ec r)) ?_ (fun w2 hw2 => ?_)
      · go_big_quiet_op
        exact ⟨_, Calm.calls C0, by simp [Act.put]⟩
      refine ⟨hF.trans hw2.any, ?_, ?_⟩
      · have hh := (hw2.block _ (heap_lt hR0) (fun x => x)).trans hR0
        simpa [upd] using hh
      · simp [upd, Act.put, d0, d1]
    | 3, ho =>
      injection ho with ho
      subst ho
      have d0 : b 0 = true := hr 0 (by decide)
      have d1 : b 1 = true := hr 1 (by decide)
      have d2 : b 2 = true := hr 2 (by decide)
      simp only [d0, d1, d2, if_true]
      have k2 := hR0
      rw [hb] at k2
      simp only [Bool.false_eq_true, if_false] at k2
      refine wp_store_row 37 (.tmp 2) (.tmp 5) rfl (w.heap.size + 1) (ec r) rfl rfl 37 _ k2 (ec_info _) rfl (ec_all _) ?_
      refine ⟨hF.setRow _ (.inl (by simp)), ?_, ?_⟩
      · refine (setRow_heap _ _ _ _ _ _ hR0).trans ?_
        simp [upd]
      · simp [upd, Act.put, d0, d1, d2]
    | j + 4, ho => exact absurd ho (by simp)
  intro b a W2 hall hI
  obtain ⟨hF, hR0, rfl⟩ := hI
  have t0 : b 0 = true := hall 0 (by simp)
  have t1 : b 1 = true := hall 1 (by simp)
  have t2 : b 2 = true := hall 2 (by simp)
  have t3 : b 3 = true := hall 3 (by simp)
  simp only [t0, t1, t2, t3, if_true, true_implies] at hR0 ⊢
  have F2 : Hid (Fr (fun k => k = w.heap.size + 1) w W2) := F0.out.trans hF
  have X2_0 := Lib.hid ((hF.block _ (heap_lt X0.out) (by simp)).trans X0.out)
  have X2_1 := Lib.hid hR0
  clear hall hF hR0 t0 t1 t2 t3 F0
  go_wp2
  refine bodyPost_ret (results_cell_row Try.results51 _ _ _ 37 _ (0, 0) _ rfl X2_1.out Try.underlying37 rfl (ec_info _)) rfl ⟨rfl, F2.out.weaken fun i hi hs => ?_⟩
  omega
end Go.Proofs.Ytbkbodcncjhcmaa
