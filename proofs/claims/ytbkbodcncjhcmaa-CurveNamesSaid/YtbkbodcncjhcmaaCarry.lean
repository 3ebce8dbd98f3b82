/- The reference's 'carried': sixteen numbers become digits of the same number modulo p. Its condition: none is far from 0 (2^60). -/
import Derived.Test.YtbkbodcncjhcmaaArr
namespace Go.Proofs.Ytbkbodcncjhcmaa
open Go.RowKit

theorem i64_and65535 (n : Int) : bits .and .i64 n 65535 = n % 65536 := by
  have h127 : (BitVec.ofInt 64 65535).toNat = 2 ^ 16 - 1 := by decide
  have key : (BitVec.ofInt 64 n &&& BitVec.ofInt 64 65535).toNat = (n % ((2 ^ 64 : Nat) : Int)).toNat % 2 ^ 16 := by
    rw [BitVec.toNat_and, BitVec.toNat_ofInt, h127, Nat.and_two_pow_sub_one_eq_mod]
  show IntKind.i64.wrap ((BitVec.ofInt 64 n &&& BitVec.ofInt 64 65535).toNat : Nat) = n % 65536
  rw [key, IntKind.wrap_i64]
  omega
theorem size30 : (Try.prog.info? 48).map (·.size) = some 16 := by kernel_rfl
theorem size31 : (Try.prog.info? 49).map (·.size) = some 16 := by kernel_rfl
/-- A number of the reference. -/
def nm (x : List Int) : Value := .agg (vs .i64 x)
/-- These are digits of a number that is v modulo p. -/
structure NumOf (y : List Int) (v : Int) : Prop where
  len : y.length = 16
  digs : Digs y
  val : vd y % pp = v
/-- So many rounds. -/
def rn : Nat → List Int → List Int
  | 0, x => x
  | t + 1, x => rnd (rn t x)
/-- What 'carried' makes of a list. -/
def crd (x : List Int) : List Int := rn 4 x
theorem rn_ok (x : List Int) (hl : x.length = 16) (hb : Bnd 1152921504606846976 x) (t : Nat) : (rn t x).length = 16 ∧ Bd t (rn t x) ∧ vd (rn t x) % pp = vd x % pp := by
  induction t with
  | zero => exact ⟨hl, hb, rfl⟩
  | succ t ih =>
    obtain ⟨h1, h2, h3⟩ := ih
    have h4 := Bd.rnd h1 h2
    exact ⟨rnd_length _ h1, h4.1, h4.2.trans h3⟩
theorem crd_ok (x : List Int) (hl : x.length = 16) (hb : Bnd 1152921504606846976 x) : NumOf (crd x) (vd x % pp) := by
  obtain ⟨h1, h2, h3⟩ := rn_ok x hl hb 4
  exact ⟨h1, h2, h3⟩

set_option maxHeartbeats 2000000 in
theorem carried_is (x : List Int) (w : World) (hl : x.length = 16) (hb : Bnd 1152921504606846976 x) :
    Calls Try.prog 47 #[nm x] w fun e w' => e = .returned (nm (crd x)) ∧ Fr (fun _ => False) w w' := by
  have HL := Lib.hid hl
  clear hl
  have HZ : Hid (#[.int .i64 0, .int .i64 0, .int .i64 0, .int .i64 0, .int .i64 0, .int .i64 0, .int .i64 0, .int .i64 0, .int .i64 0, .int .i64 0, .int .i64 0, .int .i64 0, .int .i64 0, .int .i64 0, .int .i64 0, .int .i64 0] = vs .i64 (List.replicate 16 0)) := by show _ = _; rfl
  unfold nm
  go_enter Try.func47, Try.ntmps47
  go_wp2
  go_loopw [3, 4, 5, 6] (fun u3 u4 u5 u6 wr => ∃ (t : Nat) (y : List Int), u3 = .int .i64 t ∧ t ≤ 4 ∧ Hid (y.length = 16 ∧ Bd t y ∧ y = rn t x) ∧ Hid (Ar wr w.heap.size 48 .i64 y) ∧ Hid (Ar wr (w.heap.size + 1) 49 .i64 (List.replicate 16 0)) ∧ Hid (Fr (fun _ => False) w wr))
    (fun u3 _ _ _ _ => 4 - (intOf u3).toNat)
  case atStart =>
    refine ⟨0, x, rfl, by omega, ⟨HL.out, hb, rfl⟩, ?_, ?_, ((Fr.refl _ _).alloc _).alloc _⟩
    · exact (Ar.new w 48 .i64 x).alloc _
    · exact Ar.alloc1 w 48 49 .i64 .i64 x (List.replicate 16 0)
  case round =>
    obtain ⟨t, y, rfl, ht, hy, hA, hR, hF⟩ := hrel
    obtain ⟨wo, rfl⟩ : ∃ wo : World, wo = wr := ⟨_, rfl⟩
    by_cases hlt : t < 4
    · go_wp2
      go_loopw [4, 5, 6] (fun u4 u5 u6 wi => ∃ (k : Nat) (c : Int), u5 = .int .i64 k ∧ u4 = .int .i64 c ∧ Hid (c = ca y k) ∧ k ≤ 16 ∧ Hid (Ar wi w.heap.size 48 .i64 (done y k)) ∧ Hid (Ar wi (w.heap.size + 1) 49 .i64 (List.replicate 16 0)) ∧ Hid (Fr (fun _ => False) w wi))
        (fun _ u5 _ _ => 16 - (intOf u5).toNat)
      case atStart => exact ⟨0, 0, rfl, rfl, rfl, by omega, by show Ar _ _ _ _ _; rw [done_zero]; exact hA.out, hR, hF⟩
      case round =>
        obtain ⟨k, c, rfl, rfl, hc, hk, hA2, hR2, hF2⟩ := hrel
        have hylen := hy.out.1
        have hcb := ca_bd y _ hy.out.2.1.bnd (by decide) k (by omega)
        by_cases hkt : k < 16
        · have hxb := hy.out.2.1.bnd (y.getD k 0) (List.mem_of_getElem? (getD_some (by omega)))
          have hgk := done_get y k (by omega)
          obtain ⟨z, hz⟩ : ∃ z, z = y.getD k 0 := ⟨_, rfl⟩
          have hs : Hid ((done y k).set k ((z + c) % 65536) = done y (k + 1) ∧ (z + c) / 65536 = ca y (k + 1)) := by
            refine ⟨?_, ?_⟩
            · rw [← done_succ y k (by omega), hz, hc.out]
              rfl
            · rw [hz, hc.out]
              rfl
          rw [← hz] at hgk hxb
          rw [← hc.out] at hcb
          have hcell := hA2.out.cell hgk
          have hfz := hA2.out.frozen k
          have hand := i64_and65535 (z + c)
          have hc1 : -35184372088832 ≤ c := by omega
          have hc2 : c ≤ 35184372088832 := by omega
          have hx1 := hxb.1
          have hx2 := hxb.2
          clear hz hgk hcb hxb hylen
          go_wp2
          go_roundw
          case rel =>
            refine ⟨k + 1, _, by go_num, rfl, hs.out.2, by omega, ?_, ?_, Fr.setCell hF2.out _ (.inr (by simp))⟩
            · show Ar _ _ _ _ _
              rw [← hs.out.1]
              exact hA2.out.set k _
            · exact hR2.out.far (by simp) _
          case measure => simp [intOf]; omega
        · obtain rfl : k = 16 := by omega
          have hdl := done_length y 16 (by omega)
          have h0 := getD_some (l := done y 16) (i := 0) (by omega)
          have hd0 := (rnd_val y hylen).2.1 ((done y 16).getD 0 0) (List.mem_of_getElem? h0)
          obtain ⟨z, hz⟩ : ∃ z, z = (done y 16).getD 0 0 := ⟨_, rfl⟩
          have hs : Hid ((done y 16).set 0 (z + 38 * c) = rnd y) := by
            show _ = _
            rw [hz, hc.out]
            rfl
          rw [← hz] at h0 hd0
          rw [← hc.out] at hcb
          have hcell := hA2.out.cell h0
          have hfz := hA2.out.frozen 0
          have hc1 : -35184372088832 ≤ c := by omega
          have hc2 : c ≤ 35184372088832 := by omega
          have hx1 := hd0.1
          have hx2 := hd0.2
          clear hz h0 hcb hd0 hylen hdl
          go_wp2
          go_roundw
          case rel =>
            refine ⟨t + 1, rnd y, by go_num, by omega, ⟨rnd_length y hy.out.1, (Bd.rnd hy.out.1 hy.out.2.1).1, congrArg rnd hy.out.2.2⟩, ?_, ?_, Fr.setCell hF2.out _ (.inr (by simp))⟩
            · show Ar _ _ _ _ _
              rw [← hs.out]
              exact hA2.out.set 0 _
            · exact hR2.out.far (by simp) _
          case measure => simp [intOf]; omega
    · obtain rfl : t = 4 := by omega
      have HS1 : Hid ((Try.prog.info? 48).map (·.size) = some (vs .i64 y).size) := by show _ = _; rw [size30, vs_size, hy.out.1]
      have HS2 : Hid ((Try.prog.info? 49).map (·.size) = some (vs .i64 y).size) := by show _ = _; rw [size31, vs_size, hy.out.1]
      have HS3 : Hid ((vs .i64 (List.replicate 16 0)).size = (vs .i64 y).size) := by show _ = _; rw [vs_size, vs_size, hy.out.1]; rfl
      go_wp2_with (first
        | refine wpList_load_row rfl 48 (.tmp 1) rfl w.heap.size rfl 48 (vs .i64 y) (0, 0) _ hA.out Try.underlying48 rfl HS1.out ?_
        | refine wpList_store_row rfl 49 (.tmp 2) (.tmp 32) rfl (w.heap.size + 1) (vs .i64 y) rfl rfl 49 _ hR.out HS2.out HS3.out (vs_all _ _) ?_)
      refine bodyPost_ret (results_cell_row Try.results47 _ _ _ 49 _ (0, 0) _ rfl (hR.out.row y) Try.underlying49 rfl HS2.out) rfl ⟨by rw [hy.out.2.2]; rfl, Fr.setRow hF.out _ (.inr (by omega))⟩
end Go.Proofs.Ytbkbodcncjhcmaa
