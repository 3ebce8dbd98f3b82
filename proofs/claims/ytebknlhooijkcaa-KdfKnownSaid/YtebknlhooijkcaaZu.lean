/- The reference's Of and Sum: contracts, of all sizes, keys and bytes. Condition: lengths below 2^47. -/
import Derived.Test.YtebknlhooijkcaaZon
import Derived.Test.YtebknlhooijkcaaZok
namespace Go.Proofs.Ytebknlhooijkcaa
set_option linter.unusedSimpArgs false
set_option linter.unusedVariables false
open Go.ChangeShapes Go.WideShapes Go.ChangeAt Go.RowKit


/-- What Of answers. -/
theorem rof_is (size : Int) (g1 : Nat) (A1 : Option Addr) (m1 c1 : Nat) (k : List Int) (g2 : Nat) (A2 : Option Addr) (m2 c2 : Nat) (b : List Int) (w : World) (h1 : Sl w g1 (.slice A1 m1 c1) k) (h2 : Sl w g2 (.slice A2 m2 c2) b) (hm : m2 ≤ 140737488353280) :
    Calls Try.prog 35 #[.int .i64 size, .slice A1 m1 c1, .slice A2 m2 c2] w fun e w' => ∃ v, e = .returned (.tuple #[v, .int .i64 (ofv size k b).2]) ∧ Nw w w' v (ofv size k b).1 ∧ Fr (fun _ => False) w w' := by
  have e1 := h1.len
  unfold ofv
  by_cases h : size < 1 ∨ 32 < size ∨ 32 < k.length
  · rw [if_pos h]
    exact (rof_no size A1 m1 c1 A2 m2 c2 w (by omega)).mono fun e w' ⟨he, hf⟩ => ⟨_, he, Nw.nil _ _, hf⟩
  · rw [if_neg h]
    obtain ⟨sz, rfl⟩ : ∃ sz : Nat, size = sz := ⟨size.toNat, by omega⟩
    rw [Int.toNat_natCast]
    by_cases h0 : m1 = 0
    · exact rof_none sz g1 A1 m1 c1 k g2 A2 m2 c2 b w h1 h2 (by omega) (by omega) (by omega) hm h0
    · exact rof_key sz g1 A1 m1 c1 k g2 A2 m2 c2 b w h1 h2 (by omega) (by omega) (by omega) hm (by omega)
theorem szA32 : (Try.prog.info? 24).map (·.size) = some 32 := by kernel_rfl
theorem zeroA32 : ∀ W : World, (zeroValue 24).run Try.prog W = .ok (.agg (vs .u8 (List.replicate 32 0))) W := fun _ => by kernel_rfl
set_option maxRecDepth 100000 in
set_option maxHeartbeats 8000000 in
theorem rsum_is (g2 : Nat) (A2 : Option Addr) (m2 c2 : Nat) (b : List Int) (w : World) (h2 : Sl w g2 (.slice A2 m2 c2) b) (hm : m2 ≤ 140737488353280) :
    Calls Try.prog 27 #[.slice A2 m2 c2] w fun e w' => e = .returned (.agg (vs .u8 (dig 32 [] b))) ∧ Fr (fun _ => False) w w' := by
  obtain ⟨D, hD⟩ : ∃ D, D = dig 32 [] b := ⟨_, rfl⟩
  have lD : Hid (D.length = 32) := by show _ = _; rw [hD]; exact dig_length (by decide) _ _
  have CO : ∀ W, Fr (fun _ => False) w W → Calls Try.prog 35 #[.int .i64 32, .slice none 0 0, .slice A2 m2 c2] W fun e w' => ∃ v, e = .returned (.tuple #[v, .int .i64 0]) ∧ Nw W w' v D ∧ Fr (fun _ => False) W w' := fun W hf => by
    rw [hD]
    exact rof_is 32 0 none 0 0 [] g2 A2 m2 c2 b W (Sl.nil _ _) (h2.fr hf (fun _ x => x)) hm
  have hz : ∀ W : World, (zeroValue 24).run Try.prog W = .ok (.agg (vs .u8 (fil D 0 0))) W := fun W => by rw [fil_zero, lD.out]; exact zeroA32 W
  have s1 : Hid ((Try.prog.info? 24).map (·.size) = some (vs .u8 D).size) := by show _ = _; rw [szA32, vs_size, lD.out]
  have e0 : Hid ((vs .u8 (fil D 0 0)).size = (vs .u8 D).size) := by show _ = _; rw [vs_size, vs_size, fil_length D 0 0 (by have := lD.out; omega)]
  rw [← hD]
  clear hD h2
  go_enter Try.func27, Try.ntmps27
  go_upto_region 2 with (fail)
  generalize hW : (w.alloc (.cells (vs .u8 (fil D 0 0)) 24)).alloc (.cells (vs .u8 (fil D 0 0)) 24) = W0
  have HW := Lib.hid (calm2 hW)
  clear hW hz
  have R0 : Hid (Ar W0 w.heap.size 24 .u8 (fil D 0 0)) := HW.out.1
  have O0 : Hid (Ar W0 (w.heap.size + 1) 24 .u8 (fil D 0 0)) := HW.out.2.1
  have F0 : Hid (Fr (fun _ => False) w W0) := HW.out.2.2
  clear HW
  go_upto_region 3 with (go_at_call 35; refine (CO _ F0.out).mono ?_; rintro e w1 ⟨v1, rfl, hn1, hf1⟩; have N1 := Lib.hid hn1; have F1 := Lib.hid hf1; clear hn1 hf1)
  obtain ⟨ga, ca, rfl, hga, _, hsa⟩ := N1.out.open (by rw [lD.out]; decide)
  rw [lD.out] at hsa ⊢
  obtain ⟨oa, hoa, hca⟩ := hsa.at_ (by decide)
  injection hoa with hoa
  injection hoa with _ hoa _
  subst hoa
  have CA : Hid (∀ i : Nat, i < 32 → w1.cell? ⟨ga, i, none⟩ = some (.int .u8 (D.getD i 0))) := by
    show ∀ _, _
    intro i hi
    have h := hca i hi
    rwa [Nat.zero_add] at h
  have NG : Hid (ga ≠ w.heap.size + 1 ∧ ga < w1.heap.size) := by
    have h1 := O0.out.lt
    exact ⟨by omega, World.block_lt_of_cell? _ _ (CA.out 0 (by decide))⟩
  have R1 := Lib.hid (R0.out.fr F1.out (fun x => x))
  have O1 := Lib.hid (O0.out.fr F1.out (fun x => x))
  have G1 := Lib.hid (F0.out.trans F1.out)
  clear hga hsa hca N1 F0 F1 R0 O0 CO
  go_upto_region 4 with (fail)
  go_loopw [6] (fun u6 wr => ∃ i : Nat, u6 = .int .i64 i ∧ i ≤ 32 ∧ Hid (Ar wr (w.heap.size + 1) 24 .u8 (fil D i 0)) ∧ Hid (Fr (fun j => j = w.heap.size + 1) w1 wr)) (fun u6 _ => 32 - (intOf u6).toNat)
  case atStart => exact ⟨0, rfl, by omega, O1, Lib.hid (Fr.refl _ _)⟩
  case round =>
  clear O1
  obtain ⟨i, rfl, hi, hO, hF⟩ := hrel
  by_cases hil : i < 32
  · obtain ⟨y, hy⟩ : ∃ y, D[i]? = some y := ⟨_, getD_some (by rw [lD.out]; exact hil)⟩
    have ca0 := CA.out i hil
    rw [List.getD_eq_getElem?_getD, hy] at ca0
    have ca1 : wr.cell? ⟨ga, i, none⟩ = some (.int .u8 y) := (World.cell?_of_block (w := w1) (hF.out.block ga NG.out.2 (fun e => NG.out.1 e))).trans ca0
    have cO := hO.out.cell (fil_get D i 0 (by have := lD.out; omega))
    have fO := hO.out.frozen i
    have O2 := Lib.hid (hO.out.set i y)
    rw [fil_set D i 0 _ hy] at O2
    have t1 : ((i : Int)).toNat = i := by omega
    have t2 : 0 ≤ (i : Int) := by omega
    have t3 : (i : Int) < 32 := by omega
    clear hy ca0 hO
    go_wp2
    go_roundw
    case rel => exact ⟨i + 1, by go_num, by omega, O2, hF.out.setCell _ (.inl rfl)⟩
    case measure => simp [intOf]; omega
  obtain rfl : i = 32 := by omega
  have O9 : Hid (Ar wr (w.heap.size + 1) 24 .u8 D) := by
    have h := hO.out
    have e := fil_all D (0 : Int)
    rw [lD.out] at e
    rwa [e] at h
  have R9 := Lib.hid (R1.out.fr hF.out (show ¬ w.heap.size = w.heap.size + 1 by omega))
  have F9 : Hid (Fr (fun _ => False) w wr) := G1.out.trans' hF.out (fun j hj e => by omega)
  clear hO hF R1 G1 CA
  go_wp2_with (first
    | refine wpList_load_row rfl 24 (.tmp 3) rfl (w.heap.size + 1) rfl 24 (vs .u8 D) (0, 0) _ O9.out Try.underlying24 rfl s1.out ?_
    | refine wpList_store_row rfl 24 (.tmp 2) (.tmp 22) rfl (w.heap.size) (vs .u8 D) rfl rfl 24 _ R9.out s1.out e0.out (vs_all _ _) ?_)
  refine bodyPost_ret (results_cell_row Try.results27 _ _ _ 24 _ (0, 0) _ rfl (setRow_heap _ _ _ _ _ _ R9.out) Try.underlying24 rfl s1.out) rfl ⟨rfl, F9.out.setRow _ (.inr (Nat.le_refl _))⟩
end Go.Proofs.Ytebknlhooijkcaa
