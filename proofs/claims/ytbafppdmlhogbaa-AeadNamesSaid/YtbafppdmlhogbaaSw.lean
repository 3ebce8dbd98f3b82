/- chacha's start: contract. Conditions: a key of 32 bytes, a word, a nonce of 12 bytes. -/
import Derived.Test.YtbafppdmlhogbaaRd
namespace Go.Proofs.Ytbafppdmlhogbaa
set_option linter.unusedSimpArgs false
set_option linter.unusedVariables false
open Go.RowKit

theorem fil_get (L : List Int) (k : Nat) (x : Int) (h : k < L.length) : (fil L k x)[k]? = some x := by
  unfold fil
  rw [List.getElem?_append_right (by rw [List.length_take]; omega), List.length_take, Nat.min_eq_left (by omega), Nat.sub_self]
  rw [List.getElem?_replicate, if_pos (by omega)]

set_option maxRecDepth 100000 in
set_option maxHeartbeats 16000000 in
theorem start_is (k : List Int) (c : Int) (n : List Int) (w : World) (hk : k.length = 32) (bk : Bys k) (hn : n.length = 12) (bn : Bys n) :
    Calls Try.prog 33 #[.agg (vs .u8 k), .int .u32 c, .agg (vs .u8 n)] w fun e w' => e = .returned (.agg (vs .u32 (st k c n))) ∧ Fr (fun _ => False) w w' := by
  obtain ⟨L, hL⟩ : ∃ L, st k c n = L := ⟨_, rfl⟩
  have HL1 : Hid (L.length = 16) := by show _ = _; rw [← hL]; exact st_length hk hn
  have HL0 := Lib.hid hL
  have HK := Lib.hid (And.intro hk bk)
  have HN := Lib.hid (And.intro hn bn)
  have z0 : vs .u32 (fil L 0 0) = #[.int .u32 0, .int .u32 0, .int .u32 0, .int .u32 0, .int .u32 0, .int .u32 0, .int .u32 0, .int .u32 0, .int .u32 0, .int .u32 0, .int .u32 0, .int .u32 0, .int .u32 0, .int .u32 0, .int .u32 0, .int .u32 0] := by rw [fil_zero, HL1.out]; rfl
  have z4 : vs .u32 (fil L 4 0) = #[.int .u32 1634760805, .int .u32 857760878, .int .u32 2036477234, .int .u32 1797285236, .int .u32 0, .int .u32 0, .int .u32 0, .int .u32 0, .int .u32 0, .int .u32 0, .int .u32 0, .int .u32 0, .int .u32 0, .int .u32 0, .int .u32 0, .int .u32 0] := by
    unfold fil
    rw [HL1.out, ← hL]
    rfl
  have hv : Hid (.agg (vs .u32 L) = Value.agg (vs .u32 (st k c n))) := by show _ = _; rw [hL]
  clear hL hk bk hn bn
  go_enter Try.func33, Try.ntmps33
  go_upto_region 2 with (fail)
  rw [← z0, ← z4]
  generalize hW : (((w.alloc (.cells (vs .u8 k) 28)).alloc (.cells (vs .u8 n) 22)).alloc (.cells (vs .u32 (fil L 0 0)) 57)).alloc (.cells (vs .u32 (fil L 4 0)) 57) = W0
  have HW := Lib.hid (calm4 hW)
  clear hW z0 z4
  go_wp2
  go_loopw [8, 11] (fun u8 u11 wr => ∃ i : Nat, u11 = .int .i64 i ∧ i ≤ 8 ∧ Hid (Ar wr w.heap.size 28 .u8 k) ∧ Hid (Ar wr (w.heap.size + 1) 22 .u8 n) ∧ Hid (Ar wr (w.heap.size + 1 + 1) 57 .u32 (fil L 0 0)) ∧ Hid (Ar wr (w.heap.size + 1 + 1 + 1) 57 .u32 (fil L (4 + i) 0)) ∧ Hid (Fr (fun _ => False) w wr))
    (fun _ u11 _ => 8 - (intOf u11).toNat)
  case atStart => exact ⟨0, rfl, by omega, HW.out.1, HW.out.2.1, HW.out.2.2.1, HW.out.2.2.2.1, HW.out.2.2.2.2⟩
  case round =>
    obtain ⟨i, rfl, hi, hK, hN, hR, hS, hF⟩ := hrel
    by_cases hlt : i < 8
    · have hg := st_key (k := k) (n := n) (c := c) HK.out.1 i hlt
      rw [HL0.out] at hg
      obtain ⟨b0, hb0⟩ : ∃ b, b = k.getD (4 * i) 0 := ⟨_, rfl⟩
      obtain ⟨b1, hb1⟩ : ∃ b, b = k.getD (4 * i + 1) 0 := ⟨_, rfl⟩
      obtain ⟨b2, hb2⟩ : ∃ b, b = k.getD (4 * i + 2) 0 := ⟨_, rfl⟩
      obtain ⟨b3, hb3⟩ : ∃ b, b = k.getD (4 * i + 3) 0 := ⟨_, rfl⟩
      have g0 := getD_some (l := k) (i := 4 * i) (by have := HK.out.1; omega)
      have g1 := getD_some (l := k) (i := 4 * i + 1) (by have := HK.out.1; omega)
      have g2 := getD_some (l := k) (i := 4 * i + 2) (by have := HK.out.1; omega)
      have g3 := getD_some (l := k) (i := 4 * i + 3) (by have := HK.out.1; omega)
      rw [← hb0] at g0
      rw [← hb1] at g1
      rw [← hb2] at g2
      rw [← hb3] at g3
      rw [← hb0, ← hb1, ← hb2, ← hb3] at hg
      have y0 := Lib.hid (HK.out.2 b0 (List.mem_of_getElem? g0))
      have y1 := Lib.hid (HK.out.2 b1 (List.mem_of_getElem? g1))
      have y2 := Lib.hid (HK.out.2 b2 (List.mem_of_getElem? g2))
      have y3 := Lib.hid (HK.out.2 b3 (List.mem_of_getElem? g3))
      have k0 := Ar.cell hK.out g0
      have k1 := Ar.cell hK.out g1
      have k2 := Ar.cell hK.out g2
      have k3 := Ar.cell hK.out g3
      have c1 := Ar.cell hS.out (fil_get L (4 + i) 0 (by have := HL1.out; omega))
      have f1 := Ar.frozen hS.out (4 + i)
      have HS2 := Lib.hid (hS.out.set (4 + i) (nb b0 b1 b2 b3))
      rw [fil_set L (4 + i) 0 _ hg] at HS2
      have t0 : (4 * (i : Int)).toNat = 4 * i := by omega
      have t1 : (4 * (i : Int) + 1).toNat = 4 * i + 1 := by omega
      have t2 : (4 * (i : Int) + 2).toNat = 4 * i + 2 := by omega
      have t3 : (4 * (i : Int) + 3).toNat = 4 * i + 3 := by omega
      have t4 : (4 + (i : Int)).toNat = 4 + i := by omega
      have s0 : 0 ≤ 4 * (i : Int) := by omega
      have s1 : 4 * (i : Int) + 3 < 32 := by omega
      have s2 : 4 * (i : Int) < 32 := by omega
      have s3 : 4 * (i : Int) + 1 < 32 := by omega
      have s4 : 4 * (i : Int) + 2 < 32 := by omega
      have s5 : 0 ≤ 4 * (i : Int) + 1 := by omega
      have s6 : 0 ≤ 4 * (i : Int) + 2 := by omega
      have s7 : 0 ≤ 4 * (i : Int) + 3 := by omega
      have s8 : 0 ≤ 4 + (i : Int) := by omega
      have s9 : 4 + (i : Int) < 16 := by omega
      have v0 : IntKind.i64.wrap (4 * (i : Int)) = 4 * i := by rw [IntKind.wrap_i64]; omega
      have v1 : IntKind.i64.wrap (4 * (i : Int) + 1) = 4 * i + 1 := by rw [IntKind.wrap_i64]; omega
      have v2 : IntKind.i64.wrap (4 * (i : Int) + 2) = 4 * i + 2 := by rw [IntKind.wrap_i64]; omega
      have v3 : IntKind.i64.wrap (4 * (i : Int) + 3) = 4 * i + 3 := by rw [IntKind.wrap_i64]; omega
      have v4 : IntKind.i64.wrap (4 + (i : Int)) = 4 + i := by rw [IntKind.wrap_i64]; omega
      clear hg hb0 hb1 hb2 hb3 g0 g1 g2 g3
      go_wp2
      refine wp_region_still_tail 23 (by kernel_rfl) (by kernel_rfl) ?_
      simp only [List.take_succ_cons, List.take_zero, List.drop_succ_cons, List.drop_zero]
      iterate 21 still_step
      still_call ((number_is b0 b1 b2 b3 _ y0.out y1.out y2.out y3.out).mono (by rintro e w' ⟨rfl, rfl⟩; exact ⟨rfl, rfl⟩))
      still_step
      refine wpStill_nil ?_
      change wpList _ _ _ _ _ wr.drew
      replace hK : Hid (Ar wr.drew w.heap.size 28 .u8 k) := hK
      replace hN : Hid (Ar wr.drew (w.heap.size + 1) 22 .u8 n) := hN
      replace hR : Hid (Ar wr.drew (w.heap.size + 1 + 1) 57 .u32 (fil L 0 0)) := hR
      replace hF : Hid (Fr (fun _ => False) w wr.drew) := hF.out.drew
      replace c1 : wr.drew.cell? _ = _ := c1
      replace f1 : wr.drew.frozen? _ = _ := f1
      have HS3 : Hid (Ar (wr.drew.setCell ⟨w.heap.size + 1 + 1 + 1, 4 + i, none⟩ (.int .u32 (nb b0 b1 b2 b3))) (w.heap.size + 1 + 1 + 1) 57 .u32 (fil L (4 + i + 1) 0)) := HS2
      clear HS2 hS k0 k1 k2 k3
      generalize wr.drew = w1 at *
      go_wp2
      go_roundw
      case rel => exact ⟨i + 1, by go_num, by omega, hK.out.far (by simp <;> omega) _, hN.out.far (by simp <;> omega) _, hR.out.far (by simp) _, HS3, hF.out.setCell _ (.inr (by simp <;> omega))⟩
      case measure => simp [intOf]; omega

    · have h8 : i = 8 := by omega
      replace hS : Hid (Ar wr (w.heap.size + 1 + 1 + 1) 57 .u32 (fil L 12 0)) := by
        have h := hS.out
        rw [h8] at h
        exact h
      clear h8
      have c1 := Ar.cell hS.out (fil_get L 12 0 (by have := HL1.out; omega))
      have f1 := Ar.frozen hS.out 12
      have HS2 := Lib.hid (hS.out.set 12 c)
      rw [fil_set L 12 0 _ (by rw [← HL0.out]; exact st_ctr HK.out.1)] at HS2
      clear hS
      have HS3 : Hid (Ar (wr.setCell ⟨w.heap.size + 1 + 1 + 1, 12, none⟩ (.int .u32 c)) (w.heap.size + 1 + 1 + 1) 57 .u32 (fil L (13 + 0) 0)) := HS2
      have K2 : Hid (Ar (wr.setCell ⟨w.heap.size + 1 + 1 + 1, 12, none⟩ (.int .u32 c)) w.heap.size 28 .u8 k) := hK.out.far (by simp <;> omega) _
      have N2 : Hid (Ar (wr.setCell ⟨w.heap.size + 1 + 1 + 1, 12, none⟩ (.int .u32 c)) (w.heap.size + 1) 22 .u8 n) := hN.out.far (by simp <;> omega) _
      have R2 : Hid (Ar (wr.setCell ⟨w.heap.size + 1 + 1 + 1, 12, none⟩ (.int .u32 c)) (w.heap.size + 1 + 1) 57 .u32 (fil L 0 0)) := hR.out.far (by simp) _
      have F2 : Hid (Fr (fun _ => False) w (wr.setCell ⟨w.heap.size + 1 + 1 + 1, 12, none⟩ (.int .u32 c))) := hF.out.setCell _ (.inr (by simp <;> omega))
      clear hK hN hR hF HS2
      go_upto_region 8 with (fail)
      generalize wr.setCell ⟨w.heap.size + 1 + 1 + 1, 12, none⟩ (.int .u32 c) = W1 at *
      clear c1 f1
      try simp only [Act.put, List.setIfInBounds_toArray, List.set_cons_succ, List.set_cons_zero]
      go_wp2
      go_loopw [9, 40] (fun u9 u40 wr => ∃ i : Nat, u40 = .int .i64 i ∧ i ≤ 3 ∧ Hid (Ar wr w.heap.size 28 .u8 k) ∧ Hid (Ar wr (w.heap.size + 1) 22 .u8 n) ∧ Hid (Ar wr (w.heap.size + 1 + 1) 57 .u32 (fil L 0 0)) ∧ Hid (Ar wr (w.heap.size + 1 + 1 + 1) 57 .u32 (fil L (13 + i) 0)) ∧ Hid (Fr (fun _ => False) w wr))
        (fun _ u40 _ => 3 - (intOf u40).toNat)
      case atStart => exact ⟨0, rfl, by omega, K2, N2, R2, HS3, F2⟩
      case round =>
        obtain ⟨i, rfl, hi, hK, hN, hR, hS, hF⟩ := hrel
        by_cases hlt : i < 3
        · have hg := st_nonce (k := k) (n := n) (c := c) HK.out.1 HN.out.1 i hlt
          rw [HL0.out] at hg
          obtain ⟨b0, hb0⟩ : ∃ b, b = n.getD (4 * i) 0 := ⟨_, rfl⟩
          obtain ⟨b1, hb1⟩ : ∃ b, b = n.getD (4 * i + 1) 0 := ⟨_, rfl⟩
          obtain ⟨b2, hb2⟩ : ∃ b, b = n.getD (4 * i + 2) 0 := ⟨_, rfl⟩
          obtain ⟨b3, hb3⟩ : ∃ b, b = n.getD (4 * i + 3) 0 := ⟨_, rfl⟩
          have g0 := getD_some (l := n) (i := 4 * i) (by have := HN.out.1; omega)
          have g1 := getD_some (l := n) (i := 4 * i + 1) (by have := HN.out.1; omega)
          have g2 := getD_some (l := n) (i := 4 * i + 2) (by have := HN.out.1; omega)
          have g3 := getD_some (l := n) (i := 4 * i + 3) (by have := HN.out.1; omega)
          rw [← hb0] at g0
          rw [← hb1] at g1
          rw [← hb2] at g2
          rw [← hb3] at g3
          rw [← hb0, ← hb1, ← hb2, ← hb3] at hg
          have y0 := Lib.hid (HN.out.2 b0 (List.mem_of_getElem? g0))
          have y1 := Lib.hid (HN.out.2 b1 (List.mem_of_getElem? g1))
          have y2 := Lib.hid (HN.out.2 b2 (List.mem_of_getElem? g2))
          have y3 := Lib.hid (HN.out.2 b3 (List.mem_of_getElem? g3))
          have k0 := Ar.cell hN.out g0
          have k1 := Ar.cell hN.out g1
          have k2 := Ar.cell hN.out g2
          have k3 := Ar.cell hN.out g3
          have c1 := Ar.cell hS.out (fil_get L (13 + i) 0 (by have := HL1.out; omega))
          have f1 := Ar.frozen hS.out (13 + i)
          have HS2 := Lib.hid (hS.out.set (13 + i) (nb b0 b1 b2 b3))
          rw [fil_set L (13 + i) 0 _ hg] at HS2
          have t0 : (4 * (i : Int)).toNat = 4 * i := by omega
          have t1 : (4 * (i : Int) + 1).toNat = 4 * i + 1 := by omega
          have t2 : (4 * (i : Int) + 2).toNat = 4 * i + 2 := by omega
          have t3 : (4 * (i : Int) + 3).toNat = 4 * i + 3 := by omega
          have t4 : (13 + (i : Int)).toNat = 13 + i := by omega
          have s0 : 0 ≤ 4 * (i : Int) := by omega
          have s1 : 4 * (i : Int) + 3 < 12 := by omega
          have s2 : 4 * (i : Int) < 12 := by omega
          have s3 : 4 * (i : Int) + 1 < 12 := by omega
          have s4 : 4 * (i : Int) + 2 < 12 := by omega
          have s5 : 0 ≤ 4 * (i : Int) + 1 := by omega
          have s6 : 0 ≤ 4 * (i : Int) + 2 := by omega
          have s7 : 0 ≤ 4 * (i : Int) + 3 := by omega
          have s8 : 0 ≤ 13 + (i : Int) := by omega
          have s9 : 13 + (i : Int) < 16 := by omega
          have v0 : IntKind.i64.wrap (4 * (i : Int)) = 4 * i := by rw [IntKind.wrap_i64]; omega
          have v1 : IntKind.i64.wrap (4 * (i : Int) + 1) = 4 * i + 1 := by rw [IntKind.wrap_i64]; omega
          have v2 : IntKind.i64.wrap (4 * (i : Int) + 2) = 4 * i + 2 := by rw [IntKind.wrap_i64]; omega
          have v3 : IntKind.i64.wrap (4 * (i : Int) + 3) = 4 * i + 3 := by rw [IntKind.wrap_i64]; omega
          have v4 : IntKind.i64.wrap (13 + (i : Int)) = 13 + i := by rw [IntKind.wrap_i64]; omega
          clear hg hb0 hb1 hb2 hb3 g0 g1 g2 g3
          go_wp2
          refine wp_region_still_tail 23 (by kernel_rfl) (by kernel_rfl) ?_
          simp only [List.take_succ_cons, List.take_zero, List.drop_succ_cons, List.drop_zero]
          iterate 21 still_step
          still_call ((number_is b0 b1 b2 b3 _ y0.out y1.out y2.out y3.out).mono (by rintro e w' ⟨rfl, rfl⟩; exact ⟨rfl, rfl⟩))
          still_step
          refine wpStill_nil ?_
          change wpList _ _ _ _ _ wr.drew
          replace hK : Hid (Ar wr.drew w.heap.size 28 .u8 k) := hK
          replace hN : Hid (Ar wr.drew (w.heap.size + 1) 22 .u8 n) := hN
          replace hR : Hid (Ar wr.drew (w.heap.size + 1 + 1) 57 .u32 (fil L 0 0)) := hR
          replace hF : Hid (Fr (fun _ => False) w wr.drew) := hF.out.drew
          replace c1 : wr.drew.cell? _ = _ := c1
          replace f1 : wr.drew.frozen? _ = _ := f1
          have HS3 : Hid (Ar (wr.drew.setCell ⟨w.heap.size + 1 + 1 + 1, 13 + i, none⟩ (.int .u32 (nb b0 b1 b2 b3))) (w.heap.size + 1 + 1 + 1) 57 .u32 (fil L (13 + i + 1) 0)) := HS2
          clear HS2 hS k0 k1 k2 k3
          generalize wr.drew = w1 at *
          go_wp2
          go_roundw
          case rel => exact ⟨i + 1, by go_num, by omega, hK.out.far (by simp <;> omega) _, hN.out.far (by simp <;> omega) _, hR.out.far (by simp) _, HS3, hF.out.setCell _ (.inr (by simp <;> omega))⟩
          case measure => simp [intOf]; omega
        · have h3 : i = 3 := by omega
          have X9 : Hid (Ar wr (w.heap.size + 1 + 1 + 1) 57 .u32 L) := by
            have h := hS.out
            have e := fil_all L (0 : Int)
            rw [HL1.out] at e
            rwa [h3, show 13 + 3 = 16 from rfl, e] at h
          have hsz : Hid ((Try.prog.info? 57).map (·.size) = some (vs .u32 L).size) := by show _ = _; rw [size16, vs_size, HL1.out]
          have hez : Hid ((vs .u32 (fil L 0 0)).size = (vs .u32 L).size) := by show _ = _; rw [vs_size, vs_size, fil_length L 0 0 (by omega)]
          clear hS hK hN
          go_wp2_with (first
            | refine wpList_load_row rfl 57 (.tmp 7) rfl (w.heap.size + 1 + 1 + 1) rfl 57 (vs .u32 L) (0, 0) _ X9.out Try.underlying57 rfl hsz.out ?_
            | refine wpList_store_row rfl 57 (.tmp 6) (.tmp 67) rfl (w.heap.size + 1 + 1) (vs .u32 L) rfl rfl 57 _ hR.out hsz.out hez.out (vs_all _ _) ?_)
          refine bodyPost_ret (results_cell_row Try.results33 _ _ _ 57 _ (0, 0) _ rfl (setRow_heap _ _ _ _ _ _ hR.out) Try.underlying57 rfl hsz.out) rfl ⟨by rw [hv.out], hF.out.setRow _ (.inr (by omega))⟩
end Go.Proofs.Ytbafppdmlhogbaa
