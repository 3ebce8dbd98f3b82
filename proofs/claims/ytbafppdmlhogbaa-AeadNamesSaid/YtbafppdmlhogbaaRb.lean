/- The reference's Block: contract. Conditions: a key of 32 bytes, a word, a nonce of 12 bytes. -/
import Derived.Test.YtbafppdmlhogbaaRn
namespace Go.Proofs.Ytbafppdmlhogbaa
set_option linter.unusedSimpArgs false
set_option linter.unusedVariables false
open Go.RowKit

theorem size51 : (Try.prog.info? 56).map (·.size) = some 16 := by kernel_rfl
set_option maxRecDepth 100000 in
set_option maxHeartbeats 16000000 in
theorem rblock_is (k : List Int) (c : Int) (n : List Int) (w : World) (hk : k.length = 32) (bk : Bys k) (hc : Wd c) (hn : n.length = 12) (bn : Bys n) :
    Calls Try.prog 42 #[.agg (vs .u8 k), .int .u32 c, .agg (vs .u8 n)] w fun e w' => e = .returned (.agg (vs .u8 (bk64 k c n))) ∧ Fr (fun _ => False) w w' := by
  obtain ⟨L, hL⟩ : ∃ L, st k c n = L := ⟨_, rfl⟩
  obtain ⟨B, hB⟩ : ∃ B, blk L = B := ⟨_, rfl⟩
  have HL1 : Hid (L.length = 16) := by show _ = _; rw [← hL]; exact st_length hk hn
  have HL2 : Hid (Wds L) := by show Wds L; rw [← hL]; exact st_wds hk bk hc hn bn
  have HB1 : Hid (B.length = 64) := by show _ = _; rw [← hB]; exact blk_length HL1.out HL2.out
  have HB0 : Unit → blk L = B := fun _ => hB
  have HL0 := Lib.hid hL
  have HK := Lib.hid (And.intro hk bk)
  have HN := Lib.hid (And.intro hn bn)
  have hz : ∀ W : World, (zeroValue 42).run Try.prog W = .ok (.agg (vs .u8 (fil B 0 0))) W := fun W => by
    rw [fil_zero, HB1.out]
    exact zero64 W
  have z4 : vs .u32 (fil L 4 0) = #[.int .u32 1634760805, .int .u32 857760878, .int .u32 2036477234, .int .u32 1797285236, .int .u32 0, .int .u32 0, .int .u32 0, .int .u32 0, .int .u32 0, .int .u32 0, .int .u32 0, .int .u32 0, .int .u32 0, .int .u32 0, .int .u32 0, .int .u32 0] := by
    unfold fil
    rw [HL1.out, ← hL]
    rfl
  have hv : Unit → bk64 k c n = B := fun _ => by rw [← hB, ← hL]; rfl
  clear hL hB hk bk hn bn hc
  go_enter Try.func42, Try.ntmps42
  go_upto_region 2 with (fail)
  rw [← z4]
  generalize hW : (((w.alloc (.cells (vs .u8 k) 28)).alloc (.cells (vs .u8 n) 22)).alloc (.cells (vs .u8 (fil B 0 0)) 42)).alloc (.cells (vs .u32 (fil L 4 0)) 56) = W0
  have HW := Lib.hid (calm4 hW)
  clear hW z4
  go_wp2
  go_loopw [8] (fun u8 wr => ∃ i : Nat, u8 = .int .i64 i ∧ i ≤ 8 ∧ Hid (Ar wr w.heap.size 28 .u8 k) ∧ Hid (Ar wr (w.heap.size + 1) 22 .u8 n) ∧ Hid (Ar wr (w.heap.size + 1 + 1) 42 .u8 (fil B 0 0)) ∧ Hid (Ar wr (w.heap.size + 1 + 1 + 1) 56 .u32 (fil L (4 + i) 0)) ∧ Hid (Fr (fun _ => False) w wr))
    (fun u8 _ => 8 - (intOf u8).toNat)
  case atStart => exact ⟨0, rfl, by omega, HW.out.1, HW.out.2.1, HW.out.2.2.1, HW.out.2.2.2.1, HW.out.2.2.2.2⟩
  case round =>
    obtain ⟨ia, rfl, hi, hK, hN, hR, hS, hF⟩ := hrel
    by_cases hlt : ia < 8
    · have hg := st_key (k := k) (n := n) (c := c) HK.out.1 ia hlt
      rw [HL0.out] at hg
      obtain ⟨x, hx⟩ : ∃ x, nb (k.getD (4 * ia) 0) (k.getD (4 * ia + 1) 0) (k.getD (4 * ia + 2) 0) (k.getD (4 * ia + 3) 0) = x := ⟨_, rfl⟩
      rw [hx] at hg
      have C : ∀ W, Ar W (w.heap.size) 28 .u8 k → Calls Try.prog 53 #[.slice (some ⟨w.heap.size, 0, none⟩) 32 32, .int .i64 (4 * (ia : Int))] W fun e w' => e = .returned (.int .u32 x) ∧ Fr (fun _ => False) W w' := fun W h => by
        have h2 := rnumber_is (w.heap.size) 32 (4 * ia) 28 k W h HK.out.1 HK.out.2 (by omega) (by omega)
        rw [hx] at h2
        rwa [show ((4 * ia : Nat) : Int) = 4 * (ia : Int) by omega] at h2
      have HG := Lib.hid hg
      clear hx hg
      have t4 : (4 + (ia : Int)).toNat = 4 + ia := by omega
      have s8 : 0 ≤ 4 + (ia : Int) := by omega
      have s9 : 4 + (ia : Int) < 16 := by omega
      go_wp2_with (go_at_call 53; refine (C _ hK.out).mono ?_; rintro e w1 ⟨rfl, hf⟩; replace hK : Hid (Ar w1 w.heap.size 28 .u8 k) := hK.out.fr hf (fun x => x); replace hN : Hid (Ar w1 (w.heap.size + 1) 22 .u8 n) := hN.out.fr hf (fun x => x); replace hR : Hid (Ar w1 (w.heap.size + 1 + 1) 42 .u8 (fil B 0 0)) := hR.out.fr hf (fun x => x); replace hS : Hid (Ar w1 (w.heap.size + 1 + 1 + 1) 56 .u32 (fil L (4 + ia) 0)) := hS.out.fr hf (fun x => x); replace hF : Hid (Fr (fun _ => False) w w1) := hF.out.trans hf; clear hf; have c1 := Ar.cell hS.out (fil_get L (4 + ia) 0 (by have := HL1.out; omega)); have f1 := Ar.frozen hS.out (4 + ia))
      have HS2 := Lib.hid (hS.out.set (4 + ia) x)
      rw [fil_set L (4 + ia) 0 _ HG.out] at HS2
      clear c1 f1
      go_roundw
      case rel => exact ⟨ia + 1, by go_num, by omega, hK.out.far (by simp <;> omega) _, hN.out.far (by simp <;> omega) _, hR.out.far (by simp) _, HS2, hF.out.setCell _ (.inr (by simp <;> omega))⟩
      case measure => simp [intOf]; omega
    · have h8 : ia = 8 := by omega
      replace hS : Hid (Ar wr (w.heap.size + 1 + 1 + 1) 56 .u32 (fil L 12 0)) := by
        have h := hS.out
        rw [h8] at h
        exact h
      clear h8
      have c1 := Ar.cell hS.out (fil_get L 12 0 (by have := HL1.out; omega))
      have f1 := Ar.frozen hS.out 12
      have HS2 := Lib.hid (hS.out.set 12 c)
      rw [fil_set L 12 0 _ (by rw [← HL0.out]; exact st_ctr HK.out.1)] at HS2
      clear hS
      have HS3 : Hid (Ar (wr.setCell ⟨w.heap.size + 1 + 1 + 1, 12, none⟩ (.int .u32 c)) (w.heap.size + 1 + 1 + 1) 56 .u32 (fil L (13 + 0) 0)) := HS2
      have K2 : Hid (Ar (wr.setCell ⟨w.heap.size + 1 + 1 + 1, 12, none⟩ (.int .u32 c)) w.heap.size 28 .u8 k) := hK.out.far (by simp <;> omega) _
      have N2 : Hid (Ar (wr.setCell ⟨w.heap.size + 1 + 1 + 1, 12, none⟩ (.int .u32 c)) (w.heap.size + 1) 22 .u8 n) := hN.out.far (by simp <;> omega) _
      have R2 : Hid (Ar (wr.setCell ⟨w.heap.size + 1 + 1 + 1, 12, none⟩ (.int .u32 c)) (w.heap.size + 1 + 1) 42 .u8 (fil B 0 0)) := hR.out.far (by simp) _
      have F2 : Hid (Fr (fun _ => False) w (wr.setCell ⟨w.heap.size + 1 + 1 + 1, 12, none⟩ (.int .u32 c))) := hF.out.setCell _ (.inr (by simp <;> omega))
      clear hK hN hR hF HS2
      go_upto_region 7 with (fail)
      generalize wr.setCell ⟨w.heap.size + 1 + 1 + 1, 12, none⟩ (.int .u32 c) = W1 at *
      clear c1 f1
      try simp only [Act.put, List.setIfInBounds_toArray, List.set_cons_succ, List.set_cons_zero]
      go_wp2
      go_loopw [9] (fun u9 wr => ∃ i : Nat, u9 = .int .i64 i ∧ i ≤ 3 ∧ Hid (Ar wr w.heap.size 28 .u8 k) ∧ Hid (Ar wr (w.heap.size + 1) 22 .u8 n) ∧ Hid (Ar wr (w.heap.size + 1 + 1) 42 .u8 (fil B 0 0)) ∧ Hid (Ar wr (w.heap.size + 1 + 1 + 1) 56 .u32 (fil L (13 + i) 0)) ∧ Hid (Fr (fun _ => False) w wr))
        (fun u9 _ => 3 - (intOf u9).toNat)
      case atStart => exact ⟨0, rfl, by omega, K2, N2, R2, HS3, F2⟩
      case round =>
        obtain ⟨ib, rfl, hi, hK, hN, hR, hS, hF⟩ := hrel
        by_cases hlt : ib < 3
        · have hg := st_nonce (k := k) (n := n) (c := c) HK.out.1 HN.out.1 ib hlt
          rw [HL0.out] at hg
          obtain ⟨x, hx⟩ : ∃ x, nb (n.getD (4 * ib) 0) (n.getD (4 * ib + 1) 0) (n.getD (4 * ib + 2) 0) (n.getD (4 * ib + 3) 0) = x := ⟨_, rfl⟩
          rw [hx] at hg
          have C : ∀ W, Ar W (w.heap.size + 1) 22 .u8 n → Calls Try.prog 53 #[.slice (some ⟨w.heap.size + 1, 0, none⟩) 12 12, .int .i64 (4 * (ib : Int))] W fun e w' => e = .returned (.int .u32 x) ∧ Fr (fun _ => False) W w' := fun W h => by
            have h2 := rnumber_is (w.heap.size + 1) 12 (4 * ib) 22 n W h HN.out.1 HN.out.2 (by omega) (by omega)
            rw [hx] at h2
            rwa [show ((4 * ib : Nat) : Int) = 4 * (ib : Int) by omega] at h2
          have HG := Lib.hid hg
          clear hx hg
          have t4 : (13 + (ib : Int)).toNat = 13 + ib := by omega
          have s8 : 0 ≤ 13 + (ib : Int) := by omega
          have s9 : 13 + (ib : Int) < 16 := by omega
          go_wp2_with (go_at_call 53; refine (C _ hN.out).mono ?_; rintro e w1 ⟨rfl, hf⟩; replace hK : Hid (Ar w1 w.heap.size 28 .u8 k) := hK.out.fr hf (fun x => x); replace hN : Hid (Ar w1 (w.heap.size + 1) 22 .u8 n) := hN.out.fr hf (fun x => x); replace hR : Hid (Ar w1 (w.heap.size + 1 + 1) 42 .u8 (fil B 0 0)) := hR.out.fr hf (fun x => x); replace hS : Hid (Ar w1 (w.heap.size + 1 + 1 + 1) 56 .u32 (fil L (13 + ib) 0)) := hS.out.fr hf (fun x => x); replace hF : Hid (Fr (fun _ => False) w w1) := hF.out.trans hf; clear hf; have c1 := Ar.cell hS.out (fil_get L (13 + ib) 0 (by have := HL1.out; omega)); have f1 := Ar.frozen hS.out (13 + ib))
          have HS2 := Lib.hid (hS.out.set (13 + ib) x)
          rw [fil_set L (13 + ib) 0 _ HG.out] at HS2
          clear c1 f1
          go_roundw
          case rel => exact ⟨ib + 1, by go_num, by omega, hK.out.far (by simp <;> omega) _, hN.out.far (by simp <;> omega) _, hR.out.far (by simp) _, HS2, hF.out.setCell _ (.inr (by simp <;> omega))⟩
          case measure => simp [intOf]; omega
        · have h3 : ib = 3 := by omega
          replace hS : Hid (Ar wr (w.heap.size + 1 + 1 + 1) 56 .u32 L) := by
            have h := hS.out
            have e := fil_all L (0 : Int)
            rw [HL1.out] at e
            rwa [h3, show 13 + 3 = 16 from rfl, e] at h
          clear h3 hK hN
          have hiL : Hid ((Try.prog.info? 56).map (·.size) = some (vs .u32 L).size) := by show _ = _; rw [size51, vs_size, HL1.out]
          obtain ⟨Z, hZ⟩ : ∃ Z, Z = List.replicate 16 (0 : Int) := ⟨_, rfl⟩
          have hz2 : ∀ W : World, (zeroValue 56).run Try.prog W = .ok (.agg (vs .u32 Z)) W := fun W => by rw [hZ]; kernel_rfl
          have hez : Hid ((vs .u32 Z).size = (vs .u32 L).size) := by show _ = _; rw [vs_size, vs_size, HL1.out, hZ]; rfl
          obtain ⟨Y, hY⟩ : ∃ Y, Y = List.replicate 32 (0 : Int) := ⟨_, rfl⟩
          have hz3 : ∀ W : World, (zeroValue 87).run Try.prog W = .ok (.agg (vs .i64 Y)) W := fun W => by rw [hY]; kernel_rfl
          have hey : Hid ((vs .i64 Y).size = (vs .i64 flatP).size) := by show _ = _; rw [hY]; rfl
          clear hZ hY
          obtain ⟨vq, hvq⟩ : ∃ q, q = wr.heap.size := ⟨_, rfl⟩
          have hq0 : w.heap.size + 1 + 1 + 1 < vq := by rw [hvq]; exact hS.out.lt
          go_upto_region 12 with (first
            | refine wpList_load_row rfl 56 (.tmp 7) rfl (w.heap.size + 1 + 1 + 1) rfl 56 (vs .u32 L) (0, 0) _ hS.out Try.underlying56 rfl hiL.out ?_
            | refine wpList_store_row rfl 56 (.tmp 10) (.tmp 44) rfl wr.heap.size (vs .u32 L) rfl rfl 56 (vs .u32 Z) (heap_alloc_new wr (.cells (vs .u32 Z) 56)) hiL.out hez.out (vs_all _ _) ?_)
          have R3 : Hid (Ar ((wr.alloc (.cells (vs .u32 Z) 56)).setRow wr.heap.size (vs .u32 L)) (w.heap.size + 1 + 1) 42 .u8 (fil B 0 0)) := (hR.out.alloc _).rowFar (by omega) _
          have S3 : Hid (Ar ((wr.alloc (.cells (vs .u32 Z) 56)).setRow wr.heap.size (vs .u32 L)) (w.heap.size + 1 + 1 + 1) 56 .u32 L) := (hS.out.alloc _).rowFar (by omega) _
          have V3 : Hid (Ar ((wr.alloc (.cells (vs .u32 Z) 56)).setRow wr.heap.size (vs .u32 L)) vq 56 .u32 (rn 0 L)) := by rw [hvq]; exact (Ar.new wr 56 .u32 Z).row L
          have F3 : Hid (Fr (fun _ => False) w ((wr.alloc (.cells (vs .u32 Z) 56)).setRow wr.heap.size (vs .u32 L))) := (hF.out.alloc _).setRow _ (.inr (by omega))
          rw [← hvq] at R3 S3 V3 F3 ⊢
          generalize (wr.alloc (.cells (vs .u32 Z) 56)).setRow vq (vs .u32 L) = W3 at *
          try simp only [Act.put, List.setIfInBounds_toArray, List.set_cons_succ, List.set_cons_zero]
          obtain ⟨FP, hFP⟩ : ∃ FP, flatP = FP := ⟨_, rfl⟩
          have C29 : ∀ W, Calls Try.prog 54 #[] W fun e w' => e = .returned (.agg (vs .i64 FP)) ∧ Fr (fun _ => False) W w' := fun W => by rw [← hFP]; exact places_is W
          have hP : Unit → flatP = FP := fun _ => hFP
          have hiP : Hid ((Try.prog.info? 87).map (·.size) = some (vs .i64 FP).size) := by show _ = _; rw [← hFP, size57]; rfl
          rw [hFP] at hey
          clear hS hR hF hez hz2 hFP hvq
          go_upto_region 13 with (first
            | (go_at_call 54; refine (C29 _).mono ?_; rintro e w4 ⟨rfl, hf⟩; replace R3 : Hid (Ar w4 (w.heap.size + 1 + 1) 42 .u8 (fil B 0 0)) := R3.out.fr hf (fun x => x); replace S3 : Hid (Ar w4 (w.heap.size + 1 + 1 + 1) 56 .u32 L) := S3.out.fr hf (fun x => x); replace V3 : Hid (Ar w4 vq 56 .u32 (rn 0 L)) := V3.out.fr hf (fun x => x); replace F3 : Hid (Fr (fun _ => False) w w4) := F3.out.trans hf; clear hf; obtain ⟨tq, htq⟩ : ∃ q, q = w4.heap.size := ⟨_, rfl⟩)
            | refine wpList_store_row rfl 87 (.tmp 11) (.tmp 45) rfl w4.heap.size (vs .i64 FP) rfl rfl 87 (vs .i64 Y) (heap_alloc_new w4 (.cells (vs .i64 Y) 87)) hiP.out hey.out (vs_all _ _) ?_)
          have hq1 : vq < tq := by rw [htq]; exact V3.out.lt
          have R4 : Hid (Ar ((w4.alloc (.cells (vs .i64 Y) 87)).setRow w4.heap.size (vs .i64 FP)) (w.heap.size + 1 + 1) 42 .u8 (fil B 0 0)) := (R3.out.alloc _).rowFar (by omega) _
          have S4 : Hid (Ar ((w4.alloc (.cells (vs .i64 Y) 87)).setRow w4.heap.size (vs .i64 FP)) (w.heap.size + 1 + 1 + 1) 56 .u32 L) := (S3.out.alloc _).rowFar (by omega) _
          have V4 : Hid (Ar ((w4.alloc (.cells (vs .i64 Y) 87)).setRow w4.heap.size (vs .i64 FP)) vq 56 .u32 (rn 0 L)) := (V3.out.alloc _).rowFar (by omega) _
          have T4 : Hid (Ar ((w4.alloc (.cells (vs .i64 Y) 87)).setRow w4.heap.size (vs .i64 FP)) tq 87 .i64 FP) := by rw [htq]; exact (Ar.new w4 87 .i64 Y).row FP
          have F4 : Hid (Fr (fun _ => False) w ((w4.alloc (.cells (vs .i64 Y) 87)).setRow w4.heap.size (vs .i64 FP))) := (F3.out.alloc _).setRow _ (.inr (by have := F3.out.size; omega))
          rw [← htq] at R4 S4 V4 T4 F4 ⊢
          generalize (w4.alloc (.cells (vs .i64 Y) 87)).setRow tq (vs .i64 FP) = W4 at *
          clear R3 S3 V3 F3 htq hz3 hey C29 hiP hiL
          have HQ := Lib.hid (And.intro hq0 hq1)
          clear hq0 hq1
          try simp only [Act.put, List.setIfInBounds_toArray, List.set_cons_succ, List.set_cons_zero]
          go_wp2
          go_loopw [12] (fun u12 wr => ∃ r : Nat, u12 = .int .i64 r ∧ r ≤ 10 ∧ Hid (Ar wr (w.heap.size + 1 + 1) 42 .u8 (fil B 0 0)) ∧ Hid (Ar wr (w.heap.size + 1 + 1 + 1) 56 .u32 L) ∧ Hid (Ar wr vq 56 .u32 (rn r L)) ∧ Hid (Ar wr tq 87 .i64 FP) ∧ Hid (Fr (fun _ => False) w wr))
            (fun u12 _ => 10 - (intOf u12).toNat)
          case atStart => exact ⟨0, rfl, by omega, R4, S4, V4, T4, F4⟩
          case round =>
            obtain ⟨r, rfl, hr, hR, hS, hV, hT, hF⟩ := hrel
            by_cases hrl : r < 10
            · obtain ⟨t, ht⟩ : ∃ t, rn r L = t := ⟨_, rfl⟩
              have ok := rn_ok HL1.out HL2.out r
              rw [ht] at ok hV
              have HT := Lib.hid ok
              have hnext : Unit → rn (r + 1) L = rds t := fun _ => by rw [← ht]; rfl
              clear ht ok
              go_wp2
              generalize decide ((r : Int) < 10) = br
              go_loopw [13] (fun u13 wr => ∃ m : Nat, u13 = .int .i64 m ∧ m ≤ 8 ∧ Hid (Ar wr (w.heap.size + 1 + 1) 42 .u8 (fil B 0 0)) ∧ Hid (Ar wr (w.heap.size + 1 + 1 + 1) 56 .u32 L) ∧ Hid (Ar wr vq 56 .u32 (pk m t)) ∧ Hid (Ar wr tq 87 .i64 FP) ∧ Hid (Fr (fun _ => False) w wr))
                (fun u13 _ => 8 - (intOf u13).toNat)
              case atStart => exact ⟨0, rfl, by omega, hR, hS, hV, hT, hF⟩
              case round =>
                obtain ⟨m, rfl, hm, hR, hS, hV, hT, hF⟩ := hrel
                by_cases hml : m < 8
                · obtain ⟨s, hs⟩ : ∃ s, pk m t = s := ⟨_, rfl⟩
                  have ok := pk_ok HT.out.1 HT.out.2 m
                  rw [hs] at ok hV
                  have HS := Lib.hid ok
                  obtain ⟨p0, p1, p2, p3, hpl, b0, b1, b2, b3, hfl⟩ := flat_at m hml
                  rw [hP ()] at hfl
                  have hnext2 : Unit → pk (m + 1) t = qat s p0 p1 p2 p3 := fun _ => by rw [pk_succ t m hml, hs, hpl]; rfl
                  clear hs ok hpl
                  have rg : wr.rangeAt tq (4 * m) [.int .i64 p0, .int .i64 p1, .int .i64 p2, .int .i64 p3] := flat_range hT.out hfl
                  have hB := Lib.hid (And.intro b0 (And.intro b1 (And.intro b2 b3)))
                  clear b0 b1 b2 b3 hfl
                  obtain ⟨pq, hpq⟩ : ∃ q, q = wr.heap.size := ⟨_, rfl⟩
                  have hq2 : tq < pq := by rw [hpq]; exact hT.out.lt
                  rw [Nat.mul_comm] at rg
                  have k0 : wr.cell? ⟨tq, m * 4, none⟩ = some (.int .i64 p0) := rg 0 _ rfl
                  have k1 : wr.cell? ⟨tq, m * 4 + 1, none⟩ = some (.int .i64 p1) := rg 1 _ rfl
                  have k2 : wr.cell? ⟨tq, m * 4 + 2, none⟩ = some (.int .i64 p2) := rg 2 _ rfl
                  have k3 : wr.cell? ⟨tq, m * 4 + 3, none⟩ = some (.int .i64 p3) := rg 3 _ rfl
                  clear rg
                  go_upto_region 20 with (fail)
                  have hx0 := getD_some (l := s) (i := p0) (by have := HS.out.1; have := hB.out.1; omega)
                  have hx1 := getD_some (l := s) (i := p1) (by have := HS.out.1; have := hB.out.2.1; omega)
                  have hx2 := getD_some (l := s) (i := p2) (by have := HS.out.1; have := hB.out.2.2.1; omega)
                  have hx3 := getD_some (l := s) (i := p3) (by have := HS.out.1; have := hB.out.2.2.2; omega)
                  obtain ⟨x0, e0⟩ : ∃ x, s.getD p0 0 = x := ⟨_, rfl⟩
                  obtain ⟨x1, e1⟩ : ∃ x, s.getD p1 0 = x := ⟨_, rfl⟩
                  obtain ⟨x2, e2⟩ : ∃ x, s.getD p2 0 = x := ⟨_, rfl⟩
                  obtain ⟨x3, e3⟩ : ∃ x, s.getD p3 0 = x := ⟨_, rfl⟩
                  rw [e0] at hx0
                  rw [e1] at hx1
                  rw [e2] at hx2
                  rw [e3] at hx3
                  have y0 := HS.out.2 x0 (List.mem_of_getElem? hx0)
                  have y1 := HS.out.2 x1 (List.mem_of_getElem? hx1)
                  have y2 := HS.out.2 x2 (List.mem_of_getElem? hx2)
                  have y3 := HS.out.2 x3 (List.mem_of_getElem? hx3)
                  obtain ⟨z0, z1, z2, z3, hqr⟩ := qr_ex y0 y1 y2 y3
                  have CQ : ∀ W, Calls Try.prog 55 #[.agg (vs .u32 [x0, x1, x2, x3])] W fun e w' => e = .returned (.agg (vs .u32 [z0, z1, z2, z3])) ∧ Fr (fun _ => False) W w' := fun W => rquarter_is _ _ _ _ _ _ _ _ W y0 y1 y2 y3 hqr
                  have hfour := ps_four e0 e1 e2 e3 hqr.eq
                  rw [← hnext2 ()] at hfour
                  have HX := Lib.hid (And.intro hx0 (And.intro hx1 (And.intro hx2 hx3)))
                  have i0 : (p0 : Int) < 16 := by have := hB.out.1; omega
                  have i1 : (p1 : Int) < 16 := by have := hB.out.2.1; omega
                  have i2 : (p2 : Int) < 16 := by have := hB.out.2.2.1; omega
                  have i3 : (p3 : Int) < 16 := by have := hB.out.2.2.2; omega
                  clear hx0 hx1 hx2 hx3 e0 e1 e2 e3 y0 y1 y2 y3 hqr k0 k1 k2 k3 hnext2
                  have HFour := Lib.hid hfour
                  clear hfour
                  have XR := Lib.hid (Ar.alloc hR.out (.cells (vs .i64 [(p0 : Int), p1, p2, p3]) 86))
                  have XS := Lib.hid (Ar.alloc hS.out (.cells (vs .i64 [(p0 : Int), p1, p2, p3]) 86))
                  have XV := Lib.hid (Ar.alloc hV.out (.cells (vs .i64 [(p0 : Int), p1, p2, p3]) 86))
                  have XT := Lib.hid (Ar.alloc hT.out (.cells (vs .i64 [(p0 : Int), p1, p2, p3]) 86))
                  have XP := Lib.hid (Ar.new wr 86 .i64 [(p0 : Int), p1, p2, p3])
                  have F5 := Lib.hid (Fr.alloc hF.out (.cells (vs .i64 [(p0 : Int), p1, p2, p3]) 86))
                  rw [← hpq] at XP ⊢
                  change Code.wp _ _ _ _ (wr.alloc (.cells (vs .i64 [(p0 : Int), p1, p2, p3]) 86))
                  generalize wr.alloc (.cells (vs .i64 [(p0 : Int), p1, p2, p3]) 86) = W5 at *
                  clear hR hS hV hT hF hpq
                  have HQ2 := Lib.hid hq2
                  clear hq2
                  generalize decide ((m : Int) < 8) = bm
                  refine wp_region_inv2 (fun b a w' => ∃ g15 : Nat, Fr (fun _ => False) W5 w' ∧ (b 18 = true → W5.heap.size ≤ g15 ∧ w'.heap[g15]? = some (.cells (if b 19 = true then vs .u32 [z0, z1, z2, z3] else vs .u32 [0, 0, 0, 0]) 89 (0, 0))) ∧ (b 19 = true → b 18 = true) ∧ a = ⟨#[.agg (vs .u8 k), .int .u32 c, .agg (vs .u8 n), .pointer (some ⟨w.heap.size, 0, none⟩), undef, .pointer (some ⟨w.heap.size + 1, 0, none⟩), .pointer (some ⟨w.heap.size + 1 + 1, 0, none⟩), .pointer (some ⟨w.heap.size + 1 + 1 + 1, 0, none⟩), .int .i64 ia, .int .i64 ib, .pointer (some ⟨vq, 0, none⟩), .pointer (some ⟨tq, 0, none⟩), .int .i64 r, .int .i64 m, .pointer (some ⟨pq, 0, none⟩), if b 18 = true then .pointer (some ⟨g15, 0, none⟩) else u15, u16, undef, undef, .agg (vs .u32 (fil L 4 0)), .int .i64 ia, .bool (decide ((ia : Int) < 8)), u22, u23, u24, u25, u26, u27, u28, u29, u30, .int .u32 c, .pointer (some ⟨w.heap.size + 1 + 1 + 1, 12, none⟩), .int .i64 ib, .bool (decide ((ib : Int) < 3)), u35, u36, u37, u38, u39, u40, u41, u42, u43, .agg (vs .u32 L), .agg (vs .i64 FP), .int .i64 r, .bool br, u48, u49, .int .i64 m, .bool bm, u52, u53, .int .i64 m, .pointer (some ⟨tq, m * 4, none⟩), .agg #[.int .i64 p0, .int .i64 p1, .int .i64 p2, .int .i64 p3], if b 0 = true then .pointer (some ⟨pq, 0, none⟩) else u57, if b 1 = true then .int .i64 p0 else u58, if b 2 = true then .pointer (some ⟨vq, p0, none⟩) else u59, if b 3 = true then .int .u32 x0 else u60, if b 4 = true then .pointer (some ⟨pq, 1, none⟩) else u61, if b 5 = true then .int .i64 p1 else u62, if b 6 = true then .pointer (some ⟨vq, p1, none⟩) else u63, if b 7 = true then .int .u32 x1 else u64, if b 8 = true then .pointer (some ⟨pq, 2, none⟩) else u65, if b 9 = true then .int .i64 p2 else u66, if b 10 = true then .pointer (some ⟨vq, p2, none⟩) else u67, if b 11 = true then .int .u32 x2 else u68, if b 12 = true then .pointer (some ⟨pq, 3, none⟩) else u69, if b 13 = true then .int .i64 p3 else u70, if b 14 = true then .pointer (some ⟨vq, p3, none⟩) else u71, if b 15 = true then .int .u32 x3 else u72, if b 16 = true then .agg (vs .u32 [x0, x1, x2, x3]) else u73, if b 17 = true then .agg (vs .u32 [z0, z1, z2, z3]) else u74, u75, u76, u77, u78, u79, u80, u81, u82, u83, u84, u85, undef, undef, undef, undef, undef, undef, undef, undef, undef, undef, undef, undef, undef, undef, undef, undef, undef, undef, undef, undef, undef], []⟩) (by kernel_rfl) (by kernel_rfl) ?start20 ?step20 ?done20
                  case start20 => exact ⟨0, ⟨rfl, rfl, rfl, Nat.le_refl _, fun _ _ _ => rfl⟩, by simp, by simp, by simp⟩
                  case step20 =>
                    intro i o b a w1 ho hI hb hr hc
                    obtain ⟨g15, hF, h18, hq18, rfl⟩ := hI
                    match i, ho with
                    | 0, ho =>
                      injection ho with ho
                      subst ho
                      refine wp_quiet_here (.pointer (some ⟨pq, 0, none⟩)) ?_ (fun w2 hw2 => ?_)
                      · simp only [Bool.false_eq_true] 
                        go_big_quiet_op
                        first
                          | (simp [Act.put]; done)
                          | exact ⟨_, fun _ _ => rfl, by simp [Act.put]⟩
                      refine ⟨g15, hF.trans hw2, ?_, ?_, ?_⟩
                      · intro hx
                        replace hx : b 18 = true := by simpa [upd] using hx
                        obtain ⟨k1', k2⟩ := h18 hx
                        refine ⟨k1', (hw2.block _ (heap_lt k2) (fun x => x)).trans ?_⟩
                        rw [k2]
                        simp [upd]
                      · simpa [upd] using hq18
                      · simp [upd, Act.put]
                    | 1, ho =>
                      injection ho with ho
                      subst ho
                      simp [Region.binds] at hr
                      have d0 : b 0 = true := by simp only [hr]
                      simp only [hr, if_true]
                      refine wp_quiet_here (.int .i64 p0) (quiet_cell (.tmp 57) 3 .i64 rfl pq 0 rfl [(p0 : Int), p1, p2, p3] _ rfl 86 (fun _ h => (Fr.block h _ (Nat.lt_of_lt_of_le (heap_lt XP.out) hF.size) (fun x => x)).trans ((hF.block _ (heap_lt XP.out) (fun x => x)).trans XP.out)) Try.underlying3 rfl) (fun w2 hw2 => ?_)
                      refine ⟨g15, hF.trans hw2, ?_, ?_, ?_⟩
                      · intro hx
                        replace hx : b 18 = true := by simpa [upd] using hx
                        obtain ⟨k1', k2⟩ := h18 hx
                        refine ⟨k1', (hw2.block _ (heap_lt k2) (fun x => x)).trans ?_⟩
                        rw [k2]
                        simp [upd]
                      · simpa [upd] using hq18
                      · simp [upd, Act.put, hr]
                    | 2, ho =>
                      injection ho with ho
                      subst ho
                      simp [Region.binds] at hr
                      have d1 : b 1 = true := by simp only [hr]
                      simp only [hr, if_true]
                      refine wp_quiet_here (.pointer (some ⟨vq, p0, none⟩)) ?_ (fun w2 hw2 => ?_)
                      · go_big_quiet_op
                        first
                          | (simp [Act.put]; done)
                          | exact ⟨_, fun _ _ => rfl, by simp [Act.put]⟩
                      refine ⟨g15, hF.trans hw2, ?_, ?_, ?_⟩
                      · intro hx
                        replace hx : b 18 = true := by simpa [upd] using hx
                        obtain ⟨k1', k2⟩ := h18 hx
                        refine ⟨k1', (hw2.block _ (heap_lt k2) (fun x => x)).trans ?_⟩
                        rw [k2]
                        simp [upd]
                      · simpa [upd] using hq18
                      · simp [upd, Act.put, hr]
                    | 3, ho =>
                      injection ho with ho
                      subst ho
                      simp [Region.binds] at hr
                      have d2 : b 2 = true := by simp only [hr]
                      simp only [hr, if_true]
                      refine wp_quiet_here (.int .u32 x0) (quiet_cell (.tmp 59) 41 .u32 rfl vq p0 rfl s _ HX.out.1 56 (fun _ h => (Fr.block h _ (Nat.lt_of_lt_of_le (heap_lt XV.out) hF.size) (fun x => x)).trans ((hF.block _ (heap_lt XV.out) (fun x => x)).trans XV.out)) Try.underlying41 rfl) (fun w2 hw2 => ?_)
                      refine ⟨g15, hF.trans hw2, ?_, ?_, ?_⟩
                      · intro hx
                        replace hx : b 18 = true := by simpa [upd] using hx
                        obtain ⟨k1', k2⟩ := h18 hx
                        refine ⟨k1', (hw2.block _ (heap_lt k2) (fun x => x)).trans ?_⟩
                        rw [k2]
                        simp [upd]
                      · simpa [upd] using hq18
                      · simp [upd, Act.put, hr]
                    | 4, ho =>
                      injection ho with ho
                      subst ho
                      refine wp_quiet_here (.pointer (some ⟨pq, 1, none⟩)) ?_ (fun w2 hw2 => ?_)
                      · simp only [Bool.false_eq_true] 
                        go_big_quiet_op
                        first
                          | (simp [Act.put]; done)
                          | exact ⟨_, fun _ _ => rfl, by simp [Act.put]⟩
                      refine ⟨g15, hF.trans hw2, ?_, ?_, ?_⟩
                      · intro hx
                        replace hx : b 18 = true := by simpa [upd] using hx
                        obtain ⟨k1', k2⟩ := h18 hx
                        refine ⟨k1', (hw2.block _ (heap_lt k2) (fun x => x)).trans ?_⟩
                        rw [k2]
                        simp [upd]
                      · simpa [upd] using hq18
                      · simp [upd, Act.put]
                    | 5, ho =>
                      injection ho with ho
                      subst ho
                      simp [Region.binds] at hr
                      have d4 : b 4 = true := by simp only [hr]
                      simp only [hr, if_true]
                      refine wp_quiet_here (.int .i64 p1) (quiet_cell (.tmp 61) 3 .i64 rfl pq 1 rfl [(p0 : Int), p1, p2, p3] _ rfl 86 (fun _ h => (Fr.block h _ (Nat.lt_of_lt_of_le (heap_lt XP.out) hF.size) (fun x => x)).trans ((hF.block _ (heap_lt XP.out) (fun x => x)).trans XP.out)) Try.underlying3 rfl) (fun w2 hw2 => ?_)
                      refine ⟨g15, hF.trans hw2, ?_, ?_, ?_⟩
                      · intro hx
                        replace hx : b 18 = true := by simpa [upd] using hx
                        obtain ⟨k1', k2⟩ := h18 hx
                        refine ⟨k1', (hw2.block _ (heap_lt k2) (fun x => x)).trans ?_⟩
                        rw [k2]
                        simp [upd]
                      · simpa [upd] using hq18
                      · simp [upd, Act.put, hr]
                    | 6, ho =>
                      injection ho with ho
                      subst ho
                      simp [Region.binds] at hr
                      have d5 : b 5 = true := by simp only [hr]
                      simp only [hr, if_true]
                      refine wp_quiet_here (.pointer (some ⟨vq, p1, none⟩)) ?_ (fun w2 hw2 => ?_)
                      · go_big_quiet_op
                        first
                          | (simp [Act.put]; done)
                          | exact ⟨_, fun _ _ => rfl, by simp [Act.put]⟩
                      refine ⟨g15, hF.trans hw2, ?_, ?_, ?_⟩
                      · intro hx
                        replace hx : b 18 = true := by simpa [upd] using hx
                        obtain ⟨k1', k2⟩ := h18 hx
                        refine ⟨k1', (hw2.block _ (heap_lt k2) (fun x => x)).trans ?_⟩
                        rw [k2]
                        simp [upd]
                      · simpa [upd] using hq18
                      · simp [upd, Act.put, hr]
                    | 7, ho =>
                      injection ho with ho
                      subst ho
                      simp [Region.binds] at hr
                      have d6 : b 6 = true := by simp only [hr]
                      simp only [hr, if_true]
                      refine wp_quiet_here (.int .u32 x1) (quiet_cell (.tmp 63) 41 .u32 rfl vq p1 rfl s _ HX.out.2.1 56 (fun _ h => (Fr.block h _ (Nat.lt_of_lt_of_le (heap_lt XV.out) hF.size) (fun x => x)).trans ((hF.block _ (heap_lt XV.out) (fun x => x)).trans XV.out)) Try.underlying41 rfl) (fun w2 hw2 => ?_)
                      refine ⟨g15, hF.trans hw2, ?_, ?_, ?_⟩
                      · intro hx
                        replace hx : b 18 = true := by simpa [upd] using hx
                        obtain ⟨k1', k2⟩ := h18 hx
                        refine ⟨k1', (hw2.block _ (heap_lt k2) (fun x => x)).trans ?_⟩
                        rw [k2]
                        simp [upd]
                      · simpa [upd] using hq18
                      · simp [upd, Act.put, hr]
                    | 8, ho =>
                      injection ho with ho
                      subst ho
                      refine wp_quiet_here (.pointer (some ⟨pq, 2, none⟩)) ?_ (fun w2 hw2 => ?_)
                      · simp only [Bool.false_eq_true] 
                        go_big_quiet_op
                        first
                          | (simp [Act.put]; done)
                          | exact ⟨_, fun _ _ => rfl, by simp [Act.put]⟩
                      refine ⟨g15, hF.trans hw2, ?_, ?_, ?_⟩
                      · intro hx
                        replace hx : b 18 = true := by simpa [upd] using hx
                        obtain ⟨k1', k2⟩ := h18 hx
                        refine ⟨k1', (hw2.block _ (heap_lt k2) (fun x => x)).trans ?_⟩
                        rw [k2]
                        simp [upd]
                      · simpa [upd] using hq18
                      · simp [upd, Act.put]
                    | 9, ho =>
                      injection ho with ho
                      subst ho
                      simp [Region.binds] at hr
                      have d8 : b 8 = true := by simp only [hr]
                      simp only [hr, if_true]
                      refine wp_quiet_here (.int .i64 p2) (quiet_cell (.tmp 65) 3 .i64 rfl pq 2 rfl [(p0 : Int), p1, p2, p3] _ rfl 86 (fun _ h => (Fr.block h _ (Nat.lt_of_lt_of_le (heap_lt XP.out) hF.size) (fun x => x)).trans ((hF.block _ (heap_lt XP.out) (fun x => x)).trans XP.out)) Try.underlying3 rfl) (fun w2 hw2 => ?_)
                      refine ⟨g15, hF.trans hw2, ?_, ?_, ?_⟩
                      · intro hx
                        replace hx : b 18 = true := by simpa [upd] using hx
                        obtain ⟨k1', k2⟩ := h18 hx
                        refine ⟨k1', (hw2.block _ (heap_lt k2) (fun x => x)).trans ?_⟩
                        rw [k2]
                        simp [upd]
                      · simpa [upd] using hq18
                      · simp [upd, Act.put, hr]
                    | 10, ho =>
                      injection ho with ho
                      subst ho
                      simp [Region.binds] at hr
                      have d9 : b 9 = true := by simp only [hr]
                      simp only [hr, if_true]
                      refine wp_quiet_here (.pointer (some ⟨vq, p2, none⟩)) ?_ (fun w2 hw2 => ?_)
                      · go_big_quiet_op
                        first
                          | (simp [Act.put]; done)
                          | exact ⟨_, fun _ _ => rfl, by simp [Act.put]⟩
                      refine ⟨g15, hF.trans hw2, ?_, ?_, ?_⟩
                      · intro hx
                        replace hx : b 18 = true := by simpa [upd] using hx
                        obtain ⟨k1', k2⟩ := h18 hx
                        refine ⟨k1', (hw2.block _ (heap_lt k2) (fun x => x)).trans ?_⟩
                        rw [k2]
                        simp [upd]
                      · simpa [upd] using hq18
                      · simp [upd, Act.put, hr]
                    | 11, ho =>
                      injection ho with ho
                      subst ho
                      simp [Region.binds] at hr
                      have d10 : b 10 = true := by simp only [hr]
                      simp only [hr, if_true]
                      refine wp_quiet_here (.int .u32 x2) (quiet_cell (.tmp 67) 41 .u32 rfl vq p2 rfl s _ HX.out.2.2.1 56 (fun _ h => (Fr.block h _ (Nat.lt_of_lt_of_le (heap_lt XV.out) hF.size) (fun x => x)).trans ((hF.block _ (heap_lt XV.out) (fun x => x)).trans XV.out)) Try.underlying41 rfl) (fun w2 hw2 => ?_)
                      refine ⟨g15, hF.trans hw2, ?_, ?_, ?_⟩
                      · intro hx
                        replace hx : b 18 = true := by simpa [upd] using hx
                        obtain ⟨k1', k2⟩ := h18 hx
                        refine ⟨k1', (hw2.block _ (heap_lt k2) (fun x => x)).trans ?_⟩
                        rw [k2]
                        simp [upd]
                      · simpa [upd] using hq18
                      · simp [upd, Act.put, hr]
                    | 12, ho =>
                      injection ho with ho
                      subst ho
                      refine wp_quiet_here (.pointer (some ⟨pq, 3, none⟩)) ?_ (fun w2 hw2 => ?_)
                      · simp only [Bool.false_eq_true] 
                        go_big_quiet_op
                        first
                          | (simp [Act.put]; done)
                          | exact ⟨_, fun _ _ => rfl, by simp [Act.put]⟩
                      refine ⟨g15, hF.trans hw2, ?_, ?_, ?_⟩
                      · intro hx
                        replace hx : b 18 = true := by simpa [upd] using hx
                        obtain ⟨k1', k2⟩ := h18 hx
                        refine ⟨k1', (hw2.block _ (heap_lt k2) (fun x => x)).trans ?_⟩
                        rw [k2]
                        simp [upd]
                      · simpa [upd] using hq18
                      · simp [upd, Act.put]
                    | 13, ho =>
                      injection ho with ho
                      subst ho
                      simp [Region.binds] at hr
                      have d12 : b 12 = true := by simp only [hr]
                      simp only [hr, if_true]
                      refine wp_quiet_here (.int .i64 p3) (quiet_cell (.tmp 69) 3 .i64 rfl pq 3 rfl [(p0 : Int), p1, p2, p3] _ rfl 86 (fun _ h => (Fr.block h _ (Nat.lt_of_lt_of_le (heap_lt XP.out) hF.size) (fun x => x)).trans ((hF.block _ (heap_lt XP.out) (fun x => x)).trans XP.out)) Try.underlying3 rfl) (fun w2 hw2 => ?_)
                      refine ⟨g15, hF.trans hw2, ?_, ?_, ?_⟩
                      · intro hx
                        replace hx : b 18 = true := by simpa [upd] using hx
                        obtain ⟨k1', k2⟩ := h18 hx
                        refine ⟨k1', (hw2.block _ (heap_lt k2) (fun x => x)).trans ?_⟩
                        rw [k2]
                        simp [upd]
                      · simpa [upd] using hq18
                      · simp [upd, Act.put, hr]
                    | 14, ho =>
                      injection ho with ho
                      subst ho
                      simp [Region.binds] at hr
                      have d13 : b 13 = true := by simp only [hr]
                      simp only [hr, if_true]
                      refine wp_quiet_here (.pointer (some ⟨vq, p3, none⟩)) ?_ (fun w2 hw2 => ?_)
                      · go_big_quiet_op
                        first
                          | (simp [Act.put]; done)
                          | exact ⟨_, fun _ _ => rfl, by simp [Act.put]⟩
                      refine ⟨g15, hF.trans hw2, ?_, ?_, ?_⟩
                      · intro hx
                        replace hx : b 18 = true := by simpa [upd] using hx
                        obtain ⟨k1', k2⟩ := h18 hx
                        refine ⟨k1', (hw2.block _ (heap_lt k2) (fun x => x)).trans ?_⟩
                        rw [k2]
                        simp [upd]
                      · simpa [upd] using hq18
                      · simp [upd, Act.put, hr]
                    | 15, ho =>
                      injection ho with ho
                      subst ho
                      simp [Region.binds] at hr
                      have d14 : b 14 = true := by simp only [hr]
                      simp only [hr, if_true]
                      refine wp_quiet_here (.int .u32 x3) (quiet_cell (.tmp 71) 41 .u32 rfl vq p3 rfl s _ HX.out.2.2.2 56 (fun _ h => (Fr.block h _ (Nat.lt_of_lt_of_le (heap_lt XV.out) hF.size) (fun x => x)).trans ((hF.block _ (heap_lt XV.out) (fun x => x)).trans XV.out)) Try.underlying41 rfl) (fun w2 hw2 => ?_)
                      refine ⟨g15, hF.trans hw2, ?_, ?_, ?_⟩
                      · intro hx
                        replace hx : b 18 = true := by simpa [upd] using hx
                        obtain ⟨k1', k2⟩ := h18 hx
                        refine ⟨k1', (hw2.block _ (heap_lt k2) (fun x => x)).trans ?_⟩
                        rw [k2]
                        simp [upd]
                      · simpa [upd] using hq18
                      · simp [upd, Act.put, hr]
                    | 16, ho =>
                      injection ho with ho
                      subst ho
                      simp [Region.binds] at hr
                      have d3 : b 3 = true := by simp only [hr]
                      have d7 : b 7 = true := by simp only [hr]
                      have d11 : b 11 = true := by simp only [hr]
                      have d15 : b 15 = true := by simp only [hr]
                      simp only [hr, if_true]
                      refine wp_quiet_here (.agg (vs .u32 [x0, x1, x2, x3])) (quiet_run _ (fun _ _ => by kernel_rfl) rfl) (fun w2 hw2 => ?_)
                      refine ⟨g15, hF.trans hw2, ?_, ?_, ?_⟩
                      · intro hx
                        replace hx : b 18 = true := by simpa [upd] using hx
                        obtain ⟨k1', k2⟩ := h18 hx
                        refine ⟨k1', (hw2.block _ (heap_lt k2) (fun x => x)).trans ?_⟩
                        rw [k2]
                        simp [upd]
                      · simpa [upd] using hq18
                      · simp [upd, Act.put, hr]
                    | 17, ho =>
                      injection ho with ho
                      subst ho
                      simp [Region.binds] at hr
                      have d16 : b 16 = true := by simp only [hr]
                      simp only [hr, if_true]
                      refine wp_quiet_here (.agg (vs .u32 [z0, z1, z2, z3])) ?_ (fun w2 hw2 => ?_)
                      · go_big_quiet_op
                        exact ⟨_, Calm.calls CQ, by simp [Act.put]⟩
                      refine ⟨g15, hF.trans hw2, ?_, ?_, ?_⟩
                      · intro hx
                        replace hx : b 18 = true := by simpa [upd] using hx
                        obtain ⟨k1', k2⟩ := h18 hx
                        refine ⟨k1', (hw2.block _ (heap_lt k2) (fun x => x)).trans ?_⟩
                        rw [k2]
                        simp [upd]
                      · simpa [upd] using hq18
                      · simp [upd, Act.put, hr]
                    | 18, ho =>
                      injection ho with ho
                      subst ho
                      refine wp_alloc_any 89 rfl (vs .u32 [0, 0, 0, 0]) zero4 ?_
                      refine ⟨w1.heap.size, hF.alloc _, ?_, ?_, ?_⟩
                      · intro _
                        refine ⟨hF.size, (heap_alloc_new w1 _).trans ?_⟩
                        have hs : b 19 = false := by
                          rcases hbs : b 19 with _ | _
                          · rfl
                          · rw [hq18 hbs] at hb
                            cases hb
                        simp [upd, hs]
                      · simp [upd]
                      · simp [upd, Act.put]
                    | 19, ho =>
                      injection ho with ho
                      subst ho
                      simp [Region.binds] at hr
                      have d17 : b 17 = true := by simp only [hr]
                      have d18 : b 18 = true := by simp only [hr]
                      simp only [hr, if_true]
                      obtain ⟨k1, k2⟩ := h18 d18
                      rw [hb] at k2
                      simp only [Bool.false_eq_true, if_false] at k2
                      refine wp_store_row 89 (.tmp 15) (.tmp 74) rfl g15 (vs .u32 [z0, z1, z2, z3]) rfl rfl 89 _ k2 (by rw [size4]; rfl) rfl (vs_all _ _) ?_
                      refine ⟨g15, hF.setRow _ (.inr k1), ?_, ?_, ?_⟩
                      · intro _
                        refine ⟨k1, (setRow_heap _ _ _ _ _ _ k2).trans ?_⟩
                        simp [upd]
                      · simp [upd, d18]
                      · simp [upd, Act.put, hr]
                    | j + 20, ho => exact absurd ho (by simp)
                  intro b a W21 hall hI
                  obtain ⟨g15, hF, h18, hq18, rfl⟩ := hI
                  have t0 : b 0 = true := hall 0 (by simp)
                  have t1 : b 1 = true := hall 1 (by simp)
                  have t2 : b 2 = true := hall 2 (by simp)
                  have t3 : b 3 = true := hall 3 (by simp)
                  have t4 : b 4 = true := hall 4 (by simp)
                  have t5 : b 5 = true := hall 5 (by simp)
                  have t6 : b 6 = true := hall 6 (by simp)
                  have t7 : b 7 = true := hall 7 (by simp)
                  have t8 : b 8 = true := hall 8 (by simp)
                  have t9 : b 9 = true := hall 9 (by simp)
                  have t10 : b 10 = true := hall 10 (by simp)
                  have t11 : b 11 = true := hall 11 (by simp)
                  have t12 : b 12 = true := hall 12 (by simp)
                  have t13 : b 13 = true := hall 13 (by simp)
                  have t14 : b 14 = true := hall 14 (by simp)
                  have t15 : b 15 = true := hall 15 (by simp)
                  have t16 : b 16 = true := hall 16 (by simp)
                  have t17 : b 17 = true := hall 17 (by simp)
                  have t18 : b 18 = true := hall 18 (by simp)
                  have t19 : b 19 = true := hall 19 (by simp)
                  simp only [t0, t1, t2, t3, t4, t5, t6, t7, t8, t9, t10, t11, t12, t13, t14, t15, t16, t17, t18, t19, if_true, true_implies] at h18 hq18 ⊢
                  have F21 : Hid (Fr (fun _ => False) w W21) := F5.out.trans hF
                  have X21_0 := Lib.hid ((hF.block _ (heap_lt XR.out) (fun x => x)).trans XR.out)
                  have X21_1 := Lib.hid ((hF.block _ (heap_lt XS.out) (fun x => x)).trans XS.out)
                  have X21_2 := Lib.hid ((hF.block _ (heap_lt XV.out) (fun x => x)).trans XV.out)
                  have X21_3 := Lib.hid ((hF.block _ (heap_lt XT.out) (fun x => x)).trans XT.out)
                  have X21_4 := Lib.hid ((hF.block _ (heap_lt XP.out) (fun x => x)).trans XP.out)
                  have X21_5 := Lib.hid h18.2
                  have Yg15 : w.heap.size ≤ g15 := Nat.le_trans F5.out.size h18.1
                  have Dg15_vq : (vq) ≠ g15 := by
                    have q := heap_lt XV.out
                    have q2 := h18.1
                    omega
                  clear hall hF h18 hq18 t0 t1 t2 t3 t4 t5 t6 t7 t8 t9 t10 t11 t12 t13 t14 t15 t16 t17 t18 t19 F5
                  have HQ3 := Lib.hid (And.intro Yg15 Dg15_vq)
                  clear Yg15 Dg15_vq HX CQ i0 i1 i2 i3
                  try simp only [Act.put, List.setIfInBounds_toArray, List.set_cons_succ, List.set_cons_zero]
                  go_wp2
                  go_loopw [16] (fun u16 wr => ∃ i : Nat, u16 = .int .i64 i ∧ i ≤ 4 ∧ Hid (Ar wr (w.heap.size + 1 + 1) 42 .u8 (fil B 0 0)) ∧ Hid (Ar wr (w.heap.size + 1 + 1 + 1) 56 .u32 L) ∧ Hid (Ar wr vq 56 .u32 (ps s [p0, p1, p2, p3] [z0, z1, z2, z3] i)) ∧ Hid (Ar wr tq 87 .i64 FP) ∧ Hid (Ar wr pq 86 .i64 [(p0 : Int), p1, p2, p3]) ∧ Hid (Ar wr g15 89 .u32 [z0, z1, z2, z3]) ∧ Hid (Fr (fun _ => False) w wr))
                    (fun u16 _ => 4 - (intOf u16).toNat)
                  case atStart => exact ⟨0, rfl, by omega, X21_0.out, X21_1.out, X21_2.out, X21_3.out, X21_4.out, X21_5.out, F21⟩
                  case round =>
                    obtain ⟨i, rfl, hi, hR, hS, hV, hT, hP5, hQ5, hF⟩ := hrel
                    by_cases hil : i < 4
                    · obtain ⟨x, hx⟩ : ∃ x, [p0, p1, p2, p3].getD i 0 = x := ⟨_, rfl⟩
                      obtain ⟨y, hy⟩ : ∃ y, [z0, z1, z2, z3].getD i 0 = y := ⟨_, rfl⟩
                      have gp := cast4 (p0 := p0) (p1 := p1) (p2 := p2) (p3 := p3) hil
                      have gz := getD_some (l := [z0, z1, z2, z3]) (i := i) hil
                      have x16 := lt4 hil hB.out
                      rw [hx] at gp x16
                      rw [hy] at gz
                      have kp := Ar.cell hP5.out gp
                      have kz := Ar.cell hQ5.out gz
                      have cv := Ar.cell hV.out (getD_some (l := ps s [p0, p1, p2, p3] [z0, z1, z2, z3] i) (i := x) (by rw [ps_length, HS.out.1]; exact x16))
                      have fv := Ar.frozen hV.out x
                      have V6 : Hid (Ar (wr.drew.setCell ⟨vq, x, none⟩ (.int .u32 y)) vq 56 .u32 (ps s [p0, p1, p2, p3] [z0, z1, z2, z3] (i + 1))) := by
                        show Ar _ _ _ _ ((ps s [p0, p1, p2, p3] [z0, z1, z2, z3] i).set ([p0, p1, p2, p3].getD i 0) ([z0, z1, z2, z3].getD i 0))
                        rw [hx, hy]
                        exact Ar.set (w := wr.drew) hV.out x y
                      have j0 : (x : Int) < 16 := by omega
                      have j1 : (i : Int) < 4 := by omega
                      have j2 : ((x : Int)).toNat = x := by omega
                      have j3 : ((i : Int)).toNat = i := by omega
                      have j4 : 0 ≤ (x : Int) := by omega
                      have j5 : 0 ≤ (i : Int) := by omega
                      clear hx hy gp gz hV
                      go_upto_region 24 with (fail)
                      refine wp_region_still_tail 7 (by kernel_rfl) (by kernel_rfl) ?_
                      simp only [List.take_succ_cons, List.take_zero, List.drop_succ_cons, List.drop_zero]
                      iterate 7 still_step
                      refine wpStill_nil ?_
                      change wpList _ _ _ _ _ wr.drew
                      replace hR : Hid (Ar wr.drew (w.heap.size + 1 + 1) 42 .u8 (fil B 0 0)) := hR
                      replace hS : Hid (Ar wr.drew (w.heap.size + 1 + 1 + 1) 56 .u32 L) := hS
                      replace hT : Hid (Ar wr.drew tq 87 .i64 FP) := hT
                      replace hP5 : Hid (Ar wr.drew pq 86 .i64 [(p0 : Int), p1, p2, p3]) := hP5
                      replace hQ5 : Hid (Ar wr.drew g15 89 .u32 [z0, z1, z2, z3]) := hQ5
                      replace hF : Hid (Fr (fun _ => False) w wr.drew) := hF.out.drew
                      replace cv : wr.drew.cell? _ = _ := cv
                      replace fv : wr.drew.frozen? _ = _ := fv
                      clear kp kz
                      generalize wr.drew = w1 at *
                      go_wp2
                      go_roundw
                      case rel => exact ⟨i + 1, by go_num, by omega, hR.out.far (by simp <;> have := HQ.out <;> omega) _, hS.out.far (by simp <;> have := HQ.out <;> omega) _, V6, hT.out.far (by simp <;> have := HQ.out <;> omega) _, hP5.out.far (by simp <;> have := HQ.out <;> have := HQ2.out <;> omega) _, hQ5.out.far (by show g15 ≠ vq; exact HQ3.out.2.symm) _, hF.out.setCell _ (.inr (by simp <;> have := HQ.out <;> omega))⟩
                      case measure => simp [intOf]; omega
                    · have i4 : i = 4 := by omega
                      have V7 : Hid (Ar wr vq 56 .u32 (pk (m + 1) t)) := by
                        show _
                        rw [← HFour.out, ← i4]
                        exact hV.out
                      clear i4 hP5 hQ5 hV
                      go_wp2
                      go_roundw
                      case rel => exact ⟨m + 1, by go_num, by omega, hR, hS, V7, hT, hF⟩
                      case measure => simp [intOf]; omega
                · have m8 : m = 8 := by omega
                  have V7 : Hid (Ar wr vq 56 .u32 (rn (r + 1) L)) := by
                    show _
                    rw [hnext (), ← pk_eight, ← m8]
                    exact hV.out
                  clear m8 hV
                  go_wp2
                  go_roundw
                  case rel => exact ⟨r + 1, by go_num, by omega, hR, hS, V7, hT, hF⟩
                  case measure => simp [intOf]; omega
            · have r10 : r = 10 := by omega
              obtain ⟨t, ht⟩ : ∃ t, rn 10 L = t := ⟨_, rfl⟩
              have V7 : Hid (Ar wr vq 56 .u32 t) := by
                show _
                rw [← ht, ← r10]
                exact hV.out
              have HT : Hid (t.length = 16) := by show _ = _; rw [← ht]; exact (rn_ok HL1.out HL2.out 10).1
              have hB2 : Unit → B = bsw (zs L t) := fun _ => by rw [← ht, ← HB0 ()]; rfl
              clear r10 ht hV hT
              obtain ⟨oq, hoq⟩ : ∃ q, q = wr.heap.size := ⟨_, rfl⟩
              have hq4 : vq < oq := by rw [hoq]; exact V7.out.lt
              go_upto_region 26 with (fail)
              have R8 : Hid (Ar (wr.alloc (.cells (vs .u8 (fil B 0 0)) 42)) (w.heap.size + 1 + 1) 42 .u8 (fil B 0 0)) := hR.out.alloc _
              have S8 : Hid (Ar (wr.alloc (.cells (vs .u8 (fil B 0 0)) 42)) (w.heap.size + 1 + 1 + 1) 56 .u32 L) := hS.out.alloc _
              have V8 : Hid (Ar (wr.alloc (.cells (vs .u8 (fil B 0 0)) 42)) vq 56 .u32 t) := V7.out.alloc _
              have O8 : Hid (Ar (wr.alloc (.cells (vs .u8 (fil B 0 0)) 42)) oq 42 .u8 (fil B 0 0)) := by rw [hoq]; exact Ar.new wr 42 .u8 (fil B 0 0)
              have F8 : Hid (Fr (fun _ => False) w (wr.alloc (.cells (vs .u8 (fil B 0 0)) 42))) := hF.out.alloc _
              rw [← hoq]
              generalize wr.alloc (.cells (vs .u8 (fil B 0 0)) 42) = W8 at *
              have HQ4 := Lib.hid hq4
              clear hR hS V7 hF hoq hq4 hz
              try simp only [Act.put, List.setIfInBounds_toArray, List.set_cons_succ, List.set_cons_zero]
              go_wp2
              go_loopw [18] (fun u18 wr => ∃ j : Nat, u18 = .int .i64 j ∧ j ≤ 64 ∧ Hid (Ar wr (w.heap.size + 1 + 1) 42 .u8 (fil B 0 0)) ∧ Hid (Ar wr (w.heap.size + 1 + 1 + 1) 56 .u32 L) ∧ Hid (Ar wr vq 56 .u32 t) ∧ Hid (Ar wr oq 42 .u8 (fil B j 0)) ∧ Hid (Fr (fun _ => False) w wr))
                (fun u18 _ => 64 - (intOf u18).toNat)
              case atStart => exact ⟨0, rfl, by omega, R8, S8, V8, O8, F8⟩
              case round =>
                obtain ⟨j, rfl, hj, hR, hS, hV, hO, hF⟩ := hrel
                by_cases hjl : j < 64
                · obtain ⟨a4, q4, hja, hq4⟩ : ∃ a4 q4 : Nat, j = 4 * a4 + q4 ∧ q4 < 4 := ⟨j / 4, j % 4, by omega, by omega⟩
                  have ha4 : a4 < 16 := by omega
                  obtain ⟨x, hx⟩ : ∃ x, L.getD a4 0 = x := ⟨_, rfl⟩
                  obtain ⟨y, hy⟩ : ∃ y, t.getD a4 0 = y := ⟨_, rfl⟩
                  have gx := getD_some (l := L) (i := a4) (by rw [HL1.out]; exact ha4)
                  have gy := getD_some (l := t) (i := a4) (by rw [HT.out]; exact ha4)
                  rw [hx] at gx
                  rw [hy] at gy
                  obtain ⟨z, hzz⟩ : ∃ z, sm x y = z := ⟨_, rfl⟩
                  have hwz : IntKind.u32.wrap (y + x) = z := by rw [wrap32, ← hzz, Int.add_comm]; rfl
                  have wz : Wd z := by rw [← hzz]; exact sm_wd _ _
                  have G := bsw_get _ a4 _ (zs_get gx gy)
                  rw [hzz, ← hB2 ()] at G
                  have kx := Ar.cell hS.out gx
                  have ky := Ar.cell hV.out gy
                  have z0 := wz.1
                  have z9 := wz.2
                  have d1 : (j : Int) / 4 = a4 := by omega
                  have d3 : (a4 : Int) < 16 := by omega
                  have d4 : 0 ≤ (a4 : Int) := by omega
                  have d5 : ((a4 : Int)).toNat = a4 := by omega
                  have d6 : (j : Int) < 64 := by omega
                  have d7 : 0 ≤ (j : Int) := by omega
                  have d8 : IntKind.i64.wrap (a4 : Int) = a4 := by rw [IntKind.wrap_i64]; omega
                  rw [show z / 16777216 % 256 = z / 16777216 by omega] at G
                  clear hx hy gx gy hzz wz
                  have hq : q4 = 0 ∨ q4 = 1 ∨ q4 = 2 ∨ q4 = 3 := by omega
                  clear hq4
                  rcases hq with rfl | rfl | rfl | rfl
                  · have d2 : (j : Int).tmod 4 = 0 := by rw [Int.tmod_eq_emod_of_nonneg (by omega)]; omega
                    have hsh : ∀ W, (Op.shift .shr .u32 z .i64 (IntKind.i64.wrap 0)).run Try.prog W = .ok (.int .u32 (z)) W := fun W => by
                      rw [show IntKind.i64.wrap 0 = 0 by decide, shift_shr_any _ _ _ _ (by decide)]
                      simp [IntKind.bits]
                    have GB : B[j]? = some (z % 256) := by rw [hja]; exact G.1
                    have cO := Ar.cell hO.out (fil_get B j 0 (by have := HB1.out; omega))
                    have fO := Ar.frozen hO.out j
                    have O2 : Hid (Ar (wr.drew.setCell ⟨oq, j, none⟩ (.int .u8 (z % 256))) oq 42 .u8 (fil B (j + 1) 0)) := by
                      show Ar _ _ _ _ _
                      rw [← fil_set B j 0 _ GB]
                      exact Ar.set (w := wr.drew) hO.out j _
                    clear GB G hja
                    go_upto_region 29 with (fail)
                    refine wp_region_still_tail 16 (by kernel_rfl) (by kernel_rfl) ?_
                    simp only [List.take_succ_cons, List.take_zero, List.drop_succ_cons, List.drop_zero]
                    iterate 16 still_step
                    refine wpStill_nil ?_
                    change wpList _ _ _ _ _ wr.drew
                    replace hR : Hid (Ar wr.drew (w.heap.size + 1 + 1) 42 .u8 (fil B 0 0)) := hR
                    replace hS : Hid (Ar wr.drew (w.heap.size + 1 + 1 + 1) 56 .u32 L) := hS
                    replace hV : Hid (Ar wr.drew vq 56 .u32 t) := hV
                    replace hF : Hid (Fr (fun _ => False) w wr.drew) := hF.out.drew
                    replace cO : wr.drew.cell? _ = _ := cO
                    replace fO : wr.drew.frozen? _ = _ := fO
                    clear kx ky
                    generalize wr.drew = w1 at *
                    go_wp2
                    go_roundw
                    case rel => exact ⟨j + 1, by go_num, by omega, hR.out.far (by simp <;> have := HQ.out <;> have := HQ4.out <;> omega) _, hS.out.far (by simp <;> have := HQ.out <;> have := HQ4.out <;> omega) _, hV.out.far (by simp <;> have := HQ4.out <;> omega) _, O2, hF.out.setCell _ (.inr (by simp <;> have := HQ.out <;> have := HQ4.out <;> omega))⟩
                    case measure => simp [intOf]; omega
                  · have d2 : (j : Int).tmod 4 = 1 := by rw [Int.tmod_eq_emod_of_nonneg (by omega)]; omega
                    have hsh : ∀ W, (Op.shift .shr .u32 z .i64 (IntKind.i64.wrap 8)).run Try.prog W = .ok (.int .u32 (z / 256)) W := fun W => by
                      rw [show IntKind.i64.wrap 8 = 8 by decide, shift_shr_any _ _ _ _ (by decide)]
                      rfl
                    have GB : B[j]? = some (z / 256 % 256) := by rw [hja]; exact G.2.1
                    have cO := Ar.cell hO.out (fil_get B j 0 (by have := HB1.out; omega))
                    have fO := Ar.frozen hO.out j
                    have O2 : Hid (Ar (wr.drew.setCell ⟨oq, j, none⟩ (.int .u8 (z / 256 % 256))) oq 42 .u8 (fil B (j + 1) 0)) := by
                      show Ar _ _ _ _ _
                      rw [← fil_set B j 0 _ GB]
                      exact Ar.set (w := wr.drew) hO.out j _
                    clear GB G hja
                    go_upto_region 29 with (fail)
                    refine wp_region_still_tail 16 (by kernel_rfl) (by kernel_rfl) ?_
                    simp only [List.take_succ_cons, List.take_zero, List.drop_succ_cons, List.drop_zero]
                    iterate 16 still_step
                    refine wpStill_nil ?_
                    change wpList _ _ _ _ _ wr.drew
                    replace hR : Hid (Ar wr.drew (w.heap.size + 1 + 1) 42 .u8 (fil B 0 0)) := hR
                    replace hS : Hid (Ar wr.drew (w.heap.size + 1 + 1 + 1) 56 .u32 L) := hS
                    replace hV : Hid (Ar wr.drew vq 56 .u32 t) := hV
                    replace hF : Hid (Fr (fun _ => False) w wr.drew) := hF.out.drew
                    replace cO : wr.drew.cell? _ = _ := cO
                    replace fO : wr.drew.frozen? _ = _ := fO
                    clear kx ky
                    generalize wr.drew = w1 at *
                    go_wp2
                    go_roundw
                    case rel => exact ⟨j + 1, by go_num, by omega, hR.out.far (by simp <;> have := HQ.out <;> have := HQ4.out <;> omega) _, hS.out.far (by simp <;> have := HQ.out <;> have := HQ4.out <;> omega) _, hV.out.far (by simp <;> have := HQ4.out <;> omega) _, O2, hF.out.setCell _ (.inr (by simp <;> have := HQ.out <;> have := HQ4.out <;> omega))⟩
                    case measure => simp [intOf]; omega
                  · have d2 : (j : Int).tmod 4 = 2 := by rw [Int.tmod_eq_emod_of_nonneg (by omega)]; omega
                    have hsh : ∀ W, (Op.shift .shr .u32 z .i64 (IntKind.i64.wrap 16)).run Try.prog W = .ok (.int .u32 (z / 65536)) W := fun W => by
                      rw [show IntKind.i64.wrap 16 = 16 by decide, shift_shr_any _ _ _ _ (by decide)]
                      rfl
                    have GB : B[j]? = some (z / 65536 % 256) := by rw [hja]; exact G.2.2.1
                    have cO := Ar.cell hO.out (fil_get B j 0 (by have := HB1.out; omega))
                    have fO := Ar.frozen hO.out j
                    have O2 : Hid (Ar (wr.drew.setCell ⟨oq, j, none⟩ (.int .u8 (z / 65536 % 256))) oq 42 .u8 (fil B (j + 1) 0)) := by
                      show Ar _ _ _ _ _
                      rw [← fil_set B j 0 _ GB]
                      exact Ar.set (w := wr.drew) hO.out j _
                    clear GB G hja
                    go_upto_region 29 with (fail)
                    refine wp_region_still_tail 16 (by kernel_rfl) (by kernel_rfl) ?_
                    simp only [List.take_succ_cons, List.take_zero, List.drop_succ_cons, List.drop_zero]
                    iterate 16 still_step
                    refine wpStill_nil ?_
                    change wpList _ _ _ _ _ wr.drew
                    replace hR : Hid (Ar wr.drew (w.heap.size + 1 + 1) 42 .u8 (fil B 0 0)) := hR
                    replace hS : Hid (Ar wr.drew (w.heap.size + 1 + 1 + 1) 56 .u32 L) := hS
                    replace hV : Hid (Ar wr.drew vq 56 .u32 t) := hV
                    replace hF : Hid (Fr (fun _ => False) w wr.drew) := hF.out.drew
                    replace cO : wr.drew.cell? _ = _ := cO
                    replace fO : wr.drew.frozen? _ = _ := fO
                    clear kx ky
                    generalize wr.drew = w1 at *
                    go_wp2
                    go_roundw
                    case rel => exact ⟨j + 1, by go_num, by omega, hR.out.far (by simp <;> have := HQ.out <;> have := HQ4.out <;> omega) _, hS.out.far (by simp <;> have := HQ.out <;> have := HQ4.out <;> omega) _, hV.out.far (by simp <;> have := HQ4.out <;> omega) _, O2, hF.out.setCell _ (.inr (by simp <;> have := HQ.out <;> have := HQ4.out <;> omega))⟩
                    case measure => simp [intOf]; omega
                  · have d2 : (j : Int).tmod 4 = 3 := by rw [Int.tmod_eq_emod_of_nonneg (by omega)]; omega
                    have hsh : ∀ W, (Op.shift .shr .u32 z .i64 (IntKind.i64.wrap 24)).run Try.prog W = .ok (.int .u32 (z / 16777216)) W := fun W => by
                      rw [show IntKind.i64.wrap 24 = 24 by decide, shift_shr_any _ _ _ _ (by decide)]
                      rfl
                    have GB : B[j]? = some (z / 16777216) := by rw [hja]; exact G.2.2.2
                    have cO := Ar.cell hO.out (fil_get B j 0 (by have := HB1.out; omega))
                    have fO := Ar.frozen hO.out j
                    have O2 : Hid (Ar (wr.drew.setCell ⟨oq, j, none⟩ (.int .u8 (z / 16777216))) oq 42 .u8 (fil B (j + 1) 0)) := by
                      show Ar _ _ _ _ _
                      rw [← fil_set B j 0 _ GB]
                      exact Ar.set (w := wr.drew) hO.out j _
                    clear GB G hja
                    go_upto_region 29 with (fail)
                    refine wp_region_still_tail 16 (by kernel_rfl) (by kernel_rfl) ?_
                    simp only [List.take_succ_cons, List.take_zero, List.drop_succ_cons, List.drop_zero]
                    iterate 16 still_step
                    refine wpStill_nil ?_
                    change wpList _ _ _ _ _ wr.drew
                    replace hR : Hid (Ar wr.drew (w.heap.size + 1 + 1) 42 .u8 (fil B 0 0)) := hR
                    replace hS : Hid (Ar wr.drew (w.heap.size + 1 + 1 + 1) 56 .u32 L) := hS
                    replace hV : Hid (Ar wr.drew vq 56 .u32 t) := hV
                    replace hF : Hid (Fr (fun _ => False) w wr.drew) := hF.out.drew
                    replace cO : wr.drew.cell? _ = _ := cO
                    replace fO : wr.drew.frozen? _ = _ := fO
                    clear kx ky
                    generalize wr.drew = w1 at *
                    go_wp2
                    go_roundw
                    case rel => exact ⟨j + 1, by go_num, by omega, hR.out.far (by simp <;> have := HQ.out <;> have := HQ4.out <;> omega) _, hS.out.far (by simp <;> have := HQ.out <;> have := HQ4.out <;> omega) _, hV.out.far (by simp <;> have := HQ4.out <;> omega) _, O2, hF.out.setCell _ (.inr (by simp <;> have := HQ.out <;> have := HQ4.out <;> omega))⟩
                    case measure => simp [intOf]; omega
                · have j64 : j = 64 := by omega
                  have O9 : Hid (Ar wr oq 42 .u8 B) := by
                    have h := hO.out
                    have e := fil_all B (0 : Int)
                    rw [HB1.out] at e
                    rwa [j64, e] at h
                  have hsz : Hid ((Try.prog.info? 42).map (·.size) = some (vs .u8 B).size) := by show _ = _; rw [size64, vs_size, HB1.out]
                  have hez : Hid ((vs .u8 (fil B 0 0)).size = (vs .u8 B).size) := by show _ = _; rw [vs_size, vs_size, fil_length B 0 0 (by omega)]
                  clear hS hV hO j64
                  go_wp2_with (first
                    | refine wpList_load_row rfl 42 (.tmp 17) rfl oq rfl 42 (vs .u8 B) (0, 0) _ O9.out Try.underlying42 rfl hsz.out ?_
                    | refine wpList_store_row rfl 42 (.tmp 6) (.tmp 106) rfl (w.heap.size + 1 + 1) (vs .u8 B) rfl rfl 42 _ hR.out hsz.out hez.out (vs_all _ _) ?_)
                  refine bodyPost_ret (results_cell_row Try.results42 _ _ _ 42 _ (0, 0) _ rfl (setRow_heap _ _ _ _ _ _ hR.out) Try.underlying42 rfl hsz.out) rfl ⟨by rw [hv ()], hF.out.setRow _ (.inr (by omega))⟩
end Go.Proofs.Ytbafppdmlhogbaa
