/- The reference's r and least: contracts. Conditions: a key of 32 bytes; a number below 2^130. -/
import Derived.Test.YtbafppdmlhogbaaRc
import Derived.Test.YtbafppdmlhogbaaK
namespace Go.Proofs.Ytbafppdmlhogbaa
set_option linter.unusedSimpArgs false
set_option linter.unusedVariables false
open Go.RowKit

/-- A byte of a key's r. -/
def cl (i : Nat) (x : Int) : Int := if i % 4 = 3 then x % 16 else if i = 4 ∨ i = 8 ∨ i = 12 then x - x % 4 else x
theorem clr_get {l : List Int} (h : l.length = 16) (i : Nat) (hi : i < 16) : (clr l)[i]? = some (cl i (l.getD i 0)) := by
  obtain ⟨b0, b1, b2, b3, b4, b5, b6, b7, b8, b9, b10, b11, b12, b13, b14, b15, rfl⟩ := sixteenP h
  have : i = 0 ∨ i = 1 ∨ i = 2 ∨ i = 3 ∨ i = 4 ∨ i = 5 ∨ i = 6 ∨ i = 7 ∨ i = 8 ∨ i = 9 ∨ i = 10 ∨ i = 11 ∨ i = 12 ∨ i = 13 ∨ i = 14 ∨ i = 15 := by omega
  rcases this with rfl | rfl | rfl | rfl | rfl | rfl | rfl | rfl | rfl | rfl | rfl | rfl | rfl | rfl | rfl | rfl <;> rfl
theorem fil_get' (L : List Int) (k : Nat) (x : Int) (h : k < L.length) : (fil L k x)[k]? = some x := by
  unfold fil
  rw [List.getElem?_append_right (by rw [List.length_take]; omega), List.length_take, Nat.min_eq_left (by omega), Nat.sub_self]
  rw [List.getElem?_replicate, if_pos (by omega)]

set_option maxRecDepth 100000 in
set_option maxHeartbeats 16000000 in
theorem rr_is (k : List Int) (w : World) (hk : k.length = 32) (hb : Bys k) :
    Calls Try.prog 56 #[.agg (vs .u8 k)] w fun e w' => e = .returned (.agg (vs .i64 (clr (k.take 16) ++ [0]))) ∧ Fr (fun _ => False) w w' := by
  obtain ⟨R, hR⟩ : ∃ R, R = clr (k.take 16) ++ [0] := ⟨_, rfl⟩
  have lk : (k.take 16).length = 16 := by rw [List.length_take, hk]; rfl
  have lR : R.length = 17 := by rw [hR, List.length_append, clr_length lk]; rfl
  have HG : Hid (∀ i, i < 16 → R[i]? = some (cl i (k.getD i 0))) := by
    show ∀ _, _
    intro i hi
    rw [hR, List.getElem?_append_left (by rw [clr_length lk]; exact hi), clr_get lk i hi]
    have : (k.take 16).getD i 0 = k.getD i 0 := by rw [List.getD_eq_getElem?_getD, List.getElem?_take, if_pos hi, List.getD_eq_getElem?_getD]
    rw [this]
  have HL : Hid (R.length = 17) := lR
  have H16 : Hid (fil R 16 0 = R) := by
    show _ = _
    unfold fil
    rw [lR, hR, List.take_append_of_le_length (by rw [clr_length lk]; omega), List.take_of_length_le (by rw [clr_length lk]; omega)]
    rfl
  have HK := Lib.hid (And.intro hk hb)
  have HR := Lib.hid hR
  obtain ⟨Z, hZ⟩ : ∃ Z, Z = List.replicate 17 (0 : Int) := ⟨_, rfl⟩
  have HZ : Hid (Z = fil R 0 0) := by show _ = _; rw [hZ, fil_zero, lR]
  have s50 : Hid ((Try.prog.info? 91).map (·.size) = some (vs .i64 R).size) := by show _ = _; rw [vs_size, lR]; exact info50
  have eZ : Hid ((vs .i64 Z).size = (vs .i64 R).size) := by show _ = _; rw [vs_size, vs_size, lR, hZ]; rfl
  have hz : ∀ W : World, (zeroValue 91).run Try.prog W = .ok (.agg (vs .i64 Z)) W := fun W => by rw [hZ]; exact zero50 W
  clear hR lk lR hk hb hZ
  go_enter Try.func56, Try.ntmps56
  go_upto_region 2 with (fail)
  generalize hW0 : ((w.alloc (.cells (vs .u8 k) 28)).alloc (.cells (vs .i64 Z) 91)).alloc (.cells (vs .i64 Z) 91) = W0
  have HW := Lib.hid (calm3P hW0)
  have X0 : Hid (Ar W0 w.heap.size 28 .u8 k) := HW.out.1
  have X1 : Hid (Ar W0 (w.heap.size + 1) 91 .i64 Z) := HW.out.2.1
  have X2 : Hid (Ar W0 (w.heap.size + 1 + 1) 91 .i64 (fil R 0 0)) := by rw [← HZ.out]; exact HW.out.2.2.1
  have F0 : Hid (Fr (fun _ => False) w W0) := HW.out.2.2.2
  clear hW0 HW hz
  go_wp2
  go_loopw [4] (fun u4 wr => ∃ i : Nat, u4 = .int .i64 i ∧ i ≤ 16 ∧ Hid (Ar wr w.heap.size 28 .u8 k) ∧ Hid (Ar wr (w.heap.size + 1) 91 .i64 Z) ∧ Hid (Ar wr (w.heap.size + 1 + 1) 91 .i64 (fil R i 0)) ∧ Hid (Fr (fun _ => False) w wr))
    (fun u4 _ => 16 - (intOf u4).toNat)
  case atStart => exact ⟨0, rfl, by omega, X0, X1, X2, F0⟩
  case round =>
    clear X0 X1 X2 F0
    obtain ⟨i, rfl, hi, h0, h1, h2, hF⟩ := hrel
    by_cases hil : i < 16
    · obtain ⟨x, hx⟩ : ∃ x, k.getD i 0 = x := ⟨_, rfl⟩
      have gk := getD_some (l := k) (i := i) (by rw [HK.out.1]; omega)
      rw [hx] at gk
      have bx := HK.out.2 x (List.mem_of_getElem? gk)
      have hg := HG.out i hil
      rw [hx] at hg
      have c0 := h0.out.cell gk
      have c2 := h2.out.cell (fil_get' R i 0 (by have := HL.out; omega))
      have f2 := h2.out.frozen i
      have i1 : ((i : Int)).toNat = i := by omega
      have i2 : 0 ≤ (i : Int) := by omega
      have i3 : (i : Int) < 17 := by omega
      have i4 : (i : Int) < 32 := by omega
      have e0 : IntKind.i64.wrap x = x := by rw [IntKind.wrap_i64]; omega
      go_upto_region 6 with (fail)
      replace h0 : Hid (Ar (wr.setCell ⟨w.heap.size + 1 + 1, i, none⟩ (.int .i64 x)) w.heap.size 28 .u8 k) := h0.out.far (by simp <;> omega) _
      replace h1 : Hid (Ar (wr.setCell ⟨w.heap.size + 1 + 1, i, none⟩ (.int .i64 x)) (w.heap.size + 1) 91 .i64 Z) := h1.out.far (by simp) _
      replace h2 : Hid (Ar (wr.setCell ⟨w.heap.size + 1 + 1, i, none⟩ (.int .i64 x)) (w.heap.size + 1 + 1) 91 .i64 ((fil R i 0).set i x)) := h2.out.set i x
      replace hF : Hid (Fr (fun _ => False) w (wr.setCell ⟨w.heap.size + 1 + 1, i, none⟩ (.int .i64 x))) := hF.out.setCell _ (.inr (by simp <;> omega))
      clear c0 c2 f2
      generalize wr.setCell ⟨w.heap.size + 1 + 1, i, none⟩ (.int .i64 x) = W1 at *
      try simp only [Act.put, List.setIfInBounds_toArray, List.set_cons_succ, List.set_cons_zero]
      have lF : (fil R i 0).length = 17 := by rw [fil_length _ _ _ (by have := HL.out; omega), HL.out]
      have g2 : ((fil R i 0).set i x)[i]? = some x := by rw [List.getElem?_set_self (by omega)]
      have c2 := h2.out.cell g2
      have f2 := h2.out.frozen i
      have hset : ∀ y, R[i]? = some y → ((fil R i 0).set i x).set i y = fil R (i + 1) 0 := fun y hy => by rw [List.set_set]; exact fil_set R i 0 y hy
      have hset' : R[i]? = some x → (fil R i 0).set i x = fil R (i + 1) 0 := fun hy => fil_set R i 0 x hy
      obtain ⟨m, hm⟩ : ∃ m : Nat, m = i % 4 := ⟨_, rfl⟩
      have e1 : (i : Int) % 4 = (m : Int) := by omega
      have HM := Lib.hid hm
      by_cases h3 : m = 3
      · have hy : R[i]? = some (x % 16) := by rw [hg, cl, if_pos (by omega)]
        have A9 := Lib.hid (h2.out.set i (x % 16))
        rw [hset _ hy] at A9
        have e2 : x.tmod 16 = x % 16 := by rw [Int.tmod_eq_emod_of_nonneg bx.1]
        have e3 : IntKind.i64.wrap (x % 16) = x % 16 := by rw [IntKind.wrap_i64]; omega
        have d4 : ((i : Int) == 4) = false := by simp; omega
        have d8 : ((i : Int) == 8) = false := by simp; omega
        have d12 : ((i : Int) == 12) = false := by simp; omega
        have e9 : (i : Int) % 4 = 3 := by omega
        have h09 : Hid (Ar (W1.setCell ⟨w.heap.size + 1 + 1, i, none⟩ (.int .i64 (x % 16))) w.heap.size 28 .u8 k) := h0.out.far (by simp <;> omega) _
        have h19 : Hid (Ar (W1.setCell ⟨w.heap.size + 1 + 1, i, none⟩ (.int .i64 (x % 16))) (w.heap.size + 1) 91 .i64 Z) := h1.out.far (by simp) _
        have hF9 : Hid (Fr (fun _ => False) w (W1.setCell ⟨w.heap.size + 1 + 1, i, none⟩ (.int .i64 (x % 16)))) := hF.out.setCell _ (.inr (by simp <;> omega))
        clear hset hset' hy hg hx gk bx h2 lF g2 hm e1 h3 h0 h1 hF
        go_wp2
        go_roundw
        case rel => exact ⟨i + 1, by go_num, by omega, h09, h19, A9, hF9⟩
        case measure => simp [intOf]; omega
      · have d3 : ((m : Int) == 3) = false := by simp; omega
        by_cases h8 : i = 4 ∨ i = 8 ∨ i = 12
        · have hy : R[i]? = some (x - x % 4) := by rw [hg, cl, if_neg (by omega), if_pos h8]
          have A9 := Lib.hid (h2.out.set i (x - x % 4))
          rw [hset _ hy] at A9
          have e2 : x.tmod 4 = x % 4 := by rw [Int.tmod_eq_emod_of_nonneg bx.1]
          have e3 : IntKind.i64.wrap (x % 4) = x % 4 := by rw [IntKind.wrap_i64]; omega
          have e4 : IntKind.i64.wrap (x - x % 4) = x - x % 4 := by rw [IntKind.wrap_i64]; omega
          have e5 : IntKind.i64.wrap (m : Int) = m := by rw [IntKind.wrap_i64]; omega
          have h09 : Hid (Ar (W1.setCell ⟨w.heap.size + 1 + 1, i, none⟩ (.int .i64 (x - x % 4))) w.heap.size 28 .u8 k) := h0.out.far (by simp <;> omega) _
          have h19 : Hid (Ar (W1.setCell ⟨w.heap.size + 1 + 1, i, none⟩ (.int .i64 (x - x % 4))) (w.heap.size + 1) 91 .i64 Z) := h1.out.far (by simp) _
          have hF9 : Hid (Fr (fun _ => False) w (W1.setCell ⟨w.heap.size + 1 + 1, i, none⟩ (.int .i64 (x - x % 4)))) := hF.out.setCell _ (.inr (by simp <;> omega))

          have hset0 := hset
          have hy0 := hy
          have HX := Lib.hid bx
          clear A9 hset hset' hy hg hx gk lF hm h3 bx c2 f2
          rcases h8 with rfl | rfl | rfl
          · go_upto_region 9 with (fail)
            refine wp_region_quiet_tail (C := Calm W1) 10 (by kernel_rfl) (by kernel_rfl) (Calm.start _ _ (Fr.refl _ _)) ?_
            simp only [List.take_succ_cons, List.take_zero, List.drop_succ_cons, List.drop_zero]
            refine BigFrame.wpQuiet_want rfl fun K hK => ?_
            try simp only [Act.put, List.setIfInBounds_toArray, List.set_cons_succ, List.set_cons_zero]
            go_big_quiet_op
            refine hK _ ?_
            refine BigFrame.wpQuiet_want rfl fun K hK => ?_
            try simp only [Act.put, List.setIfInBounds_toArray, List.set_cons_succ, List.set_cons_zero]
            go_big_quiet_op
            refine hK _ ?_
            refine BigFrame.wpQuiet_want rfl fun K hK => ?_
            try simp only [Act.put, List.setIfInBounds_toArray, List.set_cons_succ, List.set_cons_zero]
            go_big_quiet_op
            first
              | refine ⟨_, fun _ _ => rfl, hK _ ?_⟩
              | refine hK _ ?_
            refine BigFrame.wpQuiet_want rfl fun K hK => quiet_oneP 3 .i64 (.tmp 36) rfl (w.heap.size + 1 + 1) (4) rfl (x) Try.underlying3 (fun _ h => (Ar.cell (Ar.fr h2.out h (fun x => x)) g2)) (hK _ ?_)
            refine BigFrame.wpQuiet_want rfl fun K hK => ?_
            try simp only [Act.put, List.setIfInBounds_toArray, List.set_cons_succ, List.set_cons_zero]
            go_big_quiet_op
            refine hK _ ?_
            refine BigFrame.wpQuiet_want rfl fun K hK => ?_
            try simp only [Act.put, List.setIfInBounds_toArray, List.set_cons_succ, List.set_cons_zero]
            go_big_quiet_op
            first
              | refine ⟨_, fun _ _ => rfl, hK _ ?_⟩
              | refine hK _ ?_
            refine BigFrame.wpQuiet_want rfl fun K hK => quiet_oneP 3 .i64 (.tmp 39) rfl (w.heap.size + 1 + 1) (4) rfl (x) Try.underlying3 (fun _ h => (Ar.cell (Ar.fr h2.out h (fun x => x)) g2)) (hK _ ?_)
            refine BigFrame.wpQuiet_want rfl fun K hK => ?_
            try simp only [Act.put, List.setIfInBounds_toArray, List.set_cons_succ, List.set_cons_zero]
            go_big_quiet_op
            first
              | refine ⟨_, fun _ _ => rfl, hK _ ?_⟩
              | refine hK _ ?_
            refine BigFrame.wpQuiet_want rfl fun K hK => ?_
            try simp only [Act.put, List.setIfInBounds_toArray, List.set_cons_succ, List.set_cons_zero]
            go_big_quiet_op
            first
              | refine ⟨_, fun _ _ => rfl, hK _ ?_⟩
              | refine hK _ ?_
            refine BigFrame.wpQuiet_want rfl fun K hK => ?_
            try simp only [Act.put, List.setIfInBounds_toArray, List.set_cons_succ, List.set_cons_zero]
            go_big_quiet_op
            first
              | refine ⟨_, fun _ _ => rfl, hK _ ?_⟩
              | refine hK _ ?_
            refine wpQuiet_nil ?_
            intro w9 hw9
            have F9 : Hid (Fr (fun _ => False) w w9) := hF.out.trans hw9
            have G9 := Lib.hid hw9
            clear hw9
            try simp only [Act.put, List.setIfInBounds_toArray, List.set_cons_succ, List.set_cons_zero]
            have A8 := Ar.fr h2.out G9.out (fun x => x)
            have ck := A8.cell g2
            have fk := A8.frozen 4
            have B9 : Hid (Ar (w9.setCell ⟨w.heap.size + 1 + 1, 4, none⟩ (.int .i64 (x - x % 4))) (w.heap.size + 1 + 1) 91 .i64 (fil R (4 + 1) 0)) := by
              have h := A8.set 4 (x - x % 4)
              rwa [hset0 _ hy0] at h
            have C9 := Lib.hid ((Ar.fr h0.out G9.out (fun x => x)).far (a := ⟨w.heap.size + 1 + 1, 4, none⟩) (by simp <;> omega) (.int .i64 (x - x % 4)))
            have D9 := Lib.hid ((Ar.fr h1.out G9.out (fun x => x)).far (a := ⟨w.heap.size + 1 + 1, 4, none⟩) (by simp) (.int .i64 (x - x % 4)))
            clear A8 G9 h09 h19 hF9 h0 h1 h2 hF g2 hset0 hy0
            go_wp2
            go_roundw
            case rel => exact ⟨4 + 1, by go_num, by omega, C9, D9, B9, F9.out.setCell _ (.inr (by simp <;> omega))⟩
            case measure => simp [intOf]
          · go_upto_region 9 with (fail)
            refine wp_region_quiet_tail (C := Calm W1) 10 (by kernel_rfl) (by kernel_rfl) (Calm.start _ _ (Fr.refl _ _)) ?_
            simp only [List.take_succ_cons, List.take_zero, List.drop_succ_cons, List.drop_zero]
            refine BigFrame.wpQuiet_want rfl fun K hK => ?_
            try simp only [Act.put, List.setIfInBounds_toArray, List.set_cons_succ, List.set_cons_zero]
            go_big_quiet_op
            refine hK _ ?_
            refine BigFrame.wpQuiet_want rfl fun K hK => ?_
            try simp only [Act.put, List.setIfInBounds_toArray, List.set_cons_succ, List.set_cons_zero]
            go_big_quiet_op
            refine hK _ ?_
            refine BigFrame.wpQuiet_want rfl fun K hK => ?_
            try simp only [Act.put, List.setIfInBounds_toArray, List.set_cons_succ, List.set_cons_zero]
            go_big_quiet_op
            first
              | refine ⟨_, fun _ _ => rfl, hK _ ?_⟩
              | refine hK _ ?_
            refine BigFrame.wpQuiet_want rfl fun K hK => quiet_oneP 3 .i64 (.tmp 36) rfl (w.heap.size + 1 + 1) (8) rfl (x) Try.underlying3 (fun _ h => (Ar.cell (Ar.fr h2.out h (fun x => x)) g2)) (hK _ ?_)
            refine BigFrame.wpQuiet_want rfl fun K hK => ?_
            try simp only [Act.put, List.setIfInBounds_toArray, List.set_cons_succ, List.set_cons_zero]
            go_big_quiet_op
            refine hK _ ?_
            refine BigFrame.wpQuiet_want rfl fun K hK => ?_
            try simp only [Act.put, List.setIfInBounds_toArray, List.set_cons_succ, List.set_cons_zero]
            go_big_quiet_op
            first
              | refine ⟨_, fun _ _ => rfl, hK _ ?_⟩
              | refine hK _ ?_
            refine BigFrame.wpQuiet_want rfl fun K hK => quiet_oneP 3 .i64 (.tmp 39) rfl (w.heap.size + 1 + 1) (8) rfl (x) Try.underlying3 (fun _ h => (Ar.cell (Ar.fr h2.out h (fun x => x)) g2)) (hK _ ?_)
            refine BigFrame.wpQuiet_want rfl fun K hK => ?_
            try simp only [Act.put, List.setIfInBounds_toArray, List.set_cons_succ, List.set_cons_zero]
            go_big_quiet_op
            first
              | refine ⟨_, fun _ _ => rfl, hK _ ?_⟩
              | refine hK _ ?_
            refine BigFrame.wpQuiet_want rfl fun K hK => ?_
            try simp only [Act.put, List.setIfInBounds_toArray, List.set_cons_succ, List.set_cons_zero]
            go_big_quiet_op
            first
              | refine ⟨_, fun _ _ => rfl, hK _ ?_⟩
              | refine hK _ ?_
            refine BigFrame.wpQuiet_want rfl fun K hK => ?_
            try simp only [Act.put, List.setIfInBounds_toArray, List.set_cons_succ, List.set_cons_zero]
            go_big_quiet_op
            first
              | refine ⟨_, fun _ _ => rfl, hK _ ?_⟩
              | refine hK _ ?_
            refine wpQuiet_nil ?_
            intro w9 hw9
            have F9 : Hid (Fr (fun _ => False) w w9) := hF.out.trans hw9
            have G9 := Lib.hid hw9
            clear hw9
            try simp only [Act.put, List.setIfInBounds_toArray, List.set_cons_succ, List.set_cons_zero]
            have A8 := Ar.fr h2.out G9.out (fun x => x)
            have ck := A8.cell g2
            have fk := A8.frozen 8
            have B9 : Hid (Ar (w9.setCell ⟨w.heap.size + 1 + 1, 8, none⟩ (.int .i64 (x - x % 4))) (w.heap.size + 1 + 1) 91 .i64 (fil R (8 + 1) 0)) := by
              have h := A8.set 8 (x - x % 4)
              rwa [hset0 _ hy0] at h
            have C9 := Lib.hid ((Ar.fr h0.out G9.out (fun x => x)).far (a := ⟨w.heap.size + 1 + 1, 8, none⟩) (by simp <;> omega) (.int .i64 (x - x % 4)))
            have D9 := Lib.hid ((Ar.fr h1.out G9.out (fun x => x)).far (a := ⟨w.heap.size + 1 + 1, 8, none⟩) (by simp) (.int .i64 (x - x % 4)))
            clear A8 G9 h09 h19 hF9 h0 h1 h2 hF g2 hset0 hy0
            go_wp2
            go_roundw
            case rel => exact ⟨8 + 1, by go_num, by omega, C9, D9, B9, F9.out.setCell _ (.inr (by simp <;> omega))⟩
            case measure => simp [intOf]
          · go_upto_region 9 with (fail)
            refine wp_region_quiet_tail (C := Calm W1) 10 (by kernel_rfl) (by kernel_rfl) (Calm.start _ _ (Fr.refl _ _)) ?_
            simp only [List.take_succ_cons, List.take_zero, List.drop_succ_cons, List.drop_zero]
            refine BigFrame.wpQuiet_want rfl fun K hK => ?_
            try simp only [Act.put, List.setIfInBounds_toArray, List.set_cons_succ, List.set_cons_zero]
            go_big_quiet_op
            refine hK _ ?_
            refine BigFrame.wpQuiet_want rfl fun K hK => ?_
            try simp only [Act.put, List.setIfInBounds_toArray, List.set_cons_succ, List.set_cons_zero]
            go_big_quiet_op
            refine hK _ ?_
            refine BigFrame.wpQuiet_want rfl fun K hK => ?_
            try simp only [Act.put, List.setIfInBounds_toArray, List.set_cons_succ, List.set_cons_zero]
            go_big_quiet_op
            first
              | refine ⟨_, fun _ _ => rfl, hK _ ?_⟩
              | refine hK _ ?_
            refine BigFrame.wpQuiet_want rfl fun K hK => quiet_oneP 3 .i64 (.tmp 36) rfl (w.heap.size + 1 + 1) (12) rfl (x) Try.underlying3 (fun _ h => (Ar.cell (Ar.fr h2.out h (fun x => x)) g2)) (hK _ ?_)
            refine BigFrame.wpQuiet_want rfl fun K hK => ?_
            try simp only [Act.put, List.setIfInBounds_toArray, List.set_cons_succ, List.set_cons_zero]
            go_big_quiet_op
            refine hK _ ?_
            refine BigFrame.wpQuiet_want rfl fun K hK => ?_
            try simp only [Act.put, List.setIfInBounds_toArray, List.set_cons_succ, List.set_cons_zero]
            go_big_quiet_op
            first
              | refine ⟨_, fun _ _ => rfl, hK _ ?_⟩
              | refine hK _ ?_
            refine BigFrame.wpQuiet_want rfl fun K hK => quiet_oneP 3 .i64 (.tmp 39) rfl (w.heap.size + 1 + 1) (12) rfl (x) Try.underlying3 (fun _ h => (Ar.cell (Ar.fr h2.out h (fun x => x)) g2)) (hK _ ?_)
            refine BigFrame.wpQuiet_want rfl fun K hK => ?_
            try simp only [Act.put, List.setIfInBounds_toArray, List.set_cons_succ, List.set_cons_zero]
            go_big_quiet_op
            first
              | refine ⟨_, fun _ _ => rfl, hK _ ?_⟩
              | refine hK _ ?_
            refine BigFrame.wpQuiet_want rfl fun K hK => ?_
            try simp only [Act.put, List.setIfInBounds_toArray, List.set_cons_succ, List.set_cons_zero]
            go_big_quiet_op
            first
              | refine ⟨_, fun _ _ => rfl, hK _ ?_⟩
              | refine hK _ ?_
            refine BigFrame.wpQuiet_want rfl fun K hK => ?_
            try simp only [Act.put, List.setIfInBounds_toArray, List.set_cons_succ, List.set_cons_zero]
            go_big_quiet_op
            first
              | refine ⟨_, fun _ _ => rfl, hK _ ?_⟩
              | refine hK _ ?_
            refine wpQuiet_nil ?_
            intro w9 hw9
            have F9 : Hid (Fr (fun _ => False) w w9) := hF.out.trans hw9
            have G9 := Lib.hid hw9
            clear hw9
            try simp only [Act.put, List.setIfInBounds_toArray, List.set_cons_succ, List.set_cons_zero]
            have A8 := Ar.fr h2.out G9.out (fun x => x)
            have ck := A8.cell g2
            have fk := A8.frozen 12
            have B9 : Hid (Ar (w9.setCell ⟨w.heap.size + 1 + 1, 12, none⟩ (.int .i64 (x - x % 4))) (w.heap.size + 1 + 1) 91 .i64 (fil R (12 + 1) 0)) := by
              have h := A8.set 12 (x - x % 4)
              rwa [hset0 _ hy0] at h
            have C9 := Lib.hid ((Ar.fr h0.out G9.out (fun x => x)).far (a := ⟨w.heap.size + 1 + 1, 12, none⟩) (by simp <;> omega) (.int .i64 (x - x % 4)))
            have D9 := Lib.hid ((Ar.fr h1.out G9.out (fun x => x)).far (a := ⟨w.heap.size + 1 + 1, 12, none⟩) (by simp) (.int .i64 (x - x % 4)))
            clear A8 G9 h09 h19 hF9 h0 h1 h2 hF g2 hset0 hy0
            go_wp2
            go_roundw
            case rel => exact ⟨12 + 1, by go_num, by omega, C9, D9, B9, F9.out.setCell _ (.inr (by simp <;> omega))⟩
            case measure => simp [intOf]
        · have hy : R[i]? = some x := by rw [hg, cl, if_neg (by omega), if_neg h8]
          have A9 := h2
          rw [hset' hy] at A9
          have d4 : ((i : Int) == 4) = false := by simp; omega
          have d8 : ((i : Int) == 8) = false := by simp; omega
          have d12 : ((i : Int) == 12) = false := by simp; omega
          have e5 : IntKind.i64.wrap (m : Int) = m := by rw [IntKind.wrap_i64]; omega
          clear hset hset' hy hg hx gk bx h2 lF g2 hm h3 h8
          go_wp2
          go_roundw
          case rel => exact ⟨i + 1, by go_num, by omega, h0, h1, A9, hF⟩
          case measure => simp [intOf]; omega
    · have hi16 : i = 16 := by omega
      have A9 : Hid (Ar wr (w.heap.size + 1 + 1) 91 .i64 R) := by
        have h := h2.out
        rwa [hi16, H16.out] at h
      clear h2
      go_wp2_with (first
        | refine wpList_load_row rfl 91 (.tmp 3) rfl (w.heap.size + 1 + 1) rfl 91 (vs .i64 R) (0, 0) _ A9.out Try.underlying91 rfl s50.out ?_
        | refine wpList_store_row rfl 91 (.tmp 2) (.tmp 44) rfl (w.heap.size + 1) (vs .i64 R) rfl rfl 91 _ h1.out s50.out eZ.out (vs_all _ _) ?_)
      refine bodyPost_ret (results_cell_row Try.results56 _ _ _ 91 _ (0, 0) _ rfl (setRow_heap _ _ _ _ _ _ h1.out) Try.underlying91 rfl s50.out) rfl ⟨by rw [HR.out], hF.out.setRow _ (.inr (by omega))⟩
end Go.Proofs.Ytbafppdmlhogbaa
