/- The reference's press of the last block: contract. Conditions: eight words, 64 bytes, a number that is not below 0. -/
import Derived.Test.YtebknlhooijkcaaZp
namespace Go.Proofs.Ytebknlhooijkcaa
set_option linter.unusedSimpArgs false
set_option linter.unusedVariables false
open Go.ChangeShapes Go.WideShapes Go.ChangeAt Go.RowKit


set_option maxRecDepth 100000 in
set_option maxHeartbeats 16000000 in
theorem rpress_yes (h B : List Int) (tt : Int) (gB : Nat) (A : Option Addr) (cB : Nat) (w : World) (hh : V8 h) (hB : Sl w gB (.slice A 64 cB) B) (h0 : 0 ≤ tt) (h1 : tt ≤ 9223372036854775807) :
    Calls Try.prog 42 #[.agg (vs .u32 h), .slice A 64 cB, .int .i64 tt, .bool true] w fun e w' => e = .returned (.agg (vs .u32 (prs h B tt true))) ∧ Fr (fun _ => False) w w' := by
  have lB : Hid (B.length = 64) := hB.len
  have HH := Lib.hid hh
  have BB := Lib.hid hB.1
  obtain ⟨ob, rfl, hcell⟩ := hB.at_ (by decide)
  have CB := Lib.hid hcell
  clear hcell
  obtain ⟨M, hM⟩ : ∃ M, M = ws B := ⟨_, rfl⟩
  have HM : Hid (M = ws B) := hM
  have lM : Hid (M.length = 16) := by show _ = _; rw [hM]; exact ws_length 16 B lB.out
  obtain ⟨R, hR⟩ : ∃ R, R = prs h B tt true := ⟨_, rfl⟩
  have HR := Lib.hid hR
  rw [← hR]
  obtain ⟨Z, hZ⟩ : ∃ Z, Z = List.replicate 8 (0 : Int) := ⟨_, rfl⟩
  have hz8 : ∀ W : World, (zeroValue 51).run Try.prog W = .ok (.agg (vs .u32 Z)) W := fun W => by rw [hZ]; exact zero48 W
  have lZ : Hid (Z.length = 8) := by show _ = _; rw [hZ]; rfl
  obtain ⟨Y, hY⟩ : ∃ Y, Y = List.replicate 16 (0 : Int) := ⟨_, rfl⟩
  have hz16 : ∀ W : World, (zeroValue 69).run Try.prog W = .ok (.agg (vs .u32 Y)) W := fun W => by rw [hY]; exact zero59 W
  have HY : Hid (Y = fil M 0 0 ∧ Y = fl2 (h ++ iv) 0) := ⟨by rw [fil_zero, lM.out, hY], by rw [fl2_zero _ (by rw [List.length_append, hh.1]; rfl), hY]⟩
  clear hM hR hZ hh hB hY
  go_enter Try.func42, Try.ntmps42
  go_upto_region 2 with (fail)
  generalize hW : ((w.alloc (.cells (vs .u32 h) 51)).alloc (.cells (vs .u32 Z) 51)).alloc (.cells (vs .u32 Y) 69) = W0
  have HW := Lib.hid (calm3 hW)
  clear hW
  have F0 : Hid (Fr (fun _ => False) w W0) := HW.out.2.2.2
  have H0 : Hid (Ar W0 w.heap.size 51 .u32 h) := HW.out.1
  have Z0 : Hid (Ar W0 (w.heap.size + 1) 51 .u32 Z) := HW.out.2.1
  have M0 : Hid (Ar W0 (w.heap.size + 1 + 1) 69 .u32 (fil M 0 0)) := by rw [← HY.out.1]; exact HW.out.2.2.1
  clear HW
  go_upto_region 3 with (fail)
  go_loopw [10] (fun u10 wr => ∃ i : Nat, u10 = .int .i64 i ∧ i ≤ 16 ∧ Hid (Ar wr (w.heap.size + 1 + 1) 69 .u32 (fil M i 0)) ∧ Hid (Ar wr w.heap.size 51 .u32 h) ∧ Hid (Ar wr (w.heap.size + 1) 51 .u32 Z) ∧ Hid (Fr (fun _ => False) w wr)) (fun u10 _ => 16 - (intOf u10).toNat)
  case atStart => exact ⟨0, rfl, by omega, M0, H0, Z0, F0⟩
  case round =>
  clear H0 Z0 M0 F0
  obtain ⟨i, rfl, hi, hM, hH, hZ, hF⟩ := hrel
  by_cases hil : i < 16
  · obtain ⟨b0, b1, b2, b3, s1, s2, s3, s4, s5, y, a0, a1, a2, a3, e0, e1, e2, e3, e4, e5, e6, e7, e8, e9, hy⟩ := word4 lB.out BB.out hil
    rw [← HM.out] at hy
    have HYi := Lib.hid hy
    have c0 := CB.out (4 * i) (by omega)
    have c1 := CB.out (4 * i + 1) (by omega)
    have c2 := CB.out (4 * i + 2) (by omega)
    have c3 := CB.out (4 * i + 3) (by omega)
    rw [a0] at c0
    rw [a1] at c1
    rw [a2] at c2
    rw [a3] at c3
    have C0 := Lib.hid ((World.cell?_of_block (w := w) (hF.out.block gB (World.block_lt_of_cell? _ _ c0) (fun x => x))).trans c0)
    have C1 := Lib.hid ((World.cell?_of_block (w := w) (hF.out.block gB (World.block_lt_of_cell? _ _ c1) (fun x => x))).trans c1)
    have C2 := Lib.hid ((World.cell?_of_block (w := w) (hF.out.block gB (World.block_lt_of_cell? _ _ c2) (fun x => x))).trans c2)
    have C3 := Lib.hid ((World.cell?_of_block (w := w) (hF.out.block gB (World.block_lt_of_cell? _ _ c3) (fun x => x))).trans c3)
    have j0 : (i : Int) < 16 := by omega
    have j1 : IntKind.i64.wrap (4 * (i : Int)) = 4 * i := by rw [IntKind.wrap_i64]; omega
    have j2 : IntKind.i64.wrap (4 * (i : Int) + 1) = 4 * i + 1 := by rw [IntKind.wrap_i64]; omega
    have j3 : IntKind.i64.wrap (4 * (i : Int) + 2) = 4 * i + 2 := by rw [IntKind.wrap_i64]; omega
    have j4 : IntKind.i64.wrap (4 * (i : Int) + 3) = 4 * i + 3 := by rw [IntKind.wrap_i64]; omega
    have t0 : (4 * (i : Int)).toNat = 4 * i := by omega
    have t1 : (4 * (i : Int) + 1).toNat = 4 * i + 1 := by omega
    have t2 : (4 * (i : Int) + 2).toNat = 4 * i + 2 := by omega
    have t3 : (4 * (i : Int) + 3).toNat = 4 * i + 3 := by omega
    have p0 : 0 ≤ 4 * (i : Int) := by omega
    have p1 : 0 ≤ 4 * (i : Int) + 1 := by omega
    have p2 : 0 ≤ 4 * (i : Int) + 2 := by omega
    have p3 : 0 ≤ 4 * (i : Int) + 3 := by omega
    have q0 : 4 * (i : Int) < 64 := by omega
    have q1 : 4 * (i : Int) + 1 < 64 := by omega
    have q2 : 4 * (i : Int) + 2 < 64 := by omega
    have q3 : 4 * (i : Int) + 3 < 64 := by omega
    have ti : ((i : Int)).toNat = i := by omega
    have pi : 0 ≤ (i : Int) := by omega
    clear a0 a1 a2 a3 c0 c1 c2 c3 hy
    go_upto_region 5 with (fail)
    refine wp_region_quiet_tail (C := Calm wr) 35 (by kernel_rfl) (by kernel_rfl) (Calm.start _ _ (Fr.refl _ _)) ?_
    simp only [List.take_succ_cons, List.take_zero, List.drop_succ_cons, List.drop_zero]
    refine BigFrame.wpQuiet_want rfl fun K hK => ?_
    try simp only [Act.put, List.setIfInBounds_toArray, List.set_cons_succ, List.set_cons_zero]
    go_big_quiet_op
    refine hK _ ?_
    refine BigFrame.wpQuiet_want rfl fun K hK => ?_
    try simp only [Act.put, List.setIfInBounds_toArray, List.set_cons_succ, List.set_cons_zero]
    go_big_quiet_op
    refine hK _ ?_
    refine BigFrame.wpQuiet_want rfl fun K hK => ?_
    try simp only [Act.put, List.setIfInBounds_toArray, List.set_cons_succ, List.set_cons_zero]
    go_big_quiet_op
    refine hK _ ?_
    refine BigFrame.wpQuiet_want rfl fun K hK => ?_
    try simp only [Act.put, List.setIfInBounds_toArray, List.set_cons_succ, List.set_cons_zero]
    go_big_quiet_op
    first
      | refine ⟨_, fun _ _ => rfl, hK _ ?_⟩
      | refine hK _ ?_
    refine BigFrame.wpQuiet_want rfl fun K hK => ?_
    try simp only [Act.put, List.setIfInBounds_toArray, List.set_cons_succ, List.set_cons_zero]
    go_big_quiet_op
    first
      | refine ⟨_, fun _ _ => rfl, hK _ ?_⟩
      | refine hK _ ?_
    refine BigFrame.wpQuiet_want rfl fun K hK => quiet_one 5 .u8 (.tmp 27) rfl gB (ob + 4 * i) rfl (b0) Try.underlying5 (fun _ h => (World.cell?_of_block (w := wr) (Fr.block h _ (World.block_lt_of_cell? _ _ C0.out) (fun x => x))).trans C0.out) (hK _ ?_)
    refine BigFrame.wpQuiet_want rfl fun K hK => ?_
    try simp only [Act.put, List.setIfInBounds_toArray, List.set_cons_succ, List.set_cons_zero]
    go_big_quiet_op
    first
      | refine ⟨_, fun _ _ => rfl, hK _ ?_⟩
      | refine hK _ ?_
    refine BigFrame.wpQuiet_want rfl fun K hK => ?_
    try simp only [Act.put, List.setIfInBounds_toArray, List.set_cons_succ, List.set_cons_zero]
    go_big_quiet_op
    refine hK _ ?_
    refine BigFrame.wpQuiet_want rfl fun K hK => ?_
    try simp only [Act.put, List.setIfInBounds_toArray, List.set_cons_succ, List.set_cons_zero]
    go_big_quiet_op
    refine hK _ ?_
    refine BigFrame.wpQuiet_want rfl fun K hK => ?_
    try simp only [Act.put, List.setIfInBounds_toArray, List.set_cons_succ, List.set_cons_zero]
    go_big_quiet_op
    first
      | refine ⟨_, fun _ _ => rfl, hK _ ?_⟩
      | refine hK _ ?_
    refine BigFrame.wpQuiet_want rfl fun K hK => ?_
    try simp only [Act.put, List.setIfInBounds_toArray, List.set_cons_succ, List.set_cons_zero]
    go_big_quiet_op
    first
      | refine ⟨_, fun _ _ => rfl, hK _ ?_⟩
      | refine hK _ ?_
    refine BigFrame.wpQuiet_want rfl fun K hK => ?_
    try simp only [Act.put, List.setIfInBounds_toArray, List.set_cons_succ, List.set_cons_zero]
    go_big_quiet_op
    first
      | refine ⟨_, fun _ _ => rfl, hK _ ?_⟩
      | refine hK _ ?_
    refine BigFrame.wpQuiet_want rfl fun K hK => quiet_one 5 .u8 (.tmp 34) rfl gB (ob + (4 * i + 1)) rfl (b1) Try.underlying5 (fun _ h => (World.cell?_of_block (w := wr) (Fr.block h _ (World.block_lt_of_cell? _ _ C1.out) (fun x => x))).trans C1.out) (hK _ ?_)
    refine BigFrame.wpQuiet_want rfl fun K hK => ?_
    try simp only [Act.put, List.setIfInBounds_toArray, List.set_cons_succ, List.set_cons_zero]
    go_big_quiet_op
    first
      | refine ⟨_, fun _ _ => rfl, hK _ ?_⟩
      | refine hK _ ?_
    refine BigFrame.wpQuiet_want rfl fun K hK => ?_
    try simp only [Act.put, List.setIfInBounds_toArray, List.set_cons_succ, List.set_cons_zero]
    go_big_quiet_op
    first
      | refine ⟨_, fun _ _ => rfl, hK _ ?_⟩
      | refine hK _ ?_
    refine BigFrame.wpQuiet_want rfl fun K hK => ?_
    try simp only [Act.put, List.setIfInBounds_toArray, List.set_cons_succ, List.set_cons_zero]
    go_big_quiet_op
    first
      | refine ⟨_, fun _ _ => rfl, hK _ ?_⟩
      | refine hK _ ?_
    refine BigFrame.wpQuiet_want rfl fun K hK => ?_
    try simp only [Act.put, List.setIfInBounds_toArray, List.set_cons_succ, List.set_cons_zero]
    go_big_quiet_op
    refine hK _ ?_
    refine BigFrame.wpQuiet_want rfl fun K hK => ?_
    try simp only [Act.put, List.setIfInBounds_toArray, List.set_cons_succ, List.set_cons_zero]
    go_big_quiet_op
    refine hK _ ?_
    refine BigFrame.wpQuiet_want rfl fun K hK => ?_
    try simp only [Act.put, List.setIfInBounds_toArray, List.set_cons_succ, List.set_cons_zero]
    go_big_quiet_op
    first
      | refine ⟨_, fun _ _ => rfl, hK _ ?_⟩
      | refine hK _ ?_
    refine BigFrame.wpQuiet_want rfl fun K hK => ?_
    try simp only [Act.put, List.setIfInBounds_toArray, List.set_cons_succ, List.set_cons_zero]
    go_big_quiet_op
    first
      | refine ⟨_, fun _ _ => rfl, hK _ ?_⟩
      | refine hK _ ?_
    refine BigFrame.wpQuiet_want rfl fun K hK => ?_
    try simp only [Act.put, List.setIfInBounds_toArray, List.set_cons_succ, List.set_cons_zero]
    go_big_quiet_op
    first
      | refine ⟨_, fun _ _ => rfl, hK _ ?_⟩
      | refine hK _ ?_
    refine BigFrame.wpQuiet_want rfl fun K hK => quiet_one 5 .u8 (.tmp 43) rfl gB (ob + (4 * i + 2)) rfl (b2) Try.underlying5 (fun _ h => (World.cell?_of_block (w := wr) (Fr.block h _ (World.block_lt_of_cell? _ _ C2.out) (fun x => x))).trans C2.out) (hK _ ?_)
    refine BigFrame.wpQuiet_want rfl fun K hK => ?_
    try simp only [Act.put, List.setIfInBounds_toArray, List.set_cons_succ, List.set_cons_zero]
    go_big_quiet_op
    first
      | refine ⟨_, fun _ _ => rfl, hK _ ?_⟩
      | refine hK _ ?_
    refine BigFrame.wpQuiet_want rfl fun K hK => ?_
    try simp only [Act.put, List.setIfInBounds_toArray, List.set_cons_succ, List.set_cons_zero]
    go_big_quiet_op
    first
      | refine ⟨_, fun _ _ => rfl, hK _ ?_⟩
      | refine hK _ ?_
    refine BigFrame.wpQuiet_want rfl fun K hK => ?_
    try simp only [Act.put, List.setIfInBounds_toArray, List.set_cons_succ, List.set_cons_zero]
    go_big_quiet_op
    first
      | refine ⟨_, fun _ _ => rfl, hK _ ?_⟩
      | refine hK _ ?_
    refine BigFrame.wpQuiet_want rfl fun K hK => ?_
    try simp only [Act.put, List.setIfInBounds_toArray, List.set_cons_succ, List.set_cons_zero]
    go_big_quiet_op
    refine hK _ ?_
    refine BigFrame.wpQuiet_want rfl fun K hK => ?_
    try simp only [Act.put, List.setIfInBounds_toArray, List.set_cons_succ, List.set_cons_zero]
    go_big_quiet_op
    refine hK _ ?_
    refine BigFrame.wpQuiet_want rfl fun K hK => ?_
    try simp only [Act.put, List.setIfInBounds_toArray, List.set_cons_succ, List.set_cons_zero]
    go_big_quiet_op
    first
      | refine ⟨_, fun _ _ => rfl, hK _ ?_⟩
      | refine hK _ ?_
    refine BigFrame.wpQuiet_want rfl fun K hK => ?_
    try simp only [Act.put, List.setIfInBounds_toArray, List.set_cons_succ, List.set_cons_zero]
    go_big_quiet_op
    first
      | refine ⟨_, fun _ _ => rfl, hK _ ?_⟩
      | refine hK _ ?_
    refine BigFrame.wpQuiet_want rfl fun K hK => ?_
    try simp only [Act.put, List.setIfInBounds_toArray, List.set_cons_succ, List.set_cons_zero]
    go_big_quiet_op
    first
      | refine ⟨_, fun _ _ => rfl, hK _ ?_⟩
      | refine hK _ ?_
    refine BigFrame.wpQuiet_want rfl fun K hK => quiet_one 5 .u8 (.tmp 52) rfl gB (ob + (4 * i + 3)) rfl (b3) Try.underlying5 (fun _ h => (World.cell?_of_block (w := wr) (Fr.block h _ (World.block_lt_of_cell? _ _ C3.out) (fun x => x))).trans C3.out) (hK _ ?_)
    refine BigFrame.wpQuiet_want rfl fun K hK => ?_
    try simp only [Act.put, List.setIfInBounds_toArray, List.set_cons_succ, List.set_cons_zero]
    go_big_quiet_op
    first
      | refine ⟨_, fun _ _ => rfl, hK _ ?_⟩
      | refine hK _ ?_
    refine BigFrame.wpQuiet_want rfl fun K hK => ?_
    try simp only [Act.put, List.setIfInBounds_toArray, List.set_cons_succ, List.set_cons_zero]
    go_big_quiet_op
    first
      | refine ⟨_, fun _ _ => rfl, hK _ ?_⟩
      | refine hK _ ?_
    refine BigFrame.wpQuiet_want rfl fun K hK => ?_
    try simp only [Act.put, List.setIfInBounds_toArray, List.set_cons_succ, List.set_cons_zero]
    go_big_quiet_op
    first
      | refine ⟨_, fun _ _ => rfl, hK _ ?_⟩
      | refine hK _ ?_
    refine BigFrame.wpQuiet_want rfl fun K hK => ?_
    try simp only [Act.put, List.setIfInBounds_toArray, List.set_cons_succ, List.set_cons_zero]
    go_big_quiet_op
    first
      | refine ⟨_, fun _ _ => rfl, hK _ ?_⟩
      | refine hK _ ?_
    refine wpQuiet_nil ?_
    intro w9 hw9
    have F9 : Hid (Fr (fun _ => False) w w9) := hF.out.trans hw9
    have G9 := Lib.hid hw9
    clear hw9
    try simp only [Act.put, List.setIfInBounds_toArray, List.set_cons_succ, List.set_cons_zero]
    refine wpList_plain rfl fun K hK => wp_store_one 50 .u32 (.tmp 57) (.tmp 56) rfl (w.heap.size + 1 + 1) i rfl y rfl Try.underlying50 sz47 (Ar.fr hM.out G9.out (fun x => x)) (by rw [fil_length M i 0 (by have := lM.out; omega), lM.out]; exact hil) (hK _ _ ?_)
    have M9 := Lib.hid ((Ar.fr hM.out G9.out (fun x => x)).set i y)
    rw [fil_set M i 0 _ HYi.out] at M9
    have H9 : Hid (Ar (w9.setCell ⟨w.heap.size + 1 + 1, i, none⟩ (.int .u32 y)) w.heap.size 51 .u32 h) := (Ar.fr hH.out G9.out (fun x => x)).far (by show ¬ w.heap.size = (w.heap.size + 1 + 1); omega) _
    have Z9 : Hid (Ar (w9.setCell ⟨w.heap.size + 1 + 1, i, none⟩ (.int .u32 y)) (w.heap.size + 1) 51 .u32 Z) := (Ar.fr hZ.out G9.out (fun x => x)).far (by show ¬ (w.heap.size + 1) = (w.heap.size + 1 + 1); omega) _
    have K9 : Hid (Fr (fun _ => False) w (w9.setCell ⟨w.heap.size + 1 + 1, i, none⟩ (.int .u32 y))) := F9.out.setCell _ (.inr (by show w.heap.size ≤ w.heap.size + 1 + 1; omega))
    generalize w9.setCell ⟨w.heap.size + 1 + 1, i, none⟩ (.int .u32 y) = Y9 at *
    clear hM hH hZ hF F9 G9 C0 C1 C2 C3 e0 e1 e2 e3 e4 e5 e6 e7 e8 e9
    try simp only [Act.put, List.setIfInBounds_toArray, List.set_cons_succ, List.set_cons_zero]
    go_wp2
    go_roundw
    case rel => exact ⟨i + 1, by go_num, by omega, M9, H9, Z9, K9⟩
    case measure => simp [intOf]; omega
  obtain rfl : i = 16 := by omega
  have M9 : Hid (Ar wr (w.heap.size + 1 + 1) 69 .u32 M) := by
    have h := hM.out
    have e := fil_all M (0 : Int)
    rw [lM.out] at e
    rwa [e] at h
  clear hM hil hi
  go_upto_region 6 with (fail)
  obtain ⟨V, rfl⟩ : ∃ V : World, V = wr := ⟨_, rfl⟩
  have NV : Hid (w.heap.size + 2 < V.heap.size) := M9.out.lt
  go_upto_region 7 with (fail)
  obtain ⟨qv, hqv⟩ : ∃ q, q = V.heap.size := ⟨_, rfl⟩
  have V1 : Hid (Ar (V.alloc (.cells (vs .u32 Y) 69)) qv 69 .u32 (fl2 (h ++ iv) 0)) := by rw [hqv, ← HY.out.2]; exact Ar.new V 69 .u32 Y
  have FQ : Fr (fun _ => False) V (V.alloc (.cells (vs .u32 Y) 69)) := (Fr.refl _ V).alloc _
  have M1 := Lib.hid (M9.out.fr FQ (fun x => x))
  have H1 := Lib.hid (hH.out.fr FQ (fun x => x))
  have Z1 := Lib.hid (hZ.out.fr FQ (fun x => x))
  have F1 := Lib.hid (hF.out.trans FQ)
  have NQ : Hid (w.heap.size + 2 < qv) := by rw [hqv]; exact NV.out
  rw [← hqv]
  generalize V.alloc (.cells (vs .u32 Y) 69) = W1 at *
  clear FQ hqv M9 hH hZ hF NV hz16
  obtain ⟨IV, hIV⟩ : ∃ I, I = iv := ⟨_, rfl⟩
  have HIV := Lib.hid hIV
  have sI : Hid ((Try.prog.info? 51).map (·.size) = some (vs .u32 IV).size) := by show _ = _; rw [sz48, vs_size, hIV]; rfl
  have eI : Hid ((vs .u32 Z).size = (vs .u32 IV).size) := by show _ = _; rw [vs_size, vs_size, lZ.out, hIV]; rfl
  have lI : Hid (IV.length = 8) := by show _ = _; rw [hIV]; rfl
  have CS : ∀ W, Calls Try.prog 41 #[] W fun e w' => e = .returned (.agg (vs .u32 IV)) ∧ Fr (fun _ => False) W w' := fun W => by rw [hIV]; exact rstarts_is W
  clear hIV
  go_upto_region 8 with (first
    | (go_at_call 41; refine (CS _).mono ?_; rintro e w3 ⟨rfl, hf⟩; have F3 := Lib.hid hf; clear hf)
    | refine wpList_store_row rfl 51 (.tmp 12) (.tmp 58) rfl w3.heap.size (vs .u32 IV) rfl rfl 51 (vs .u32 Z) (heap_alloc_new w3 (.cells (vs .u32 Z) 51)) sI.out eI.out (vs_all _ _) ?_)
  obtain ⟨qi, hqi⟩ : ∃ q, q = w3.heap.size := ⟨_, rfl⟩
  have FQ : Fr (fun _ => False) w3 ((w3.alloc (.cells (vs .u32 Z) 51)).setRow w3.heap.size (vs .u32 IV)) := ((Fr.refl _ w3).alloc _).setRow _ (.inr (Nat.le_refl _))
  have I2 : Hid (Ar ((w3.alloc (.cells (vs .u32 Z) 51)).setRow w3.heap.size (vs .u32 IV)) qi 51 .u32 IV) := by rw [hqi]; exact (Ar.new w3 51 .u32 Z).row IV
  have NI : Hid (qv < qi) := by rw [hqi]; exact Nat.lt_of_lt_of_le V1.out.lt F3.out.size
  have FR := Lib.hid (F3.out.trans FQ)
  replace V1 := Lib.hid (V1.out.fr FR.out (fun x => x))
  replace M1 := Lib.hid (M1.out.fr FR.out (fun x => x))
  replace H1 := Lib.hid (H1.out.fr FR.out (fun x => x))
  replace Z1 := Lib.hid (Z1.out.fr FR.out (fun x => x))
  replace F1 := Lib.hid (F1.out.trans FR.out)
  rw [← hqi] at V1 M1 H1 Z1 F1 I2 ⊢
  generalize (w3.alloc (.cells (vs .u32 Z) 51)).setRow qi (vs .u32 IV) = W2 at *
  clear FQ hqi FR F3 sI eI hz8 CS
  try simp only [Act.put, List.setIfInBounds_toArray, List.set_cons_succ, List.set_cons_zero]
  go_upto_region 9 with (fail)
  rw [← HIV.out] at V1
  go_loopw [13] (fun u13 wr => ∃ i : Nat, u13 = .int .i64 i ∧ i ≤ 8 ∧ Hid (Ar wr qv 69 .u32 (fl2 (h ++ IV) i)) ∧ Hid (Fr (fun j => j = qv) W2 wr)) (fun u13 _ => 8 - (intOf u13).toNat)
  case atStart => exact ⟨0, rfl, by omega, V1, Lib.hid (Fr.refl _ _)⟩
  case round =>
  clear V1
  obtain ⟨i, rfl, hi, hV, hF⟩ := hrel
  have lL : Hid ((h ++ IV).length = 16) := by show _ = _; rw [List.length_append, HH.out.1, lI.out]
  by_cases hil : i < 8
  · obtain ⟨x, hx⟩ : ∃ x, h[i]? = some x := ⟨_, getD_some (by rw [HH.out.1]; exact hil)⟩
    obtain ⟨y, hy⟩ : ∃ y, IV[i]? = some y := ⟨_, getD_some (by rw [lI.out]; exact hil)⟩
    obtain ⟨z, hz⟩ : ∃ z, (fl2 (h ++ IV) i)[i]? = some z := ⟨_, getD_some (by rw [fl2_length (h ++ IV) lL.out i (by omega)]; omega)⟩
    have cH := (H1.out.fr hF.out (show ¬ w.heap.size = qv by have := NQ.out; omega)).cell hx
    have cI := (I2.out.fr hF.out (show ¬ qi = qv by have := NI.out; omega)).cell hy
    have lf := fl2_length (h ++ IV) lL.out i (by omega)
    have cV := hV.out.cell hz
    have fV := hV.out.frozen i
    have N1 := Lib.hid (hV.out.set i (x))
    have CI := Lib.hid cI
    have ti : ((i : Int)).toNat = i := by omega
    have pi : 0 ≤ (i : Int) := by omega
    have qi1 : (i : Int) < 8 := by omega
    have qi2 : (i : Int) < 16 := by omega
    have wi : IntKind.i64.wrap ((i : Int) + 8) = (i : Int) + 8 := by rw [IntKind.wrap_i64]; omega
    have ti8 : ((i : Int) + 8).toNat = i + 8 := by omega
    have pi8 : 0 ≤ (i : Int) + 8 := by omega
    have qi8 : (i : Int) + 8 < 16 := by omega
    have HXY := Lib.hid (And.intro hx hy)
    clear cI hx hy hz
    go_upto_region 12 with (fail)
    have G1 : Hid (Fr (fun j => j = qv) W2 (wr.setCell ⟨qv, i, none⟩ (.int .u32 (x)))) := hF.out.setCell _ (.inl rfl)
    have CJ : Hid ((wr.setCell ⟨qv, i, none⟩ (.int .u32 (x))).cell? ⟨qi, i, none⟩ = some (.int .u32 (y))) := (World.cell?_setCell_other (w := wr) (v := .int .u32 (x)) (a := ⟨qv, i, none⟩) (b := ⟨qi, i, none⟩) (by intro e; injection e with e _ _; have := NI.out; omega)).trans CI.out
    generalize wr.setCell ⟨qv, i, none⟩ (.int .u32 (x)) = W3 at *
    clear cH cV fV hV hF CI
    have cI := CJ.out
    obtain ⟨z2, hz2⟩ : ∃ z, ((fl2 (h ++ IV) i).set i x)[i + 8]? = some z := ⟨_, getD_some (by rw [List.length_set]; omega)⟩
    have cV := N1.out.cell hz2
    have fV := N1.out.frozen (i + 8)
    have N2 := Lib.hid (N1.out.set (i + 8) (y))
    rw [Nat.add_comm i 8, fl2_set (h ++ IV) lL.out i hil x y (by rw [List.getElem?_append_left (by rw [HH.out.1]; exact hil)]; exact HXY.out.1) (by rw [app_get HH.out.1]; exact HXY.out.2), Nat.add_comm 8 i] at N2
    clear lf hz2
    go_wp2
    go_roundw
    case rel => exact ⟨i + 1, by go_num, by omega, N2, G1.out.setCell _ (.inl rfl)⟩
    case measure => simp [intOf]; omega
  obtain rfl : i = 8 := by omega
  have V3 : Hid (Ar wr qv 69 .u32 (h ++ IV)) := by
    have h := hV.out
    rwa [fl2_all _ lL.out] at h
  clear hV hil hi
  go_upto_region 13 with (fail)
  obtain ⟨V, rfl⟩ : ∃ V : World, V = wr := ⟨_, rfl⟩
  replace M1 := Lib.hid (M1.out.fr hF.out (show ¬ (w.heap.size + 1 + 1) = qv by have := NQ.out; omega))
  replace H1 := Lib.hid (H1.out.fr hF.out (show ¬ w.heap.size = qv by have := NQ.out; omega))
  replace Z1 := Lib.hid (Z1.out.fr hF.out (show ¬ (w.heap.size + 1) = qv by have := NQ.out; omega))
  replace F1 : Hid (Fr (fun _ => False) w V) := F1.out.trans' hF.out (fun j hj e => by have := NQ.out; omega)
  clear hF I2 NI
  obtain ⟨p, hp⟩ : ∃ p, IntKind.u32.wrap tt = p := ⟨_, rfl⟩
  obtain ⟨x12, hx12⟩ : ∃ x, bits .xor .u32 1359893119 p = x := ⟨_, rfl⟩
  obtain ⟨p2, hp2⟩ : ∃ p, IntKind.u32.wrap (tt / 4294967296) = p := ⟨_, rfl⟩
  obtain ⟨x13, hx13⟩ : ∃ x, bits .xor .u32 2600822924 p2 = x := ⟨_, rfl⟩
  have HX : Hid (v0 h tt true = (h ++ [1779033703, 3144134277, 1013904242, 2773480762, x12, x13, 3766232660, 1541459225])) := by
    show _ = _
    rw [← hx12, ← hx13, ← hp, ← hp2, wrap32, wrap32]
    rfl
  have cV := V3.out.cell (show (h ++ IV)[8 + 4]? = some 1359893119 by rw [app_get HH.out.1, HIV.out]; rfl)
  have fV := V3.out.frozen (8 + 4)
  have V4 := Lib.hid (V3.out.set (8 + 4) x12)
  rw [app_set HH.out.1] at V4
  go_upto_region 14 with (fail)
  have K4 : Hid (Fr (fun j => j = qv) V (V.setCell ⟨qv, 12, none⟩ (.int .u32 x12))) := (Fr.refl _ _).setCell _ (.inl rfl)
  generalize V.setCell ⟨qv, 12, none⟩ (.int .u32 x12) = W4 at *
  clear cV fV
  have cV := V4.out.cell (show (h ++ IV.set 4 x12)[8 + 5]? = some 2600822924 by rw [app_get HH.out.1, HIV.out]; rfl)
  have fV := V4.out.frozen (8 + 5)
  have V5 := Lib.hid (V4.out.set (8 + 5) x13)
  rw [app_set HH.out.1] at V5
  go_upto_region 15 with (fail)
  have K5 : Hid (Fr (fun j => j = qv) V (W4.setCell ⟨qv, 13, none⟩ (.int .u32 x13))) := K4.out.setCell _ (.inl rfl)
  generalize W4.setCell ⟨qv, 13, none⟩ (.int .u32 x13) = W5 at *
  clear cV fV V4 K4
  have cV := V5.out.cell (show (h ++ (IV.set 4 x12).set 5 x13)[8 + 6]? = some 528734635 by rw [app_get HH.out.1, HIV.out]; rfl)
  have fV := V5.out.frozen (8 + 6)
  have V6 := Lib.hid (V5.out.set (8 + 6) 3766232660)
  rw [app_set HH.out.1] at V6
  go_upto_region 17 with (fail)
  rw [show bits .xor .u32 (if IntKind.u32.signed = true then -1 else IntKind.u32.max) 528734635 = (3766232660 : Int) from by decide +kernel]
  have K6 : Hid (Fr (fun j => j = qv) V (W5.setCell ⟨qv, 14, none⟩ (.int .u32 3766232660))) := K5.out.setCell _ (.inl rfl)
  generalize W5.setCell ⟨qv, 14, none⟩ (.int .u32 3766232660) = W6 at *
  obtain ⟨W5, rfl⟩ : ∃ W : World, W = W6 := ⟨_, rfl⟩
  clear cV fV V5 K5
  have K5 := K6
  clear K6
  have V6 : Hid (Ar W5 qv 69 .u32 (v0 h tt true)) := by
    have h := V6.out
    rw [HIV.out] at h
    rw [HX.out]
    exact h
  obtain ⟨U, hU⟩ : ∃ U, U = v0 h tt true := ⟨_, rfl⟩
  have HU : Hid (U = v0 h tt true) := hU
  rw [← hU] at V6
  have OU : Hid (V16 U) := by rw [hU]; exact v0_ok HH.out _ _
  replace M1 := Lib.hid (M1.out.fr K5.out (show ¬ (w.heap.size + 1 + 1) = qv by have := NQ.out; omega))
  replace H1 := Lib.hid (H1.out.fr K5.out (show ¬ w.heap.size = qv by have := NQ.out; omega))
  replace Z1 := Lib.hid (Z1.out.fr K5.out (show ¬ (w.heap.size + 1) = qv by have := NQ.out; omega))
  replace F1 : Hid (Fr (fun _ => False) w W5) := F1.out.trans' K5.out (fun j hj e => by have := NQ.out; omega)
  clear V3 K5 hU hx12 hx13 hp hp2 HX HIV lL h0 h1
  obtain ⟨LO, hLO⟩ : ∃ I, I = oti := ⟨_, rfl⟩
  have HLO := Lib.hid hLO
  obtain ⟨YO, hYO⟩ : ∃ I, I = List.replicate 160 (0 : Int) := ⟨_, rfl⟩
  have hzO : ∀ W : World, (zeroValue 73).run Try.prog W = .ok (.agg (vs .i64 YO)) W := fun W => by rw [hYO]; exact zero61 W
  have sO : Hid ((Try.prog.info? 73).map (·.size) = some (vs .i64 LO).size) := by show _ = _; rw [sz61, vs_size, hLO]; rfl
  have eO : Hid ((vs .i64 YO).size = (vs .i64 LO).size) := by show _ = _; rw [vs_size, vs_size, hYO, hLO]; rfl
  have CO : ∀ W, Calls Try.prog 48 #[] W fun e w' => e = .returned (.agg (vs .i64 LO)) ∧ Fr (fun _ => False) W w' := fun W => by rw [hLO]; exact rorders_is W
  clear hLO hYO
  go_upto_region 18 with (first
    | (go_at_call 48; refine (CO _).mono ?_; rintro e w3 ⟨rfl, hf⟩; have F3 := Lib.hid hf; clear hf)
    | refine wpList_store_row rfl 73 (.tmp 14) (.tmp 92) rfl w3.heap.size (vs .i64 LO) rfl rfl 73 (vs .i64 YO) (heap_alloc_new w3 (.cells (vs .i64 YO) 73)) sO.out eO.out (vs_all _ _) ?_)
  obtain ⟨qO, hqO⟩ : ∃ q, q = w3.heap.size := ⟨_, rfl⟩
  have FQ : Fr (fun _ => False) w3 ((w3.alloc (.cells (vs .i64 YO) 73)).setRow w3.heap.size (vs .i64 LO)) := ((Fr.refl _ w3).alloc _).setRow _ (.inr (Nat.le_refl _))
  have BO : Hid (Ar ((w3.alloc (.cells (vs .i64 YO) 73)).setRow w3.heap.size (vs .i64 LO)) qO 73 .i64 LO) := by rw [hqO]; exact (Ar.new w3 73 .i64 YO).row LO
  have NO : Hid (qv < qO) := by rw [hqO]; exact Nat.lt_of_lt_of_le V6.out.lt F3.out.size
  have FR := Lib.hid (F3.out.trans FQ)
  replace V6 := Lib.hid (V6.out.fr FR.out (fun x => x))
  replace M1 := Lib.hid (M1.out.fr FR.out (fun x => x))
  replace H1 := Lib.hid (H1.out.fr FR.out (fun x => x))
  replace Z1 := Lib.hid (Z1.out.fr FR.out (fun x => x))
  replace F1 := Lib.hid (F1.out.trans FR.out)

  rw [← hqO] at V6 M1 H1 Z1 F1 BO ⊢
  generalize (w3.alloc (.cells (vs .i64 YO) 73)).setRow qO (vs .i64 LO) = W6 at *
  clear FQ hqO FR F3 sO eO CO hzO
  try simp only [Act.put, List.setIfInBounds_toArray, List.set_cons_succ, List.set_cons_zero]
  obtain ⟨LP, hLP⟩ : ∃ I, I = pti := ⟨_, rfl⟩
  have HLP := Lib.hid hLP
  obtain ⟨YP, hYP⟩ : ∃ I, I = List.replicate 32 (0 : Int) := ⟨_, rfl⟩
  have hzP : ∀ W : World, (zeroValue 76).run Try.prog W = .ok (.agg (vs .i64 YP)) W := fun W => by rw [hYP]; exact zero64p W
  have sP : Hid ((Try.prog.info? 76).map (·.size) = some (vs .i64 LP).size) := by show _ = _; rw [sz64p, vs_size, hLP]; rfl
  have eP : Hid ((vs .i64 YP).size = (vs .i64 LP).size) := by show _ = _; rw [vs_size, vs_size, hYP, hLP]; rfl
  have CP : ∀ W, Calls Try.prog 49 #[] W fun e w' => e = .returned (.agg (vs .i64 LP)) ∧ Fr (fun _ => False) W w' := fun W => by rw [hLP]; exact rplaces_is W
  clear hLP hYP
  go_upto_region 19 with (first
    | (go_at_call 49; refine (CP _).mono ?_; rintro e w3 ⟨rfl, hf⟩; have F3 := Lib.hid hf; clear hf)
    | refine wpList_store_row rfl 76 (.tmp 15) (.tmp 93) rfl w3.heap.size (vs .i64 LP) rfl rfl 76 (vs .i64 YP) (heap_alloc_new w3 (.cells (vs .i64 YP) 76)) sP.out eP.out (vs_all _ _) ?_)
  obtain ⟨qP, hqP⟩ : ∃ q, q = w3.heap.size := ⟨_, rfl⟩
  have FQ : Fr (fun _ => False) w3 ((w3.alloc (.cells (vs .i64 YP) 76)).setRow w3.heap.size (vs .i64 LP)) := ((Fr.refl _ w3).alloc _).setRow _ (.inr (Nat.le_refl _))
  have BP : Hid (Ar ((w3.alloc (.cells (vs .i64 YP) 76)).setRow w3.heap.size (vs .i64 LP)) qP 76 .i64 LP) := by rw [hqP]; exact (Ar.new w3 76 .i64 YP).row LP
  have NP : Hid (qv < qP) := by rw [hqP]; exact Nat.lt_of_lt_of_le V6.out.lt F3.out.size
  have FR := Lib.hid (F3.out.trans FQ)
  replace V6 := Lib.hid (V6.out.fr FR.out (fun x => x))
  replace M1 := Lib.hid (M1.out.fr FR.out (fun x => x))
  replace H1 := Lib.hid (H1.out.fr FR.out (fun x => x))
  replace Z1 := Lib.hid (Z1.out.fr FR.out (fun x => x))
  replace F1 := Lib.hid (F1.out.trans FR.out)
  replace BO := Lib.hid (BO.out.fr FR.out (fun x => x))
  rw [← hqP] at V6 M1 H1 Z1 F1 BP BO ⊢
  generalize (w3.alloc (.cells (vs .i64 YP) 76)).setRow qP (vs .i64 LP) = W7 at *
  clear FQ hqP FR F3 sP eP CP hzP
  try simp only [Act.put, List.setIfInBounds_toArray, List.set_cons_succ, List.set_cons_zero]
  go_upto_region 20 with (fail)
  go_loopw [16, 17] (fun u16 _ wr => ∃ i : Nat, u16 = .int .i64 i ∧ i ≤ 10 ∧ Hid (Ar wr qv 69 .u32 (rd M U (8 * i))) ∧ Hid (Fr (fun j => j = qv) W7 wr)) (fun u16 _ _ => 10 - (intOf u16).toNat)
  case atStart => exact ⟨0, rfl, by omega, V6, Lib.hid (Fr.refl _ _)⟩
  case round =>
  clear V6
  obtain ⟨i, rfl, hi, hV, hF⟩ := hrel
  by_cases hil : i < 10
  · have qi : (i : Int) < 10 := by omega
    have pi : 0 ≤ (i : Int) := by omega
    have ti : ((i : Int)).toNat = i := by omega
    go_upto_region 23 with (fail)
    obtain ⟨V, rfl⟩ : ∃ V : World, V = wr := ⟨_, rfl⟩
    go_loopw [17] (fun u17 wr => ∃ k : Nat, u17 = .int .i64 k ∧ k ≤ 8 ∧ Hid (Ar wr qv 69 .u32 (rd M U (8 * i + k))) ∧ Hid (Fr (fun j => j = qv) W7 wr)) (fun u17 _ => 8 - (intOf u17).toNat)
    case atStart => exact ⟨0, rfl, by omega, hV, hF⟩
    case round =>
      clear hV hF
      obtain ⟨k, rfl, hk, hV, hF⟩ := hrel
      by_cases hkl : k < 8
      · have qk : (k : Int) < 8 := by omega
        have pk : 0 ≤ (k : Int) := by omega
        have tk : ((k : Int)).toNat = k := by omega
        go_upto_region 25 with (fail)
        obtain ⟨o1, ho1⟩ : ∃ o, o = ot (2 * (8 * i + k)) := ⟨_, rfl⟩
        obtain ⟨o2, ho2⟩ : ∃ o, o = ot (2 * (8 * i + k) + 1) := ⟨_, rfl⟩
        have l1 : o1 < 16 := by rw [ho1]; exact ot_lt _
        have l2 : o2 < 16 := by rw [ho2]; exact ot_lt _
        have G1 : Hid (LO[i * 16 + 2 * k]? = some (o1 : Int)) := by
          show _ = _
          rw [HLO.out, ho1, show i * 16 + 2 * k = 2 * (8 * i + k) by omega]
          exact oti_get _ (by omega)
        have G2 : Hid (LO[i * 16 + (2 * k + 1)]? = some (o2 : Int)) := by
          show _ = _
          rw [HLO.out, ho2, show i * 16 + (2 * k + 1) = 2 * (8 * i + k) + 1 by omega]
          exact oti_get _ (by omega)
        obtain ⟨y1, hy1⟩ : ∃ y, M[o1]? = some y := ⟨_, getD_some (by rw [lM.out]; exact l1)⟩
        obtain ⟨y2, hy2⟩ : ∃ y, M[o2]? = some y := ⟨_, getD_some (by rw [lM.out]; exact l2)⟩
        have Y1 := Lib.hid hy1
        have Y2 := Lib.hid hy2
        obtain ⟨pa, hpa⟩ : ∃ p, p = pt (4 * k) := ⟨_, rfl⟩
        obtain ⟨pb, hpb⟩ : ∃ p, p = pt (4 * k + 1) := ⟨_, rfl⟩
        obtain ⟨pc, hpc⟩ : ∃ p, p = pt (4 * k + 2) := ⟨_, rfl⟩
        obtain ⟨pd, hpd⟩ : ∃ p, p = pt (4 * k + 3) := ⟨_, rfl⟩
        have LP4 : Hid (pa < 16 ∧ pb < 16 ∧ pc < 16 ∧ pd < 16) := by rw [hpa, hpb, hpc, hpd]; exact ⟨pt_lt _, pt_lt _, pt_lt _, pt_lt _⟩
        have G4 : Hid (∀ j v, (vs .i64 [(pa : Int), (pb : Int), (pc : Int), (pd : Int)]).toList[j]? = some v → ∃ x, v = .int .i64 x ∧ LP[k * 4 + j]? = some x) := by
          show ∀ _, _
          intro j v hv
          rw [HLP.out]
          rw [hpa, hpb, hpc, hpd] at hv
          rcases (by omega : j = 0 ∨ j = 1 ∨ j = 2 ∨ j = 3 ∨ 4 ≤ j) with rfl | rfl | rfl | rfl | h4
          · injection hv with hv
            exact ⟨_, hv.symm, by rw [show k * 4 + 0 = 4 * k by omega]; exact pti_get _ (by omega)⟩
          · injection hv with hv
            exact ⟨_, hv.symm, by rw [show k * 4 + 1 = 4 * k + 1 by omega]; exact pti_get _ (by omega)⟩
          · injection hv with hv
            exact ⟨_, hv.symm, by rw [show k * 4 + 2 = 4 * k + 2 by omega]; exact pti_get _ (by omega)⟩
          · injection hv with hv
            exact ⟨_, hv.symm, by rw [show k * 4 + 3 = 4 * k + 3 by omega]; exact pti_get _ (by omega)⟩
          · rw [List.getElem?_eq_none (by simp [vs]; omega)] at hv
            cases hv
        obtain ⟨D, hD⟩ : ∃ D, D = rd M U (8 * i + k) := ⟨_, rfl⟩
        have OD : Hid (V16 D) := by rw [hD]; exact rd_ok OU.out _
        rw [← hD] at hV
        obtain ⟨E, hE⟩ : ∃ E, E = mx D pa pb pc pd y1 y2 := ⟨_, rfl⟩
        have HE : Hid (E = rd M U (8 * i + (k + 1))) := by
          show _ = _
          rw [hE, ← Nat.add_assoc, rd_succ, stp, ← hD, ← ho1, ← ho2, show (8 * i + k) % 8 = k by omega, ← hpa, ← hpb, ← hpc, ← hpd, List.getD_eq_getElem?_getD, hy1, List.getD_eq_getElem?_getD, hy2]
          rfl
        have OE : Hid (E.length = 16) := by rw [hE]; exact (mx_ok OD.out LP4.out.1 LP4.out.2.1 LP4.out.2.2.1 LP4.out.2.2.2 _ _).1
        have CM : ∀ W, Calls Try.prog 50 #[.agg (vs .u32 D), .agg (vs .i64 [(pa : Int), (pb : Int), (pc : Int), (pd : Int)]), .int .u32 y1, .int .u32 y2] W fun e w' => e = .returned (.agg (vs .u32 E)) ∧ Fr (fun _ => False) W w' := fun W => by rw [hE]; exact rmix_is D pa pb pc pd y1 y2 W OD.out LP4.out.1 LP4.out.2.1 LP4.out.2.2.1 LP4.out.2.2.2
        have sD : Hid ((Try.prog.info? 69).map (·.size) = some (vs .u32 D).size) := by show _ = _; rw [sz59, vs_size, OD.out.1]
        have sE : Hid ((Try.prog.info? 69).map (·.size) = some (vs .u32 E).size) := by show _ = _; rw [sz59, vs_size, OE.out]
        have eE : Hid ((vs .u32 D).size = (vs .u32 E).size) := by show _ = _; rw [vs_size, vs_size, OD.out.1, OE.out]
        have BO2 := Lib.hid (BO.out.fr hF.out (show ¬ qO = qv by have := NO.out; omega))
        have BP2 := Lib.hid (BP.out.fr hF.out (show ¬ qP = qv by have := NP.out; omega))
        have M2 := Lib.hid (M1.out.fr hF.out (show ¬ (w.heap.size + 1 + 1) = qv by have := NQ.out; omega))
        have w1 : IntKind.i64.wrap (2 * (k : Int)) = 2 * k := by rw [IntKind.wrap_i64]; omega
        have w2 : IntKind.i64.wrap (2 * (k : Int) + 1) = 2 * k + 1 := by rw [IntKind.wrap_i64]; omega
        have t1 : (2 * (k : Int)).toNat = 2 * k := by omega
        have t2 : (2 * (k : Int) + 1).toNat = 2 * k + 1 := by omega
        have p1 : 0 ≤ 2 * (k : Int) := by omega
        have p2 : 0 ≤ 2 * (k : Int) + 1 := by omega
        have q1 : 2 * (k : Int) < 16 := by omega
        have q2 : 2 * (k : Int) + 1 < 16 := by omega
        obtain ⟨t3, p3, q3⟩ := at16 l1
        obtain ⟨t4, p4, q4⟩ := at16 l2
        clear ho1 ho2 hy1 hy2 hpa hpb hpc hpd hD hE l1 l2
        refine wp_region_quiet_tail (C := Calm wr) 22 (by kernel_rfl) (by kernel_rfl) (Calm.start _ _ (Fr.refl _ _)) ?_
        simp only [List.take_succ_cons, List.take_zero, List.drop_succ_cons, List.drop_zero]
        refine BigFrame.wpQuiet_want rfl fun K hK => quiet_load 69 (.tmp 11) rfl (qv) rfl 69 _ (0, 0) _ (fun _ h => Calm.at hV.out h) Try.underlying69 rfl sD.out (hK _ ?_)
        refine BigFrame.wpQuiet_want rfl fun K hK => ?_
        try simp only [Act.put, List.setIfInBounds_toArray, List.set_cons_succ, List.set_cons_zero]
        go_big_quiet_op
        refine hK _ ?_
        refine BigFrame.wpQuiet_want rfl fun K hK => ?_
        try simp only [Act.put, List.setIfInBounds_toArray, List.set_cons_succ, List.set_cons_zero]
        go_big_quiet_op
        first
          | refine ⟨_, fun _ _ => rfl, hK _ ?_⟩
          | refine hK _ ?_
        refine BigFrame.wpQuiet_want rfl fun K hK => quiet_mid 75 _ (.tmp 104) rfl (qP) (k * 4) rfl .i64 ([(pa : Int), (pb : Int), (pc : Int), (pd : Int)]) Try.underlying75 rfl (by kernel_rfl) (fun _ h => (fun j v hv => by obtain ⟨x, rfl, hx⟩ := G4.out j v hv; exact (Ar.fr BP2.out h (fun x => x)).cell hx)) (hK _ ?_)
        refine BigFrame.wpQuiet_want rfl fun K hK => ?_
        try simp only [Act.put, List.setIfInBounds_toArray, List.set_cons_succ, List.set_cons_zero]
        go_big_quiet_op
        refine hK _ ?_
        refine BigFrame.wpQuiet_want rfl fun K hK => ?_
        try simp only [Act.put, List.setIfInBounds_toArray, List.set_cons_succ, List.set_cons_zero]
        go_big_quiet_op
        refine hK _ ?_
        refine BigFrame.wpQuiet_want rfl fun K hK => ?_
        try simp only [Act.put, List.setIfInBounds_toArray, List.set_cons_succ, List.set_cons_zero]
        go_big_quiet_op
        first
          | refine ⟨_, fun _ _ => rfl, hK _ ?_⟩
          | refine hK _ ?_
        refine BigFrame.wpQuiet_want rfl fun K hK => ?_
        try simp only [Act.put, List.setIfInBounds_toArray, List.set_cons_succ, List.set_cons_zero]
        go_big_quiet_op
        first
          | refine ⟨_, fun _ _ => rfl, hK _ ?_⟩
          | refine hK _ ?_
        refine BigFrame.wpQuiet_want rfl fun K hK => ?_
        try simp only [Act.put, List.setIfInBounds_toArray, List.set_cons_succ, List.set_cons_zero]
        go_big_quiet_op
        first
          | refine ⟨_, fun _ _ => rfl, hK _ ?_⟩
          | refine hK _ ?_
        refine BigFrame.wpQuiet_want rfl fun K hK => quiet_one 3 .i64 (.tmp 110) rfl qO (i * 16 + 2 * k) rfl (o1 : Int) Try.underlying3 (fun _ h => (Ar.fr BO2.out h (fun x => x)).cell G1.out) (hK _ ?_)
        refine BigFrame.wpQuiet_want rfl fun K hK => ?_
        try simp only [Act.put, List.setIfInBounds_toArray, List.set_cons_succ, List.set_cons_zero]
        go_big_quiet_op
        first
          | refine ⟨_, fun _ _ => rfl, hK _ ?_⟩
          | refine hK _ ?_
        refine BigFrame.wpQuiet_want rfl fun K hK => quiet_one 50 .u32 (.tmp 112) rfl (w.heap.size + 1 + 1) (o1) rfl y1 Try.underlying50 (fun _ h => (Ar.fr M2.out h (fun x => x)).cell Y1.out) (hK _ ?_)
        refine BigFrame.wpQuiet_want rfl fun K hK => ?_
        try simp only [Act.put, List.setIfInBounds_toArray, List.set_cons_succ, List.set_cons_zero]
        go_big_quiet_op
        refine hK _ ?_
        refine BigFrame.wpQuiet_want rfl fun K hK => ?_
        try simp only [Act.put, List.setIfInBounds_toArray, List.set_cons_succ, List.set_cons_zero]
        go_big_quiet_op
        refine hK _ ?_
        refine BigFrame.wpQuiet_want rfl fun K hK => ?_
        try simp only [Act.put, List.setIfInBounds_toArray, List.set_cons_succ, List.set_cons_zero]
        go_big_quiet_op
        first
          | refine ⟨_, fun _ _ => rfl, hK _ ?_⟩
          | refine hK _ ?_
        refine BigFrame.wpQuiet_want rfl fun K hK => ?_
        try simp only [Act.put, List.setIfInBounds_toArray, List.set_cons_succ, List.set_cons_zero]
        go_big_quiet_op
        first
          | refine ⟨_, fun _ _ => rfl, hK _ ?_⟩
          | refine hK _ ?_
        refine BigFrame.wpQuiet_want rfl fun K hK => ?_
        try simp only [Act.put, List.setIfInBounds_toArray, List.set_cons_succ, List.set_cons_zero]
        go_big_quiet_op
        first
          | refine ⟨_, fun _ _ => rfl, hK _ ?_⟩
          | refine hK _ ?_
        refine BigFrame.wpQuiet_want rfl fun K hK => ?_
        try simp only [Act.put, List.setIfInBounds_toArray, List.set_cons_succ, List.set_cons_zero]
        go_big_quiet_op
        first
          | refine ⟨_, fun _ _ => rfl, hK _ ?_⟩
          | refine hK _ ?_
        refine BigFrame.wpQuiet_want rfl fun K hK => quiet_one 3 .i64 (.tmp 119) rfl qO (i * 16 + (2 * k + 1)) rfl (o2 : Int) Try.underlying3 (fun _ h => (Ar.fr BO2.out h (fun x => x)).cell G2.out) (hK _ ?_)
        refine BigFrame.wpQuiet_want rfl fun K hK => ?_
        try simp only [Act.put, List.setIfInBounds_toArray, List.set_cons_succ, List.set_cons_zero]
        go_big_quiet_op
        first
          | refine ⟨_, fun _ _ => rfl, hK _ ?_⟩
          | refine hK _ ?_
        refine BigFrame.wpQuiet_want rfl fun K hK => quiet_one 50 .u32 (.tmp 121) rfl (w.heap.size + 1 + 1) (o2) rfl y2 Try.underlying50 (fun _ h => (Ar.fr M2.out h (fun x => x)).cell Y2.out) (hK _ ?_)
        refine BigFrame.wpQuiet_want rfl fun K hK => ?_
        try simp only [Act.put, List.setIfInBounds_toArray, List.set_cons_succ, List.set_cons_zero]
        go_big_quiet_op
        refine ⟨_, Calm.calls CM, hK _ ?_⟩
        refine wpQuiet_nil ?_
        intro w9 hw9
        have G9 := Lib.hid hw9
        clear hw9
        try simp only [Act.put, List.setIfInBounds_toArray, List.set_cons_succ, List.set_cons_zero]
        refine wpList_store_row rfl 69 (.tmp 11) (.tmp 123) rfl qv (vs .u32 E) rfl rfl 69 (vs .u32 D) (Ar.fr hV.out G9.out (fun x => x)) sE.out eE.out (vs_all _ _) ?_
        have V9 : Hid (Ar (w9.setRow qv (vs .u32 E)) qv 69 .u32 (rd M U (8 * i + (k + 1)))) := by rw [← HE.out]; exact (Ar.fr hV.out G9.out (fun x => x)).row E
        have K9 : Hid (Fr (fun j => j = qv) W7 (w9.setRow qv (vs .u32 E))) := (hF.out.trans G9.out.any).setRow _ (.inl rfl)
        generalize w9.setRow qv (vs .u32 E) = Y9 at *
        clear hV hF G9 HE CM G1 G2 G4 BO2 BP2 M2 sD sE eE
        try simp only [Act.put, List.setIfInBounds_toArray, List.set_cons_succ, List.set_cons_zero]
        go_wp2
        go_roundw
        case rel => exact ⟨k + 1, by go_num, by omega, V9, K9⟩
        case measure => simp [intOf]; omega
      obtain rfl : k = 8 := by omega
      have V9 : Hid (Ar wr qv 69 .u32 (rd M U (8 * (i + 1)))) := by
        have h := hV.out
        rwa [show 8 * i + 8 = 8 * (i + 1) by omega] at h
      clear hV hkl hk
      go_wp2
      go_roundw
      case rel =>
        first
        | exact ⟨i + 1, by go_num, by omega, V9, hF⟩
        | (refine ⟨_, _, _, _, _, _, _, _, _, _, _, _, _, _, _, _, _, _, _, _, _, _, _, _, _, _, _, _, _, _, _, _, _, ?_, rfl⟩; exact ⟨i + 1, by go_num, by omega, V9, hF⟩)
      case measure => simp [intOf]; omega
  obtain rfl : i = 10 := by omega
  obtain ⟨D, hD⟩ : ∃ D, D = rd M U 80 := ⟨_, rfl⟩
  have OD : Hid (V16 D) := by rw [hD]; exact rd_ok OU.out _
  have V9 : Hid (Ar wr qv 69 .u32 D) := by rw [hD]; exact hV.out
  have HE : Hid (R = fn h D) := by show _ = _; rw [HR.out, prs, ← HM.out, ← HU.out, hD]
  obtain ⟨V, rfl⟩ : ∃ V : World, V = wr := ⟨_, rfl⟩
  have H3 := Lib.hid (H1.out.fr hF.out (show ¬ w.heap.size = qv by have := NQ.out; omega))
  have Z3 := Lib.hid (Z1.out.fr hF.out (show ¬ (w.heap.size + 1) = qv by have := NQ.out; omega))
  have F3 : Hid (Fr (fun _ => False) w V) := F1.out.trans' hF.out (fun j hj e => by have := NQ.out; omega)
  clear hV hF hD BO BP M1 H1 Z1 F1 HLO HLP NO NP HM HU HR OU hil hi
  go_upto_region 27 with (fail)
  have lR : Hid (R.length = 8) := by show _ = _; rw [HE.out, fn_length]
  have H4 : Hid (Ar V w.heap.size 51 .u32 (R.take 0 ++ h.drop 0)) := H3.out
  go_loopw [18] (fun u18 wr => ∃ i : Nat, u18 = .int .i64 i ∧ i ≤ 8 ∧ Hid (Ar wr w.heap.size 51 .u32 (R.take i ++ h.drop i)) ∧ Hid (Fr (fun j => j = w.heap.size) V wr)) (fun u18 _ => 8 - (intOf u18).toNat)
  case atStart => exact ⟨0, rfl, by omega, H4, Lib.hid (Fr.refl _ _)⟩
  case round =>
  clear H3 H4
  obtain ⟨i, rfl, hi, hH, hF⟩ := hrel
  by_cases hil : i < 8
  · obtain ⟨x, hx⟩ : ∃ x, h[i]? = some x := ⟨_, getD_some (by rw [HH.out.1]; exact hil)⟩
    obtain ⟨a, ha⟩ : ∃ x, D[i]? = some x := ⟨_, getD_some (by rw [OD.out.1]; omega)⟩
    obtain ⟨b, hb⟩ : ∃ x, D[i + 8]? = some x := ⟨_, getD_some (by rw [OD.out.1]; omega)⟩
    obtain ⟨s, hs⟩ : ∃ s, bits .xor .u32 x a = s := ⟨_, rfl⟩
    obtain ⟨y, hy⟩ : ∃ y, bits .xor .u32 s b = y := ⟨_, rfl⟩
    have RY : Hid (R[i]? = some y) := by
      show _ = _
      rw [HE.out, fn_get h D hil, List.getD_eq_getElem?_getD, hx, List.getD_eq_getElem?_getD, ha, List.getD_eq_getElem?_getD, hb, ← hy, ← hs]
      rfl
    have X1 : Hid ((R.take i ++ h.drop i)[i]? = some x) := by
      show _ = _
      rw [half_get (Nat.le_refl i) (by rw [lR.out, HH.out.1]) (by rw [HH.out.1]; exact hil), List.getD_eq_getElem?_getD, hx]
      rfl
    have XA := Lib.hid ha
    have XB := Lib.hid hb
    have D2 := Lib.hid (V9.out.fr hF.out (show ¬ qv = w.heap.size by have := NQ.out; omega))
    have qi : (i : Int) < 8 := by omega
    have qi2 : (i : Int) < 16 := by omega
    have pi : 0 ≤ (i : Int) := by omega
    have ti : ((i : Int)).toNat = i := by omega
    have wi : IntKind.i64.wrap ((i : Int) + 8) = (i : Int) + 8 := by rw [IntKind.wrap_i64]; omega
    have ti8 : ((i : Int) + 8).toNat = i + 8 := by omega
    have pi8 : 0 ≤ (i : Int) + 8 := by omega
    have qi8 : (i : Int) + 8 < 16 := by omega
    clear hx ha hb
    go_upto_region 29 with (fail)
    refine wp_region_quiet_tail (C := Calm wr) 14 (by kernel_rfl) (by kernel_rfl) (Calm.start _ _ (Fr.refl _ _)) ?_
    simp only [List.take_succ_cons, List.take_zero, List.drop_succ_cons, List.drop_zero]
    refine BigFrame.wpQuiet_want rfl fun K hK => ?_
    try simp only [Act.put, List.setIfInBounds_toArray, List.set_cons_succ, List.set_cons_zero]
    go_big_quiet_op
    refine hK _ ?_
    refine BigFrame.wpQuiet_want rfl fun K hK => ?_
    try simp only [Act.put, List.setIfInBounds_toArray, List.set_cons_succ, List.set_cons_zero]
    go_big_quiet_op
    refine hK _ ?_
    refine BigFrame.wpQuiet_want rfl fun K hK => ?_
    try simp only [Act.put, List.setIfInBounds_toArray, List.set_cons_succ, List.set_cons_zero]
    go_big_quiet_op
    first
      | refine ⟨_, fun _ _ => rfl, hK _ ?_⟩
      | refine hK _ ?_
    refine BigFrame.wpQuiet_want rfl fun K hK => quiet_one 50 .u32 (.tmp 130) rfl w.heap.size (i) rfl x Try.underlying50 (fun _ h => (Ar.fr hH.out h (fun x => x)).cell X1.out) (hK _ ?_)
    refine BigFrame.wpQuiet_want rfl fun K hK => ?_
    try simp only [Act.put, List.setIfInBounds_toArray, List.set_cons_succ, List.set_cons_zero]
    go_big_quiet_op
    refine hK _ ?_
    refine BigFrame.wpQuiet_want rfl fun K hK => ?_
    try simp only [Act.put, List.setIfInBounds_toArray, List.set_cons_succ, List.set_cons_zero]
    go_big_quiet_op
    first
      | refine ⟨_, fun _ _ => rfl, hK _ ?_⟩
      | refine hK _ ?_
    refine BigFrame.wpQuiet_want rfl fun K hK => quiet_one 50 .u32 (.tmp 133) rfl qv (i) rfl a Try.underlying50 (fun _ h => (Ar.fr D2.out h (fun x => x)).cell XA.out) (hK _ ?_)
    refine BigFrame.wpQuiet_want rfl fun K hK => ?_
    try simp only [Act.put, List.setIfInBounds_toArray, List.set_cons_succ, List.set_cons_zero]
    go_big_quiet_op
    first
      | refine ⟨_, fun _ _ => rfl, hK _ ?_⟩
      | refine hK _ ?_
    refine BigFrame.wpQuiet_want rfl fun K hK => ?_
    try simp only [Act.put, List.setIfInBounds_toArray, List.set_cons_succ, List.set_cons_zero]
    go_big_quiet_op
    refine hK _ ?_
    refine BigFrame.wpQuiet_want rfl fun K hK => ?_
    try simp only [Act.put, List.setIfInBounds_toArray, List.set_cons_succ, List.set_cons_zero]
    go_big_quiet_op
    first
      | refine ⟨_, fun _ _ => rfl, hK _ ?_⟩
      | refine hK _ ?_
    refine BigFrame.wpQuiet_want rfl fun K hK => ?_
    try simp only [Act.put, List.setIfInBounds_toArray, List.set_cons_succ, List.set_cons_zero]
    go_big_quiet_op
    first
      | refine ⟨_, fun _ _ => rfl, hK _ ?_⟩
      | refine hK _ ?_
    refine BigFrame.wpQuiet_want rfl fun K hK => quiet_one 50 .u32 (.tmp 138) rfl qv (i + 8) rfl b Try.underlying50 (fun _ h => (Ar.fr D2.out h (fun x => x)).cell XB.out) (hK _ ?_)
    refine BigFrame.wpQuiet_want rfl fun K hK => ?_
    try simp only [Act.put, List.setIfInBounds_toArray, List.set_cons_succ, List.set_cons_zero]
    go_big_quiet_op
    first
      | refine ⟨_, fun _ _ => rfl, hK _ ?_⟩
      | refine hK _ ?_
    refine BigFrame.wpQuiet_want rfl fun K hK => ?_
    try simp only [Act.put, List.setIfInBounds_toArray, List.set_cons_succ, List.set_cons_zero]
    go_big_quiet_op
    first
      | refine ⟨_, fun _ _ => rfl, hK _ ?_⟩
      | refine hK _ ?_
    refine wpQuiet_nil ?_
    intro w9 hw9
    have G9 := Lib.hid hw9
    clear hw9
    try simp only [Act.put, List.setIfInBounds_toArray, List.set_cons_succ, List.set_cons_zero]
    refine wpList_plain rfl fun K hK => wp_store_one 50 .u32 (.tmp 141) (.tmp 140) rfl w.heap.size i rfl y rfl Try.underlying50 sz47 (Ar.fr hH.out G9.out (fun x => x)) (by rw [List.length_append, List.length_take, List.length_drop, lR.out, HH.out.1]; omega) (hK _ _ ?_)
    have N9 := Lib.hid ((Ar.fr hH.out G9.out (fun x => x)).set i y)
    rw [half_set (by rw [HH.out.1]; exact hil) (by rw [lR.out, HH.out.1]) RY.out] at N9
    have K9 : Hid (Fr (fun j => j = w.heap.size) V (w9.setCell ⟨w.heap.size, i, none⟩ (.int .u32 y))) := (hF.out.trans G9.out.any).setCell _ (.inl rfl)
    generalize w9.setCell ⟨w.heap.size, i, none⟩ (.int .u32 y) = Y9 at *
    clear hH hF G9 X1 XA XB D2 RY hs hy
    try simp only [Act.put, List.setIfInBounds_toArray, List.set_cons_succ, List.set_cons_zero]
    go_wp2
    go_roundw
    case rel => exact ⟨i + 1, by go_num, by omega, N9, K9⟩
    case measure => simp [intOf]; omega
  obtain rfl : i = 8 := by omega
  have H9 : Hid (Ar wr w.heap.size 51 .u32 R) := by
    have e := hH.out
    rwa [List.take_of_length_le (by rw [lR.out]; exact Nat.le_refl 8), List.drop_of_length_le (by rw [HH.out.1]; exact Nat.le_refl 8), List.append_nil] at e
  have Z9 := Lib.hid (Z3.out.fr hF.out (show ¬ (w.heap.size + 1) = w.heap.size by omega))
  have F9 : Hid (Fr (fun _ => False) w wr) := F3.out.trans' hF.out (fun j hj e => by omega)
  have s9 : Hid ((Try.prog.info? 51).map (·.size) = some (vs .u32 R).size) := by show _ = _; rw [sz48, vs_size, lR.out]
  have e9 : Hid ((vs .u32 Z).size = (vs .u32 R).size) := by show _ = _; rw [vs_size, vs_size, lZ.out, lR.out]
  clear hH hF Z3 F3 V9 hil hi
  go_wp2_with (first
    | refine wpList_load_row rfl 51 (.tmp 4) rfl (w.heap.size) rfl 51 (vs .u32 R) (0, 0) _ H9.out Try.underlying51 rfl s9.out ?_
    | refine wpList_store_row rfl 51 (.tmp 8) (.tmp 142) rfl (w.heap.size + 1) (vs .u32 R) rfl rfl 51 _ Z9.out s9.out e9.out (vs_all _ _) ?_)
  refine bodyPost_ret (results_cell_row Try.results42 _ _ _ 51 _ (0, 0) _ rfl (setRow_heap _ _ _ _ _ _ Z9.out) Try.underlying51 rfl s9.out) rfl ⟨rfl, F9.out.setRow _ (.inr (by omega))⟩
end Go.Proofs.Ytebknlhooijkcaa
