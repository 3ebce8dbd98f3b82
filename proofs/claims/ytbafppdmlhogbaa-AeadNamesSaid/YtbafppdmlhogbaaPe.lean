/- The program's eight and Nonce: contracts. Conditions: a number that is not below 0; an int. -/
import Derived.Test.YtbafppdmlhogbaaRno
namespace Go.Proofs.Ytbafppdmlhogbaa
set_option linter.unusedSimpArgs false
set_option linter.unusedVariables false
open Go.ChangeShapes Go.WideShapes Go.ChangeAt Go.RowKit


theorem zero8 : ∀ W : World, (zeroValue 53).run Try.prog W = .ok (.agg (vs .u8 (List.replicate 8 0))) W := fun _ => by kernel_rfl
theorem size8 : (Try.prog.info? 53).map (·.size) = some 8 := by kernel_rfl
theorem les8_get (x : Int) (i : Nat) (h : i < 8) : (les 8 x)[i]? = some (x / 2 ^ (8 * i) % 256) := by rw [les_get 8 x i h, pow8' i]
set_option maxHeartbeats 8000000 in
theorem eight_is (x : Int) (w : World) (hx : 0 ≤ x ∧ x ≤ 9223372036854775807) :
    Calls Try.prog 28 #[.int .i64 x] w fun e w' => e = .returned (.agg (vs .u8 (les 8 x))) ∧ Fr (fun _ => False) w w' := by
  obtain ⟨L, hL⟩ : ∃ L, L = les 8 x := ⟨_, rfl⟩
  have lL : Hid (L.length = 8) := by show _ = _; rw [hL, les_length]
  have hz : ∀ W : World, (zeroValue 53).run Try.prog W = .ok (.agg (vs .u8 (fil L 0 0))) W := fun W => by rw [fil_zero, lL.out]; exact zero8 W
  have HG : Hid (∀ i, i < 8 → L[i]? = some (x / 2 ^ (8 * i) % 256)) := by show ∀ _, _; rw [hL]; exact les8_get x
  have s1 : Hid ((Try.prog.info? 53).map (·.size) = some (vs .u8 L).size) := by show _ = _; rw [size8, vs_size, lL.out]
  have e0 : Hid ((vs .u8 (fil L 0 0)).size = (vs .u8 L).size) := by show _ = _; rw [vs_size, vs_size, fil_length L 0 0 (by have := lL.out; omega)]
  rw [← hL]
  clear hL
  have hx0 := hx.1
  clear hx
  go_enter Try.func28, Try.ntmps28
  go_upto_region 3 with (fail)
  generalize hW : (w.alloc (.cells (vs .u8 (fil L 0 0)) 53)).alloc (.cells (vs .u8 (fil L 0 0)) 53) = W0
  have HW := Lib.hid (calm2 hW)
  clear hW hz
  have R0 : Hid (Ar W0 w.heap.size 53 .u8 (fil L 0 0)) := HW.out.1
  have O0 : Hid (Ar W0 (w.heap.size + 1) 53 .u8 (fil L 0 0)) := HW.out.2.1
  have F0 : Hid (Fr (fun _ => False) w W0) := HW.out.2.2
  clear HW
  go_loopw [4, 5] (fun _ u5 wr => ∃ i : Nat, u5 = .int .i64 i ∧ i ≤ 8 ∧ Hid (Ar wr w.heap.size 53 .u8 (fil L 0 0)) ∧ Hid (Ar wr (w.heap.size + 1) 53 .u8 (fil L i 0)) ∧ Hid (Fr (fun _ => False) w wr)) (fun _ u5 _ => 8 - (intOf u5).toNat)
  case atStart => exact ⟨0, rfl, by omega, R0, O0, F0⟩
  case round =>
  clear R0 O0 F0
  obtain ⟨i, rfl, hi, hR, hO, hF⟩ := hrel
  by_cases hil : i < 8
  · have j3 : (i : Int) < 8 := by omega
    have j4 : IntKind.i64.wrap (8 * (i : Int)) = 8 * i := by rw [IntKind.wrap_i64]; omega
    have gx := HG.out i hil
    obtain ⟨y, hy⟩ : ∃ y : Int, x / 2 ^ (8 * i) % 256 = y := ⟨_, rfl⟩
    rw [hy] at gx
    have cO := hO.out.cell (fil_get L i 0 (by have := lL.out; omega))
    have fO := hO.out.frozen i
    have O2 := Lib.hid (hO.out.set i y)
    rw [fil_set L i 0 _ gx] at O2
    have t1 : ((i : Int)).toNat = i := by omega
    have t2 : 0 ≤ (i : Int) := by omega
    clear gx hO
    go_wp2
    go_roundw
    case rel => exact ⟨i + 1, by go_num, by omega, hR.out.far (by simp) _, O2, hF.out.setCell _ (.inr (by simp))⟩
    case measure => simp [intOf]; omega
  obtain rfl : i = 8 := by omega
  have O9 : Hid (Ar wr (w.heap.size + 1) 53 .u8 L) := by
    have h := hO.out
    have e := fil_all L (0 : Int)
    rw [lL.out] at e
    rwa [e] at h
  clear hO
  go_wp2_with (first
    | refine wpList_load_row rfl 53 (.tmp 3) rfl (w.heap.size + 1) rfl 53 (vs .u8 L) (0, 0) _ O9.out Try.underlying53 rfl s1.out ?_
    | refine wpList_store_row rfl 53 (.tmp 2) (.tmp 16) rfl (w.heap.size) (vs .u8 L) rfl rfl 53 _ hR.out s1.out e0.out (vs_all _ _) ?_)
  refine bodyPost_ret (results_cell_row Try.results28 _ _ _ 53 _ (0, 0) _ rfl (setRow_heap _ _ _ _ _ _ hR.out) Try.underlying53 rfl s1.out) rfl ⟨rfl, hF.out.setRow _ (.inr (Nat.le_refl _))⟩
end Go.Proofs.Ytbafppdmlhogbaa

/- The program's Nonce: contract. Condition: the number is an int. -/
namespace Go.Proofs.Ytbafppdmlhogbaa
set_option linter.unusedSimpArgs false
set_option linter.unusedVariables false
open Go.ChangeShapes Go.WideShapes Go.ChangeAt Go.RowKit


set_option maxRecDepth 100000 in
set_option maxHeartbeats 8000000 in
theorem nonce_is (x : Int) (w : World) (hx : -9223372036854775808 ≤ x ∧ x ≤ 9223372036854775807) :
    Calls Try.prog 13 #[.int .i64 x] w fun e w' => e = .returned (.tuple #[.agg (vs .u8 (noncev x).1), .int .i64 (noncev x).2]) ∧ Fr (fun _ => False) w w' := by
  obtain ⟨Z, hZ⟩ : ∃ Z, Z = List.replicate 12 (0 : Int) := ⟨_, rfl⟩
  obtain ⟨Z8, hZ8⟩ : ∃ Z, Z = List.replicate 8 (0 : Int) := ⟨_, rfl⟩
  have lZ : Hid (Z.length = 12) := by show _ = _; rw [hZ]; rfl
  have hz : ∀ W : World, (zeroValue 22).run Try.prog W = .ok (.agg (vs .u8 Z)) W := fun W => by rw [hZ]; exact zero12 W
  have hz8 : ∀ W : World, (zeroValue 53).run Try.prog W = .ok (.agg (vs .u8 Z8)) W := fun W => by rw [hZ8]; exact zero8 W
  have s0 : Hid ((Try.prog.info? 22).map (·.size) = some (vs .u8 Z).size) := by show _ = _; rw [size29, vs_size, lZ.out]
  by_cases hin : 0 ≤ x ∧ x ≤ 9007199254740991
  · obtain ⟨L, hL⟩ : ∃ L, L = les 8 x := ⟨_, rfl⟩
    have lL : Hid (L.length = 8) := by show _ = _; rw [hL, les_length]
    have HE : ∀ W, Calls Try.prog 28 #[.int .i64 x] W fun e w' => e = .returned (.agg (vs .u8 L)) ∧ Fr (fun _ => False) W w' := fun W => by rw [hL]; exact eight_is x W (by omega)
    obtain ⟨M, hM⟩ : ∃ M, M = nonce x := ⟨_, rfl⟩
    have HM : Hid (M = Z.take 4 ++ L) := by show _ = _; rw [hM, hZ, hL]; rfl
    have lM : Hid (M.length = 12) := by show _ = _; rw [hM, nonce_length]
    rw [noncev, if_pos hin, ← hM]
    have s1 : Hid ((Try.prog.info? 22).map (·.size) = some (vs .u8 M).size) := by show _ = _; rw [size29, vs_size, lM.out]
    have s8 : Hid ((Try.prog.info? 53).map (·.size) = some (vs .u8 L).size) := by show _ = _; rw [size8, vs_size, lL.out]
    have e8 : Hid ((vs .u8 Z8).size = (vs .u8 L).size) := by show _ = _; rw [vs_size, vs_size, hZ8, lL.out]; rfl
    have j1 : ¬ x < 0 := by omega
    have j2 : ¬ 9007199254740991 < x := by omega
    clear hin hx hL hM hZ hZ8
    go_enter Try.func13, Try.ntmps13
    go_upto_region 3 with (fail)
    generalize hW : w.alloc (.cells (vs .u8 Z) 22) = W0
    have HW := Lib.hid (calm1a hW)
    clear hW hz
    have R0 : Hid (Ar W0 w.heap.size 22 .u8 Z) := HW.out.1
    have F0 : Hid (Fr (fun _ => False) w W0) := HW.out.2
    clear HW
    go_upto_region 4 with (first
      | (go_at_call 28; refine (HE _).mono ?_; rintro e w3 ⟨rfl, hf⟩; have F3 := Lib.hid hf; clear hf)
      | refine wpList_store_row rfl 53 (.tmp 4) (.tmp 13) rfl w3.heap.size (vs .u8 L) rfl rfl 53 (vs .u8 Z8) (heap_alloc_new w3 (.cells (vs .u8 Z8) 53)) s8.out e8.out (vs_all _ _) ?_)
    obtain ⟨bq, hbq⟩ : ∃ q, q = w3.heap.size := ⟨_, rfl⟩
    have FQ : Fr (fun _ => False) w3 ((w3.alloc (.cells (vs .u8 Z8) 53)).setRow w3.heap.size (vs .u8 L)) := ((Fr.refl _ w3).alloc _).setRow _ (.inr (Nat.le_refl _))
    have B3 : Hid (Ar ((w3.alloc (.cells (vs .u8 Z8) 53)).setRow w3.heap.size (vs .u8 L)) bq 53 .u8 L) := by rw [hbq]; exact (Ar.new w3 53 .u8 Z8).row L
    have R3 := Lib.hid ((Ar.fr (w := W0) (t := 22) (k := .u8) (l := Z) R0.out F3.out (fun x => x)).fr FQ (fun x => x))
    have G3 := Lib.hid ((F0.out.trans F3.out).trans FQ)
    rw [← hbq] at B3 R3 G3 ⊢
    generalize (w3.alloc (.cells (vs .u8 Z8) 53)).setRow bq (vs .u8 L) = W4 at *
    clear FQ hbq R0 F0 F3
    try simp only [Act.put, List.setIfInBounds_toArray, List.set_cons_succ, List.set_cons_zero]
    refine wp_region_quiet_tail (C := Calm W4) 2 (by kernel_rfl) (by kernel_rfl) (Calm.start _ _ (Fr.refl _ _)) ?_
    simp only [List.take_succ_cons, List.take_zero, List.drop_succ_cons, List.drop_zero]
    refine BigFrame.wpQuiet_want rfl fun K hK => ?_
    try simp only [Act.put, List.setIfInBounds_toArray, List.set_cons_succ, List.set_cons_zero]
    go_big_quiet_op
    first
      | refine ⟨_, fun _ _ => rfl, hK _ ?_⟩
      | refine hK _ ?_
    refine BigFrame.wpQuiet_want rfl fun K hK => ?_
    try simp only [Act.put, List.setIfInBounds_toArray, List.set_cons_succ, List.set_cons_zero]
    go_big_quiet_op
    first
      | refine ⟨_, fun _ _ => rfl, hK _ ?_⟩
      | refine hK _ ?_
    refine wpQuiet_nil ?_
    intro w9 hw9
    have F9 : Hid (Fr (fun _ => False) w w9) := G3.out.trans hw9
    have G9 := Lib.hid hw9
    clear hw9
    try simp only [Act.put, List.setIfInBounds_toArray, List.set_cons_succ, List.set_cons_zero]
    have R9 := Lib.hid (Ar.fr R3.out G9.out (fun x => x))
    have B9 := Lib.hid (Ar.fr B3.out G9.out (fun x => x))
    refine wpList_plain rfl fun K' hK' => wp_value (.int .i64 (L.length : Int)) _ (run_op_copy (.tmp 14) (.tmp 15) rfl w9 w.heap.size 4 8 8 rfl ⟨bq, 0, none⟩ 8 8 rfl (vs .u8 Z) 22 L R9.out (by rw [lL.out]; rfl) (fun j b hj => ?_) (by rw [lL.out, vs_size, lZ.out]; exact Nat.le_refl 12)) (hK' _ _ ?_)
    · have h := B9.out.cell hj
      rwa [Addr_add_none, Nat.zero_add]
    have eO : ((vs .u8 Z).toList.take 4 ++ bs L ++ (vs .u8 Z).toList.drop (4 + (bs L).length)).toArray = vs .u8 M := by
      rw [HM.out, List.drop_of_length_le (by simp [vs, lZ.out, bs, lL.out]), List.append_nil]
      simp [vs, bs, List.map_take]
    rw [eO]
    have AO : Hid (Ar (w9.setRow w.heap.size (vs .u8 M)) w.heap.size 22 .u8 M) := R9.out.row M
    have F6 : Hid (Fr (fun _ => False) w (w9.setRow w.heap.size (vs .u8 M))) := F9.out.setRow _ (.inr (Nat.le_refl _))
    generalize w9.setRow w.heap.size (vs .u8 M) = W6 at *
    clear eO R9 B9 R3 B3 F9 G9 G3 HM
    try simp only [Act.put, List.setIfInBounds_toArray, List.set_cons_succ, List.set_cons_zero]
    go_wp2_with (first
      | refine wpList_load_row rfl 22 (.tmp 2) rfl (w.heap.size) rfl 22 (vs .u8 M) (0, 0) _ AO.out Try.underlying22 rfl s1.out ?_
      | refine wpList_store_row rfl 22 (.tmp 2) (.tmp 17) rfl (w.heap.size) (vs .u8 M) rfl rfl 22 _ AO.out s1.out rfl (vs_all _ _) ?_)
    refine bodyPost_ret (v := .tuple #[.agg (vs .u8 M), .int .i64 0]) (results_row_int Try.results13 _ _ _ 22 _ (0, 0) _ _ rfl (setRow_heap _ _ _ _ _ _ AO.out) Try.underlying22 rfl s1.out rfl) rfl ⟨rfl, F6.out.setRow _ (.inr (Nat.le_refl _))⟩
  · rw [noncev, if_neg hin, ← hZ]
    have hcase : x < 0 ∨ (¬ x < 0 ∧ 9007199254740991 < x) := by omega
    clear hin hx hZ hz8 hZ8
    rcases hcase with j1 | ⟨j1, j2⟩
    all_goals
      go_enter Try.func13, Try.ntmps13
      go_upto_region 2 with (fail)
      generalize hW : w.alloc (.cells (vs .u8 Z) 22) = W0
      have HW := Lib.hid (calm1a hW)
      clear hW hz
      have R0 : Hid (Ar W0 w.heap.size 22 .u8 Z) := HW.out.1
      have F0 : Hid (Fr (fun _ => False) w W0) := HW.out.2
      clear HW
      go_wp2_with (first
        | refine wpList_load_row rfl 22 (.tmp 2) rfl (w.heap.size) rfl 22 (vs .u8 Z) (0, 0) _ R0.out Try.underlying22 rfl s0.out ?_
        | refine wpList_store_row rfl 22 (.tmp 2) (.tmp 11) rfl (w.heap.size) (vs .u8 Z) rfl rfl 22 _ R0.out s0.out rfl (vs_all _ _) ?_)
      refine bodyPost_ret (v := .tuple #[.agg (vs .u8 Z), .int .i64 9]) (results_row_int Try.results13 _ _ _ 22 _ (0, 0) _ _ rfl (setRow_heap _ _ _ _ _ _ R0.out) Try.underlying22 rfl s0.out rfl) rfl ⟨rfl, F0.out.setRow _ (.inr (Nat.le_refl _))⟩
end Go.Proofs.Ytbafppdmlhogbaa
