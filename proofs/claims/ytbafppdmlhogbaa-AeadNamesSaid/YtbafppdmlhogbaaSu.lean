/- Poly's rest and Sum: contracts. Conditions: a poly that New made. -/
import Derived.Test.YtbafppdmlhogbaaNw
namespace Go.Proofs.Ytbafppdmlhogbaa
set_option linter.unusedSimpArgs false
set_option linter.unusedVariables false
open Go.RowKit

theorem pow256 {a b : Nat} (h : a ≤ b) : (256 : Int) ^ a ≤ 256 ^ b := by
  obtain ⟨d, rfl⟩ := Nat.exists_eq_add_of_le h
  rw [Int.pow_add]
  have h1 : (0 : Int) < 256 ^ a := Int.pow_pos (by decide)
  have h2 : (0 : Int) < 256 ^ d := Int.pow_pos (by decide)
  have := Int.mul_le_mul_of_nonneg_left (show (1 : Int) ≤ 256 ^ d by omega) (Int.le_of_lt h1)
  omega
theorem run_slice_high {o : Oper} {a : Act} (x y : Operand) (ho : o.op = .slice 38 x none (some y) none) (g off c : Nat) (hx : a.eval x = .pointer (some ⟨g, off, none⟩)) (hy : a.eval y = .int .i64 (c : Int)) (hc : c ≤ 16) (W : World) :
    (execOp a.eval o).run Try.prog W = .ok (.value (.slice (some ⟨g, off, none⟩) c 16)) W := by
  have e1 : (Try.prog.arrayLen 38) = 16 := by kernel_rfl
  have e2 : Try.prog.elem 38 = 5 := by kernel_rfl
  have e3 : Try.prog.underlying 38 = some (.array (Try.prog.arrayLen 38) (Try.prog.elem 38)) := by kernel_rfl
  have h := run_sliceAt_array_h (P := Try.prog) (w := W) (t := 38) (a := ⟨g, off, none⟩) e3 .i64 (c : Int) (by omega) (by rw [e1]; omega)
  unfold execOp
  simp only [ho, hx, hy, Option.map_some, Option.map_none, Sem.run_bind, h]
  cases hq : Try.prog.info? 5 with
  | none => have := size5; simp [hq] at this
  | some i =>
    have hi : i.size = 1 := by have := size5; simpa [hq] using this
    simp [sizeOf, typeInfo, e2, slicedAt, e1, Addr.add, hq, hi]

set_option maxRecDepth 100000 in
set_option maxHeartbeats 8000000 in
theorem rest_is (r0 r1 r2 h0 h1 h2 s0 s1 : Int) (W : List Int) (c g : Nat) (w : World) (hp : Pb w g r0 r1 r2 h0 h1 h2 s0 s1 W c) (hc0 : 0 < c) (hc : c < 16) (hW : Bys W) :
    Calls Try.prog 39 #[.pointer (some ⟨g, 0, none⟩)] w fun e w' => e = .returned (.agg (vs .u64 (num (vl (W.take c ++ [1]))))) ∧ Fr (fun _ => False) w w' := by
  have lW := hp.1
  obtain ⟨X, hX⟩ : ∃ X, X = W.take c := ⟨_, rfl⟩
  have lX : X.length = c := by rw [hX, List.length_take]; omega
  obtain ⟨Y, hY⟩ : ∃ Y, Y = X ++ [1] ++ List.replicate (15 - c) 0 := ⟨_, rfl⟩
  have lY : Y.length = 16 := by rw [hY]; simp [lX]; omega
  have hYX : (X ++ List.replicate (16 - c) 0).set c 1 = Y := by
    rw [hY, List.set_append_right _ _ (by omega), lX, Nat.sub_self, show 16 - c = (15 - c) + 1 by omega, List.replicate_succ, List.set_cons_zero]
    simp
  have C30 : ∀ V, Calls Try.prog 35 #[.agg (vs .u8 Y)] V fun e w' => e = .returned (.agg (vs .u64 (num (vl (W.take c ++ [1]))))) ∧ Fr (fun _ => False) V w' := fun V => by
    have h := numberOf_is Y V lY (by
      rw [hY, hX]
      refine Bys.append (Bys.append (hW.take c) ?_) ?_
      · intro b hb
        simp at hb
        omega
      · intro b hb
        rw [List.eq_of_mem_replicate hb]
        omega)
    rw [hY, vl_pad, hX] at h
    rw [hY, hX]
    exact h
  obtain ⟨n0, n1, n2, hnum⟩ : ∃ a b d, num (vl (W.take c ++ [1])) = [a, b, d] := ⟨_, _, _, rfl⟩
  rw [hnum] at C30 ⊢
  have HP := Lib.hid hp
  have HX := Lib.hid (And.intro lX hX)
  have sY : Hid ((Try.prog.info? 38).map (·.size) = some (vs .u8 Y).size) := by show _ = _; rw [vs_size, lY]; exact info26
  have HYX := Lib.hid hYX
  have hXs : Hid (∀ j b, X[j]? = some b → w.cell? ⟨g, 9 + j, none⟩ = some (.int .u8 b)) := by
    show ∀ _ _, _
    intro j b hj
    rw [hX, List.getElem?_take] at hj
    split at hj
    · exact hp.waitCell hj
    · cases hj
  have hz : ∀ W : World, (zeroValue 62).run Try.prog W = .ok (.agg (vs .u64 [0, 0, 0])) W := zero46
  obtain ⟨Z, hZ⟩ : ∃ Z, Z = List.replicate 16 (0 : Int) := ⟨_, rfl⟩
  have HZ := Lib.hid hZ
  have hz2 : ∀ W : World, (zeroValue 38).run Try.prog W = .ok (.agg (vs .u8 Z)) W := fun W => by rw [hZ]; exact zero26 W
  clear hp hW lW hX lX hY lY hYX hnum hZ
  go_enter Try.func39, Try.ntmps39
  go_upto_region 2 with (fail)
  generalize hW0 : (w.alloc (.cells (vs .u64 [0, 0, 0]) 62)).alloc (.cells (vs .u8 Z) 38) = W0
  have HW := Lib.hid (calm2 hW0)
  have X0 : Hid (Ar W0 w.heap.size 62 .u64 [0, 0, 0]) := HW.out.1
  have X1 : Hid (Ar W0 (w.heap.size + 1) 38 .u8 Z) := HW.out.2.1
  have F0 : Hid (Fr (fun _ => False) w W0) := HW.out.2.2
  have P0 := Lib.hid (HP.out.fr F0.out (fun x => x))
  clear hW0 HW hz hz2
  refine wp_region_quiet_tail (C := Calm W0) 9 (by kernel_rfl) (by kernel_rfl) (Calm.start _ _ (Fr.refl _ _)) ?_
  simp only [List.take_succ_cons, List.take_zero, List.drop_succ_cons, List.drop_zero]
  refine BigFrame.wpQuiet_want rfl fun K hK => ?_
  try simp only [Act.put, List.setIfInBounds_toArray, List.set_cons_succ, List.set_cons_zero]
  go_big_quiet_op
  first
    | refine ⟨_, fun _ _ => rfl, hK _ ?_⟩
    | refine hK _ ?_
  refine BigFrame.wpQuiet_want rfl fun K hK => ?_
  try simp only [Act.put, List.setIfInBounds_toArray, List.set_cons_succ, List.set_cons_zero]
  go_big_quiet_op
  refine hK _ ?_
  refine BigFrame.wpQuiet_want rfl fun K hK => ?_
  try simp only [Act.put, List.setIfInBounds_toArray, List.set_cons_succ, List.set_cons_zero]
  go_big_quiet_op
  first
    | refine ⟨_, fun _ _ => rfl, hK _ ?_⟩
    | refine hK _ ?_
  refine BigFrame.wpQuiet_want rfl fun K hK => ?_
  try simp only [Act.put, List.setIfInBounds_toArray, List.set_cons_succ, List.set_cons_zero]
  go_big_quiet_op
  first
    | refine ⟨_, fun _ _ => rfl, hK _ ?_⟩
    | refine hK _ ?_
  refine BigFrame.wpQuiet_want rfl fun K hK => ?_
  try simp only [Act.put, List.setIfInBounds_toArray, List.set_cons_succ, List.set_cons_zero]
  go_big_quiet_op
  refine hK _ ?_
  refine BigFrame.wpQuiet_want rfl fun K hK => ?_
  try simp only [Act.put, List.setIfInBounds_toArray, List.set_cons_succ, List.set_cons_zero]
  go_big_quiet_op
  first
    | refine ⟨_, fun _ _ => rfl, hK _ ?_⟩
    | refine hK _ ?_
  refine BigFrame.wpQuiet_want rfl fun K hK => ?_
  try simp only [Act.put, List.setIfInBounds_toArray, List.set_cons_succ, List.set_cons_zero]
  go_big_quiet_op
  first
    | refine ⟨_, fun _ _ => rfl, hK _ ?_⟩
    | refine hK _ ?_
  refine BigFrame.wpQuiet_want rfl fun K hK => quiet_oneP 3 .i64 (.tmp 10) rfl (g) (25) rfl ((c : Int)) Try.underlying3 (fun _ h => (Pb.fr P0.out h (fun x => x)).count) (hK _ ?_)
  refine BigFrame.wpQuiet_want rfl fun K hK => quiet_run _ (fun W _ => run_slice_high (.tmp 7) (.tmp 11) rfl g 9 c rfl rfl (by omega) W) (hK _ ?_)
  refine wpQuiet_nil ?_
  intro w9 hw9
  have F9 : Hid (Fr (fun _ => False) w w9) := F0.out.trans hw9
  have G9 := Lib.hid hw9
  clear hw9
  try simp only [Act.put, List.setIfInBounds_toArray, List.set_cons_succ, List.set_cons_zero]
  replace X0 := Lib.hid (Ar.fr X0.out G9.out (fun x => x))
  replace X1 := Lib.hid (Ar.fr X1.out G9.out (fun x => x))
  refine wpList_plain rfl fun K hK => wp_value (.int .i64 (X.length : Int)) _ (run_op_copy (.tmp 4) (.tmp 12) rfl w9 (w.heap.size + 1) 0 16 16 rfl ⟨g, 9, none⟩ c 16 rfl _ 38 X X1.out ?_ ?_ ?_) (hK _ _ ?_)
  · rw [HX.out.1]
    exact (Nat.min_eq_left (by omega)).symm
  · intro j b hj
    rw [Addr_add_none]
    exact (World.cell?_of_block (F9.out.block g HP.out.lt (fun x => x))).trans (hXs.out j b hj)
  · rw [vs_size, HX.out.1, HZ.out]
    simp
    omega
  have X2 : Hid (Ar (w9.setRow (w.heap.size + 1) ((vs .u8 Z).toList.take 0 ++ bs X ++ (vs .u8 Z).toList.drop (0 + (bs X).length)).toArray) (w.heap.size + 1) 38 .u8 (X ++ List.replicate (16 - c) 0)) := by
    have h := setRow_heap w9 (w.heap.size + 1) _ ((vs .u8 Z).toList.take 0 ++ bs X ++ (vs .u8 Z).toList.drop (0 + (bs X).length)).toArray _ _ X1.out
    refine h.trans ?_
    rw [vs_bs, bs_length, HX.out.1, HZ.out]
    simp [bs, vs, -List.reduceReplicate]
  have Y2 := Lib.hid (X0.out.rowFar (g' := w.heap.size + 1) (by omega) ((vs .u8 Z).toList.take 0 ++ bs X ++ (vs .u8 Z).toList.drop (0 + (bs X).length)).toArray)
  have F2 := Lib.hid (F9.out.setRow (g := w.heap.size + 1) ((vs .u8 Z).toList.take 0 ++ bs X ++ (vs .u8 Z).toList.drop (0 + (bs X).length)).toArray (.inr (by omega)))
  have P2 := Lib.hid (HP.out.fr F2.out (fun x => x))
  clear X0 X1 F9 G9 P0 F0 hXs
  generalize w9.setRow (w.heap.size + 1) _ = W2 at *
  try simp only [Act.put, List.setIfInBounds_toArray, List.set_cons_succ, List.set_cons_zero]
  have kc := P2.out.count
  have kq := X2.out.cell (i := c) (x := 0) (by
    rw [List.getElem?_append_right (by rw [HX.out.1]; omega), HX.out.1, Nat.sub_self, List.getElem?_replicate, if_pos (by omega)])
  have fq := X2.out.frozen c
  have j1 : ((c : Int)).toNat = c := by omega
  have j2 : 0 ≤ (c : Int) := by omega
  have j3 : (c : Int) < 16 := by omega
  go_upto_region 4 with (fail)
  have X3 : Hid (Ar (W2.setCell ⟨w.heap.size + 1, c, none⟩ (.int .u8 1)) (w.heap.size + 1) 38 .u8 Y) := by
    have h := X2.out.set c 1
    rw [HYX.out] at h
    exact h
  have Y3 : Hid (Ar (W2.setCell ⟨w.heap.size + 1, c, none⟩ (.int .u8 1)) w.heap.size 62 .u64 [0, 0, 0]) := Y2.out.far (by simp) _
  have F3 : Hid (Fr (fun _ => False) w (W2.setCell ⟨w.heap.size + 1, c, none⟩ (.int .u8 1))) := F2.out.setCell _ (.inr (by simp))
  clear kc kq fq j1 j2 j3 X2 Y2 F2 P2
  generalize W2.setCell ⟨w.heap.size + 1, c, none⟩ (.int .u8 1) = W3 at *
  go_wp2_with (first
    | (go_at_call 35; refine (C30 _).mono ?_; rintro e v1 ⟨rfl, hf⟩)
    | refine wpList_load_row rfl 38 (.tmp 3) rfl (w.heap.size + 1) rfl 38 (vs .u8 Y) (0, 0) _ X3.out Try.underlying38 rfl sY.out ?_
    | refine wpList_store_row rfl 62 (.tmp 2) (.tmp 20) rfl (w.heap.size) (vs .u64 [n0, n1, n2]) rfl rfl 62 (vs .u64 [0, 0, 0]) (Ar.fr Y3.out hf (fun x => x)) (by rw [info46]; rfl) rfl (vs_all _ _) ?_)
  refine bodyPost_ret (results_cell_row Try.results39 _ _ _ 62 _ (0, 0) _ rfl (setRow_heap _ _ _ _ _ _ (Ar.fr Y3.out hf (fun x => x))) Try.underlying62 rfl (by rw [info46]; rfl)) rfl ⟨rfl, (F3.out.trans hf).setRow _ (.inr (by omega))⟩

set_option maxRecDepth 100000 in
set_option maxHeartbeats 8000000 in
theorem sum_is (k D : List Int) (g : Nat) (w : World) (hk : k.length = 32) (hb : Bys k) (hp : PolyAt w g k D) :
    Calls Try.prog 26 #[.pointer (some ⟨g, 0, none⟩)] w fun e w' => e = .returned (.agg (vs .u8 (tag k D))) ∧ Fr (fun _ => False) w w' := by
  obtain ⟨h0, h1, h2, W, A, B, hD, hA, hB, hIn, hnv, hW, hWB, hPb⟩ := hp
  obtain ⟨c, hc⟩ : ∃ c, c = B.length := ⟨_, rfl⟩
  rw [← hc] at hB hPb hWB
  have hrb := rr_bd hk hb
  -- the sum, as it stands behind the rest
  have hM : ∃ m0 m1 m2, In m0 m1 m2 ∧ nv m0 m1 m2 % pp = hsh (rr k) D ∧ (c = 0 → m0 = h0 ∧ m1 = h1 ∧ m2 = h2) ∧ (0 < c → ∃ b0 b1 b2, num (vl (W.take c ++ [1])) = [b0, b1, b2] ∧ ∀ V : World, Calls Try.prog 38 #[.agg (vs .u64 [h0, h1, h2]), .agg (vs .u64 [b0, b1, b2]), .agg (vs .u64 [R0 k, R1 k, R2 k])] V fun e w' => e = .returned (.agg (vs .u64 [m0, m1, m2])) ∧ Fr (fun _ => False) V w') := by
    rcases Nat.eq_zero_or_pos c with h | h
    · have : B = [] := List.eq_nil_of_length_eq_zero (by omega)
      subst this
      exact ⟨h0, h1, h2, hIn, by rw [hnv, hD, List.append_nil], fun _ => ⟨rfl, rfl, rfl⟩, fun e => by omega⟩
    · have bv := vl_bd (W.take c ++ [1]) (Bys.append (hW.take c) (by intro b hb; simp at hb; omega))
      have lb : (W.take c ++ [1]).length = c + 1 := by rw [List.length_append, hWB, ← hc]; rfl
      have bv2 : vl (W.take c ++ [1]) < 340282366920938463463374607431768211456 := by
        refine Int.lt_of_lt_of_le bv.2 ?_
        rw [lb]
        have : (256 : Int) ^ (c + 1) ≤ 256 ^ 16 := pow256 (by omega)
        simpa using this
      obtain ⟨b0, b1, b2, hnum, e0, e1, e2⟩ : ∃ a b d, num (vl (W.take c ++ [1])) = [a, b, d] ∧ vl (W.take c ++ [1]) % 17592186044416 = a ∧ vl (W.take c ++ [1]) / 17592186044416 % 17592186044416 = b ∧ vl (W.take c ++ [1]) / 309485009821345068724781056 = d := ⟨_, _, _, rfl, rfl, rfl, rfl⟩
      obtain ⟨m0, m1, m2, hmI, hmV, C33⟩ := taken_ex h0 h1 h2 b0 b1 b2 (R0 k) (R1 k) (R2 k) hIn (by omega) (by omega) (by omega) (by unfold R0; omega) (by unfold R1; omega) (by unfold R2; omega)
      refine ⟨m0, m1, m2, hmI, ?_, fun e => by omega, fun _ => ⟨b0, b1, b2, hnum, C33⟩⟩
      have e3 : nv (R0 k) (R1 k) (R2 k) = rr k := nv_num (rr k)
      have e4 : nv (h0 + b0) (h1 + b1) (h2 + b2) = nv h0 h1 h2 + vl (W.take c ++ [1]) := by
        have := nv_num (vl (W.take c ++ [1]))
        rw [e0, e1, e2] at this
        rw [← this]
        unfold nv
        omega
      rw [hmV, hD, hsh_block (rr k) A B hA (by omega) (by omega), ← hnv, add_emod, e3, e4, hWB]
  obtain ⟨m0, m1, m2, hmI, hmV, hm0, hm1⟩ := hM
  obtain ⟨v, hv⟩ : ∃ v, v = hsh (rr k) D := ⟨_, rfl⟩
  have bv := hsh_bd (rr k) D
  rw [← hv] at bv hmV
  have C35 : ∀ V : World, Calls Try.prog 40 #[.agg (vs .u64 [m0, m1, m2])] V fun e w' => e = .returned (.agg (vs .u64 (num v))) ∧ Fr (fun _ => False) V w' := fun V => by
    have h := least_is m0 m1 m2 _ V hmI rfl
    rwa [hmV] at h
  have hbd := hb.drop 16
  have b8 := vl_bd _ (hbd.take 8)
  have b9 := vl_bd _ (hbd.drop 8)
  rw [List.length_take, List.length_drop, hk] at b8
  rw [List.length_drop, List.length_drop, hk] at b9
  have C36 : ∀ V : World, Calls Try.prog 41 #[.agg (vs .u64 (num v)), .agg (vs .u64 [S0 k, S1 k])] V fun e w' => e = .returned (.agg (vs .u8 (tag k D))) ∧ Fr (fun _ => False) V w' := fun V => by
    have h := plusTag_is v (S0 k) (S1 k) V bv.1 (by have := bv.2; unfold pp at this; omega) ⟨b8.1, by have := b8.2; show vl ((k.drop 16).take 8) < _; simpa using this⟩ ⟨b9.1, by have := b9.2; show vl ((k.drop 16).drop 8) < _; simpa using this⟩
    have e : v + S0 k + 18446744073709551616 * S1 k = hsh (rr k) D + vl (k.drop 16) := by
      rw [hv, vl_split (k.drop 16) 8 (by rw [List.length_drop]; omega)]
      unfold S0 S1
      rw [Int.add_assoc]
      rfl
    rw [e] at h
    exact h
  obtain ⟨t, ht⟩ : ∃ t, t = tag k D := ⟨_, rfl⟩
  have lt : t.length = 16 := by rw [ht]; exact tag_length k D
  rw [← ht] at C36 ⊢
  obtain ⟨x0, x1, x2, hx⟩ : ∃ a b d, num v = [a, b, d] := ⟨_, _, _, rfl⟩
  rw [hx] at C35 C36
  have HP := Lib.hid hPb
  have HW := Lib.hid hW
  have k0 := hPb.made
  have s26 : Hid ((Try.prog.info? 38).map (·.size) = some (vs .u8 t).size) := by show _ = _; rw [vs_size, lt]; exact info26
  have eL : Hid ((vs .u8 (List.replicate 16 (0 : Int))).size = (vs .u8 t).size) := by show _ = _; rw [vs_size, vs_size, lt]; rfl
  have hz : ∀ W : World, (zeroValue 62).run Try.prog W = .ok (.agg (vs .u64 [0, 0, 0])) W := zero46
  obtain ⟨Z, hZ⟩ : ∃ Z, Z = List.replicate 16 (0 : Int) := ⟨_, rfl⟩
  have HZ := Lib.hid hZ
  have hz2 : ∀ W : World, (zeroValue 38).run Try.prog W = .ok (.agg (vs .u8 Z)) W := fun W => by rw [hZ]; exact zero26 W
  rw [← hZ] at eL
  have HM1 := Lib.hid hm1
  have HM0 := Lib.hid hm0
  clear hZ hk hb hD hA hIn hnv hW hWB hPb hc hrb hmI hmV hv bv hbd b8 b9 ht lt hx hm1 hm0
  go_enter Try.func26, Try.ntmps26
  go_upto_region 1 with (fail)
  have X0 : Hid (Ar (w.alloc (.cells (vs .u8 Z) 38)) w.heap.size 38 .u8 Z) := Ar.new w 38 .u8 _
  have F0 : Hid (Fr (fun _ => False) w (w.alloc (.cells (vs .u8 Z) 38))) := (Fr.refl _ _).alloc _
  clear k0
  generalize w.alloc (.cells (vs .u8 Z) 38) = W0 at *
  have P0 := Lib.hid (HP.out.fr F0.out (fun x => x))
  have k0 := P0.out.made
  go_upto_region 3 with (fail)
  clear k0
  go_upto_region 4 with (first
    | refine wpList_midP rfl 62 (.tmp 16) rfl g 4 rfl .u64 [h0, h1, h2] _ P0.out.sum Try.underlying62 rfl (by rw [info46]; rfl) ?_
    | refine wpList_store_row rfl 62 (.tmp 3) (.tmp 17) rfl W0.heap.size (vs .u64 [h0, h1, h2]) rfl rfl 62 (vs .u64 [0, 0, 0]) (heap_alloc_new W0 (.cells (vs .u64 [0, 0, 0]) 62)) (by rw [info46]; rfl) rfl (vs_all _ _) ?_)
  obtain ⟨q, hq⟩ : ∃ q, q = W0.heap.size := ⟨_, rfl⟩
  have hq0 : w.heap.size < q := by rw [hq]; exact X0.out.lt
  have Q1 : Hid (Ar ((W0.alloc (.cells (vs .u64 [0, 0, 0]) 62)).setRow W0.heap.size (vs .u64 [h0, h1, h2])) q 62 .u64 [h0, h1, h2]) := by rw [hq]; exact (Ar.new W0 62 .u64 [0, 0, 0]).row [h0, h1, h2]
  have hff : Fr (fun _ => False) W0 ((W0.alloc (.cells (vs .u64 [0, 0, 0]) 62)).setRow W0.heap.size (vs .u64 [h0, h1, h2])) := ((Fr.refl _ _).alloc _).setRow _ (.inr (Nat.le_refl _))
  replace P0 := Lib.hid (P0.out.fr hff (fun x => x))
  replace X0 := Lib.hid (Ar.fr X0.out hff (fun x => x))
  replace F0 := Lib.hid (F0.out.trans hff)
  rw [← hq] at Q1 P0 X0 F0 ⊢
  clear hff hq hz hz2
  generalize (W0.alloc (.cells (vs .u64 [0, 0, 0]) 62)).setRow q (vs .u64 [h0, h1, h2]) = W1 at *
  try simp only [Act.put, List.setIfInBounds_toArray, List.set_cons_succ, List.set_cons_zero]
  have kc := P0.out.count
  rcases Nat.eq_zero_or_pos c with hc0 | hc0
  · obtain ⟨e0, e1, e2⟩ := HM0.out hc0
    rw [e0, e1, e2] at C35
    clear e0 e1 e2
    subst hc0
    go_upto_region 6 with (fail)
    clear kc
    refine wp_region_quiet_tail (C := Calm W1) 7 (by kernel_rfl) (by kernel_rfl) (Calm.start _ _ (Fr.refl _ _)) ?_
    simp only [List.take_succ_cons, List.take_zero, List.drop_succ_cons, List.drop_zero]
    refine BigFrame.wpQuiet_want rfl fun K hK => quiet_load 62 (.tmp 3) rfl (q) rfl 62 _ (0, 0) _ (fun _ h => Calm.at Q1.out h) Try.underlying62 rfl (by rw [info46]; rfl) (hK _ ?_)
    refine BigFrame.wpQuiet_want rfl fun K hK => ?_
    try simp only [Act.put, List.setIfInBounds_toArray, List.set_cons_succ, List.set_cons_zero]
    go_big_quiet_op
    refine ⟨_, Calm.calls C35, hK _ ?_⟩
    refine BigFrame.wpQuiet_want rfl fun K hK => ?_
    try simp only [Act.put, List.setIfInBounds_toArray, List.set_cons_succ, List.set_cons_zero]
    go_big_quiet_op
    refine hK _ ?_
    refine BigFrame.wpQuiet_want rfl fun K hK => ?_
    try simp only [Act.put, List.setIfInBounds_toArray, List.set_cons_succ, List.set_cons_zero]
    go_big_quiet_op
    first
      | refine ⟨_, fun _ _ => rfl, hK _ ?_⟩
      | refine hK _ ?_
    refine BigFrame.wpQuiet_want rfl fun K hK => ?_
    try simp only [Act.put, List.setIfInBounds_toArray, List.set_cons_succ, List.set_cons_zero]
    go_big_quiet_op
    first
      | refine ⟨_, fun _ _ => rfl, hK _ ?_⟩
      | refine hK _ ?_
    refine BigFrame.wpQuiet_want rfl fun K hK => quiet_midP 65 _ (.tmp 35) rfl (g) 7 rfl .u64 ([S0 k, S1 k]) Try.underlying65 rfl (by rw [info47]; rfl) (fun _ h => (Pb.fr P0.out h (fun x => x)).s) (hK _ ?_)
    refine BigFrame.wpQuiet_want rfl fun K hK => ?_
    try simp only [Act.put, List.setIfInBounds_toArray, List.set_cons_succ, List.set_cons_zero]
    go_big_quiet_op
    refine ⟨_, Calm.calls C36, hK _ ?_⟩
    refine wpQuiet_nil ?_
    intro w9 hw9
    have F9 : Hid (Fr (fun _ => False) w w9) := F0.out.trans hw9
    have G9 := Lib.hid hw9
    clear hw9
    try simp only [Act.put, List.setIfInBounds_toArray, List.set_cons_succ, List.set_cons_zero]
    have X9 := Lib.hid (Ar.fr X0.out G9.out (fun x => x))
    go_wp2_with (first
      | refine wpList_store_row rfl 38 (.tmp 2) (.tmp 37) rfl (w.heap.size) (vs .u8 t) rfl rfl 38 _ X9.out s26.out eL.out (vs_all _ _) ?_)
    refine bodyPost_ret (results_cell_row Try.results26 _ _ _ 38 _ (0, 0) _ rfl (setRow_heap _ _ _ _ _ _ X9.out) Try.underlying38 rfl s26.out) rfl ⟨rfl, F9.out.setRow _ (.inr (by omega))⟩
  · obtain ⟨b0, b1, b2, hnum, C33⟩ := HM1.out hc0
    have C34 : ∀ V : World, Fr (fun _ => False) W1 V → Calls Try.prog 39 #[.pointer (some ⟨g, 0, none⟩)] V fun e w' => e = .returned (.agg (vs .u64 [b0, b1, b2])) ∧ Fr (fun _ => False) V w' := fun V hV => by
      rw [← hnum]
      exact rest_is _ _ _ _ _ _ _ _ W c g V (P0.out.fr hV (fun x => x)) hc0 hB HW.out
    clear hnum
    go_upto_region 5 with (fail)
    clear kc
    refine wp_region_quiet_tail (C := Calm W1) 8 (by kernel_rfl) (by kernel_rfl) (Calm.start _ _ (Fr.refl _ _)) ?_
    simp only [List.take_succ_cons, List.take_zero, List.drop_succ_cons, List.drop_zero]
    refine BigFrame.wpQuiet_want rfl fun K hK => quiet_load 62 (.tmp 3) rfl (q) rfl 62 _ (0, 0) _ (fun _ h => Calm.at Q1.out h) Try.underlying62 rfl (by rw [info46]; rfl) (hK _ ?_)
    refine BigFrame.wpQuiet_want rfl fun K hK => ?_
    try simp only [Act.put, List.setIfInBounds_toArray, List.set_cons_succ, List.set_cons_zero]
    go_big_quiet_op
    refine hK _ ?_
    refine BigFrame.wpQuiet_want rfl fun K hK => ?_
    try simp only [Act.put, List.setIfInBounds_toArray, List.set_cons_succ, List.set_cons_zero]
    go_big_quiet_op
    refine ⟨_, fun V hV => (C34 V hV).mono (fun _ _ ⟨he, hf⟩ => ⟨he, Fr.trans hV hf⟩), hK _ ?_⟩
    refine BigFrame.wpQuiet_want rfl fun K hK => ?_
    try simp only [Act.put, List.setIfInBounds_toArray, List.set_cons_succ, List.set_cons_zero]
    go_big_quiet_op
    refine hK _ ?_
    refine BigFrame.wpQuiet_want rfl fun K hK => ?_
    try simp only [Act.put, List.setIfInBounds_toArray, List.set_cons_succ, List.set_cons_zero]
    go_big_quiet_op
    first
      | refine ⟨_, fun _ _ => rfl, hK _ ?_⟩
      | refine hK _ ?_
    refine BigFrame.wpQuiet_want rfl fun K hK => ?_
    try simp only [Act.put, List.setIfInBounds_toArray, List.set_cons_succ, List.set_cons_zero]
    go_big_quiet_op
    first
      | refine ⟨_, fun _ _ => rfl, hK _ ?_⟩
      | refine hK _ ?_
    refine BigFrame.wpQuiet_want rfl fun K hK => quiet_midP 62 _ (.tmp 28) rfl (g) 1 rfl .u64 ([R0 k, R1 k, R2 k]) Try.underlying62 rfl (by rw [info46]; rfl) (fun _ h => (Pb.fr P0.out h (fun x => x)).r) (hK _ ?_)
    refine BigFrame.wpQuiet_want rfl fun K hK => ?_
    try simp only [Act.put, List.setIfInBounds_toArray, List.set_cons_succ, List.set_cons_zero]
    go_big_quiet_op
    refine ⟨_, Calm.calls C33, hK _ ?_⟩
    refine wpQuiet_nil ?_
    intro w8 hw8
    have F8 : Hid (Fr (fun _ => False) w w8) := F0.out.trans hw8
    have G8 := Lib.hid hw8
    clear hw8
    try simp only [Act.put, List.setIfInBounds_toArray, List.set_cons_succ, List.set_cons_zero]
    have Q8 := Lib.hid (Ar.fr Q1.out G8.out (fun x => x))
    replace X0 := Lib.hid ((Ar.fr X0.out G8.out (fun x => x)).rowFar (g' := q) (by omega) (vs .u64 [m0, m1, m2]))
    replace P0 := Lib.hid ((P0.out.fr G8.out (fun x => x)).rowFar (q := q) (by have := HP.out.lt; omega) (vs .u64 [m0, m1, m2]))
    replace F0 := Lib.hid (F8.out.setRow (g := q) (vs .u64 [m0, m1, m2]) (.inr (by omega)))
    replace Q1 := Lib.hid (Q8.out.row [m0, m1, m2])
    refine wpList_store_row rfl 62 (.tmp 3) (.tmp 30) rfl q (vs .u64 [m0, m1, m2]) rfl rfl 62 _ Q8.out (by rw [info46]; rfl) rfl (vs_all _ _) ?_
    clear Q8 G8 F8 C33 C34
    generalize w8.setRow q (vs .u64 [m0, m1, m2]) = W1 at *
    go_upto_region 6 with (fail)
    refine wp_region_quiet_tail (C := Calm W1) 7 (by kernel_rfl) (by kernel_rfl) (Calm.start _ _ (Fr.refl _ _)) ?_
    simp only [List.take_succ_cons, List.take_zero, List.drop_succ_cons, List.drop_zero]
    refine BigFrame.wpQuiet_want rfl fun K hK => quiet_load 62 (.tmp 3) rfl (q) rfl 62 _ (0, 0) _ (fun _ h => Calm.at Q1.out h) Try.underlying62 rfl (by rw [info46]; rfl) (hK _ ?_)
    refine BigFrame.wpQuiet_want rfl fun K hK => ?_
    try simp only [Act.put, List.setIfInBounds_toArray, List.set_cons_succ, List.set_cons_zero]
    go_big_quiet_op
    refine ⟨_, Calm.calls C35, hK _ ?_⟩
    refine BigFrame.wpQuiet_want rfl fun K hK => ?_
    try simp only [Act.put, List.setIfInBounds_toArray, List.set_cons_succ, List.set_cons_zero]
    go_big_quiet_op
    refine hK _ ?_
    refine BigFrame.wpQuiet_want rfl fun K hK => ?_
    try simp only [Act.put, List.setIfInBounds_toArray, List.set_cons_succ, List.set_cons_zero]
    go_big_quiet_op
    first
      | refine ⟨_, fun _ _ => rfl, hK _ ?_⟩
      | refine hK _ ?_
    refine BigFrame.wpQuiet_want rfl fun K hK => ?_
    try simp only [Act.put, List.setIfInBounds_toArray, List.set_cons_succ, List.set_cons_zero]
    go_big_quiet_op
    first
      | refine ⟨_, fun _ _ => rfl, hK _ ?_⟩
      | refine hK _ ?_
    refine BigFrame.wpQuiet_want rfl fun K hK => quiet_midP 65 _ (.tmp 35) rfl (g) 7 rfl .u64 ([S0 k, S1 k]) Try.underlying65 rfl (by rw [info47]; rfl) (fun _ h => (Pb.fr P0.out h (fun x => x)).s) (hK _ ?_)
    refine BigFrame.wpQuiet_want rfl fun K hK => ?_
    try simp only [Act.put, List.setIfInBounds_toArray, List.set_cons_succ, List.set_cons_zero]
    go_big_quiet_op
    refine ⟨_, Calm.calls C36, hK _ ?_⟩
    refine wpQuiet_nil ?_
    intro w9 hw9
    have F9 : Hid (Fr (fun _ => False) w w9) := F0.out.trans hw9
    have G9 := Lib.hid hw9
    clear hw9
    try simp only [Act.put, List.setIfInBounds_toArray, List.set_cons_succ, List.set_cons_zero]
    have X9 := Lib.hid (Ar.fr X0.out G9.out (fun x => x))
    go_wp2_with (first
      | refine wpList_store_row rfl 38 (.tmp 2) (.tmp 37) rfl (w.heap.size) (vs .u8 t) rfl rfl 38 _ X9.out s26.out eL.out (vs_all _ _) ?_)
    refine bodyPost_ret (results_cell_row Try.results26 _ _ _ 38 _ (0, 0) _ rfl (setRow_heap _ _ _ _ _ _ X9.out) Try.underlying38 rfl s26.out) rfl ⟨rfl, F9.out.setRow _ (.inr (by omega))⟩
end Go.Proofs.Ytbafppdmlhogbaa

/- poly.Tag: contract. Conditions: a key of 32 bytes, a slice that lies in memory. -/
namespace Go.Proofs.Ytbafppdmlhogbaa
set_option linter.unusedSimpArgs false
set_option linter.unusedVariables false
open Go.RowKit

theorem Sl.empty {w : World} {g : Nat} {v : Value} (h : Sl w g v []) (g' : Nat) : Sl w g' v [] := by
  obtain ⟨h1, A, c, h2, h3, h4, _⟩ := h
  exact ⟨h1, A, c, h2, h3, h4, fun e => absurd rfl e⟩
/-- A block that is not g, where the bytes may be said to lie. -/
theorem Sl.apart {w : World} {gb : Nat} {v : Value} {l : List Int} (h : Sl w gb v l) (hgb : l ≠ [] → gb < w.heap.size) (g : Nat) (hg : w.heap.size ≤ g) : ∃ gc, gc ≠ g ∧ Sl w gc v l ∧ (l ≠ [] → gc < w.heap.size) := by
  by_cases hl : l = []
  · subst hl
    exact ⟨g + 1, by omega, h.empty _, fun e => absurd rfl e⟩
  · exact ⟨gb, by have := hgb hl; omega, h, hgb⟩
end Go.Proofs.Ytbafppdmlhogbaa
