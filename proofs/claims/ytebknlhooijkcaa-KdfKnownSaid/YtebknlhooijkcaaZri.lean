/- The program's hash: contract. Conditions: a size, a key of 32 bytes at most. -/
import Derived.Test.YtebknlhooijkcaaZrg
namespace Go.Proofs.Ytebknlhooijkcaa
set_option linter.unusedSimpArgs false
set_option linter.unusedVariables false
open Go.ChangeShapes Go.WideShapes Go.ChangeAt Go.RowKit


theorem szH : (Try.prog.info? 56).map (·.size) = some 75 := by kernel_rfl
theorem zeroH : ∀ W : World, (zeroValue 56).run Try.prog W = .ok (.agg (hcl 0 (List.replicate 8 0) 0 (List.replicate 64 0) 0).toArray) W := fun _ => by kernel_rfl
theorem hcl_all (sz p c : Int) (s X : List Int) : (hcl sz s p X c).toArray.all (·.oneCell') = true := by
  apply Array.all_eq_true_iff_forall_mem.2
  intro v hv
  simp only [hcl, bs, List.mem_toArray, List.mem_cons, List.mem_append, List.mem_map, List.not_mem_nil, or_false] at hv
  rcases hv with rfl | ⟨x, _, rfl⟩ | rfl | ⟨x, _, rfl⟩ | rfl <;> rfl
theorem run_build_hash {o : Oper} {a : Act} (x y : Operand) (ho : o.op = .build 56 #[(0, x), (1, y)]) (sz : Int) (hx : a.eval x = .int .i64 sz) (hy : a.eval y = .agg (vs .u32 iv)) (W : World) :
    (execOp a.eval o).run Try.prog W = .ok (.value (.agg (hcl sz iv 0 (List.replicate 64 0) 0).toArray)) W := by
  unfold execOp
  simp only [ho, List.map_toArray, List.map_cons, List.map_nil, hx, hy]
  kernel_rfl
theorem h0_is (sz kl : Nat) (hs : sz ≤ 32) (hk : kl ≤ 32) : h0 (sz : Int) kl = iv.set 0 (bits .xor .u32 1779033703 (bits .xor .u32 (bits .xor .u32 16842752 (IntKind.u32.wrap ((kl : Int) * 256))) (sz : Int))) := by
  have d (x : Int) (h : 0 ≤ x ∧ x ≤ 4294967295) : Wd x := h
  have w1 : Wd (1779033703 : Int) := d _ (by omega)
  have w2 : Wd (16842752 : Int) := d _ (by omega)
  have w3 : Wd (256 * (kl : Int) % 4294967296) := d _ (by omega)
  have w4 : Wd ((sz : Int) % 4294967296) := d _ (by omega)
  have e1 : IntKind.u32.wrap ((kl : Int) * 256) = 256 * (kl : Int) % 4294967296 := by rw [wrap32]; omega
  have e2 : (sz : Int) % 4294967296 = (sz : Int) := by omega
  show _ = iv.set 0 (xr 1779033703 (xr (xr 16842752 (IntKind.u32.wrap ((kl : Int) * 256))) (sz : Int)))
  unfold h0
  rw [e1, xr_assoc w1 (xr_wd w2 w3) (by rw [← e2]; exact w4), xr_assoc w1 w2 w3, e2]
set_option maxRecDepth 100000 in
set_option maxHeartbeats 16000000 in
theorem hash_is (sz g1 : Nat) (A1 : Option Addr) (m1 c1 : Nat) (k : List Int) (w : World) (h1 : Sl w g1 (.slice A1 m1 c1) k) (hs : sz ≤ 32) (hm : m1 ≤ 32) :
    Calls Try.prog 36 #[.int .i64 (sz : Int), .slice A1 m1 c1] w fun e w' => ∃ (X : List Int) (c : Nat), e = .returned (.agg (hcl (sz : Int) (h0 (sz : Int) k.length) 0 X (c : Int)).toArray) ∧ (X.length = 64 ∧ Bys X ∧ c ≤ 64 ∧ c = (inn k []).length ∧ X.take c = inn k []) ∧ Fr (fun _ => False) w w' := by
  have lk := Lib.hid h1.len
  have HS := Lib.hid h1
  have HM := Lib.hid hm
  have HKB : Hid (Bys k) := h1.1
  obtain ⟨S, hS⟩ : ∃ S, S = h0 (sz : Int) k.length := ⟨_, rfl⟩
  have lS : Hid (S.length = 8) := by show _ = _; rw [hS]; exact (h0_ok _ _).1
  have HSS : Hid (S = h0 (sz : Int) k.length) := hS
  obtain ⟨y1, k2⟩ : ∃ y, IntKind.u32.wrap ((m1 : Int) * 256) = y := ⟨_, rfl⟩
  obtain ⟨y2, k3⟩ : ∃ y, bits .xor .u32 16842752 y1 = y := ⟨_, rfl⟩
  obtain ⟨y3, k5⟩ : ∃ y, bits .xor .u32 y2 (sz : Int) = y := ⟨_, rfl⟩
  obtain ⟨y4, k6⟩ : ∃ y, bits .xor .u32 1779033703 y3 = y := ⟨_, rfl⟩
  have k1 : IntKind.u32.wrap (m1 : Int) = m1 := by rw [wrap32]; omega
  have k4 : IntKind.u32.wrap (sz : Int) = sz := by rw [wrap32]; omega
  have HY : Hid (iv.set 0 y4 = S) := by show _ = _; rw [hS, lk.out, h0_is sz m1 hs hm, k2, k3, k5, k6]
  rw [← hS]
  obtain ⟨ZV, hZV⟩ : ∃ V, V = (hcl 0 (List.replicate 8 0) 0 (List.replicate 64 0) 0).toArray := ⟨_, rfl⟩
  have hz : ∀ W : World, (zeroValue 56).run Try.prog W = .ok (.agg ZV) W := fun W => by rw [hZV]; exact zeroH W
  have lZ : Hid (ZV.size = 75) := by show _ = _; rw [hZV, List.size_toArray, hcl_length rfl rfl]
  obtain ⟨IV, hIV⟩ : ∃ V, V = vs .u32 iv := ⟨_, rfl⟩
  obtain ⟨Z, hZ⟩ : ∃ Z, Z = List.replicate 64 (0 : Int) := ⟨_, rfl⟩
  have HZ := Lib.hid hZ
  have lZ64 : Hid (Z.length = 64) := by show _ = _; rw [hZ]; rfl
  obtain ⟨BV, hBV⟩ : ∃ V, V = (hcl (sz : Int) iv 0 Z 0).toArray := ⟨_, rfl⟩
  have HBV := Lib.hid hBV
  have CS : ∀ W, Calls Try.prog 43 #[] W fun e w' => e = .returned (.agg IV) ∧ Fr (fun _ => False) W w' := fun W => by rw [hIV]; exact start_w W
  have hbu : ∀ {o : Oper} {a : Act} (x y : Operand) (ho : o.op = .build 56 #[(0, x), (1, y)]) (hx : a.eval x = .int .i64 (sz : Int)) (hy : a.eval y = .agg IV) (W : World), (execOp a.eval o).run Try.prog W = .ok (.value (.agg BV)) W := fun x y ho hx hy W => by rw [hBV, hZ]; rw [hIV] at hy; exact run_build_hash x y ho _ hx hy W
  have sB : Hid ((Try.prog.info? 56).map (·.size) = some BV.size) := by show _ = _; rw [szH, hBV, List.size_toArray, hcl_length rfl lZ64.out]
  have eB : Hid (ZV.size = BV.size) := by show _ = _; rw [lZ.out, hBV, List.size_toArray, hcl_length rfl lZ64.out]
  have aB : Hid (BV.all (·.oneCell') = true) := by show _ = _; rw [hBV]; exact hcl_all _ _ _ _ _
  clear hS hZV hIV hZ hBV h1 hs hm
  go_enter Try.func36, Try.ntmps36
  go_upto_region 1 with (fail)
  have R0 : Hid ((w.alloc (.cells ZV 56)).heap[w.heap.size]? = some (.cells ZV 56 (0, 0))) := heap_alloc_new w _
  have F0 : Hid (Fr (fun _ => False) w (w.alloc (.cells ZV 56))) := (Fr.refl _ _).alloc _
  generalize w.alloc (.cells ZV 56) = W0 at *
  go_upto_region 2 with (first
    | (go_at_call 43; refine (CS _).mono ?_; rintro e w3 ⟨rfl, hf⟩; have F3 := Lib.hid hf; clear hf)
    | refine wpList_plain rfl fun K' hK' => wp_value _ _ (hbu (.tmp 6) (.tmp 7) rfl rfl rfl w3) (hK' _ _ ?_)
    | refine wpList_store_row rfl 56 (.tmp 5) (.tmp 8) rfl w3.heap.size BV rfl rfl 56 ZV (heap_alloc_new w3 (.cells ZV 56)) sB.out eB.out aB.out ?_)
  obtain ⟨q, hq⟩ : ∃ q, q = w3.heap.size := ⟨_, rfl⟩
  have FQ : Fr (fun _ => False) w3 ((w3.alloc (.cells ZV 56)).setRow w3.heap.size BV) := ((Fr.refl _ w3).alloc _).setRow _ (.inr (Nat.le_refl _))
  have H1 : Hid (Hb ((w3.alloc (.cells ZV 56)).setRow w3.heap.size BV) q (sz : Int) iv 0 Z 0) := ⟨rfl, lZ64.out, by rw [hq, ← HBV.out]; exact setRow_heap _ _ _ _ _ _ (heap_alloc_new w3 (.cells ZV 56))⟩
  have NQ : Hid (w.heap.size < q) := by rw [hq]; exact Nat.lt_of_lt_of_le (heap_lt R0.out) F3.out.size
  have R1 := Lib.hid (((F3.out.trans FQ).block _ (heap_lt R0.out) (fun x => x)).trans R0.out)
  have F1 := Lib.hid (F0.out.trans (F3.out.trans FQ))
  rw [← hq] at H1 R1 F1 ⊢
  generalize (w3.alloc (.cells ZV 56)).setRow q BV = W1 at *
  clear FQ hq R0 F0 F3 CS hbu sB eB aB hz HBV
  try simp only [Act.put, List.setIfInBounds_toArray, List.set_cons_succ, List.set_cons_zero]
  have r1 : W1.cell? ⟨q, 1, none⟩ = some (.int .u32 1779033703) := (H1.out.cells 1).trans (hcl_sum (j := 0) rfl (by decide))
  have r2 := H1.out.frozen 1
  go_upto_region 3 with (fail)
  have H2 : Hid (Hb (W1.setCell ⟨q, 1, none⟩ (.int .u32 y4)) q (sz : Int) S 0 Z 0) := by
    have h := H1.out.setFirst y4
    rw [HY.out] at h
    exact h
  have R2 : Hid ((W1.setCell ⟨q, 1, none⟩ (.int .u32 y4)).heap[w.heap.size]? = some (.cells ZV 56 (0, 0))) := (heap_setCell_other _ _ _ _ (by show ¬ w.heap.size = q; have := NQ.out; omega)).trans R1.out
  have F2 : Hid (Fr (fun _ => False) w (W1.setCell ⟨q, 1, none⟩ (.int .u32 y4))) := F1.out.setCell _ (.inr (by show w.heap.size ≤ q; have := NQ.out; omega))
  generalize W1.setCell ⟨q, 1, none⟩ (.int .u32 y4) = W2 at *
  clear r1 r2 H1 R1 F1 HY k1 k2 k3 k4 k5 k6
  try simp only [Act.put, List.setIfInBounds_toArray, List.set_cons_succ, List.set_cons_zero]
  by_cases hm0 : 0 < m1
  · obtain ⟨o, rfl, hcell⟩ := (HS.out.fr F2.out (fun _ x => x)).at_ hm0
    have HCl := Lib.hid hcell
    have HK := Lib.hid (HS.out.fr F2.out (fun _ x => x))
    clear hcell
    go_upto_region 4 with (fail)
    go_upto_region 5 with (refine wpList_plain rfl fun K' hK' => wp_value (.int .i64 (k.length : Int)) _ (run_op_copy (.tmp 27) (.tmp 28) rfl W2 q 10 64 64 rfl ⟨g1, o, none⟩ m1 c1 rfl (hcl (sz : Int) S 0 Z 0).toArray 56 k H2.out.2.2 (by rw [lk.out]; have := HM.out; show m1 = min m1 64; omega) (fun j b hj => ?_) (by rw [List.size_toArray, hcl_length lS.out lZ64.out, lk.out]; have := HM.out; omega)) (hK' _ _ ?_))
    · have hj2 : j < k.length := (List.getElem?_eq_some_iff.1 hj).1
      rw [Addr_add_none, HCl.out j (by rw [← lk.out]; exact hj2), List.getD_eq_getElem?_getD, hj]
      rfl
    have H3 := Lib.hid (H2.out.setWait 0 k (by rw [lk.out]; have := HM.out; omega))
    have R3 := Lib.hid ((setRow_other W2 q w.heap.size ((hcl (sz : Int) S 0 Z 0).toArray.toList.take (10 + 0) ++ bs k ++ (hcl (sz : Int) S 0 Z 0).toArray.toList.drop (10 + 0 + (bs k).length)).toArray (by have := NQ.out; omega)).trans R2.out)
    have F3 := Lib.hid (F2.out.setRow (g := q) ((hcl (sz : Int) S 0 Z 0).toArray.toList.take (10 + 0) ++ bs k ++ (hcl (sz : Int) S 0 Z 0).toArray.toList.drop (10 + 0 + (bs k).length)).toArray (.inr (by have := NQ.out; omega)))
    simp only [Nat.add_zero] at H3 R3 F3
    generalize W2.setRow q _ = W3 at *
    clear H2 R2 F2 HCl HK HS
    obtain ⟨X, hX⟩ : ∃ X, X = Z.take 0 ++ k ++ Z.drop (0 + k.length) := ⟨_, rfl⟩
    have HX : Hid (X.length = 64 ∧ X = k ++ List.replicate (64 - k.length) 0) := by
      have e : X = k ++ List.replicate (64 - k.length) 0 := by rw [hX, HZ.out, List.take_zero, List.nil_append, List.drop_replicate, Nat.zero_add]
      exact ⟨by rw [e, List.length_append, List.length_replicate, lk.out]; have := HM.out; omega, e⟩
    have H4 : Hid (Hb W3 q (sz : Int) S 0 X 0) := by rw [hX]; exact H3.out
    clear H3 hX
    try simp only [Act.put, List.setIfInBounds_toArray, List.set_cons_succ, List.set_cons_zero]
    have r1 := H4.out.count
    have r2 := H4.out.frozen 74
    go_upto_region 6 with (fail)
    have H5 := Lib.hid (H4.out.setCount 64)
    have R5 : Hid ((W3.setCell ⟨q, 74, none⟩ (.int .i64 64)).heap[w.heap.size]? = some (.cells ZV 56 (0, 0))) := (heap_setCell_other _ _ _ _ (by show ¬ w.heap.size = q; have := NQ.out; omega)).trans R3.out
    have F5 : Hid (Fr (fun _ => False) w (W3.setCell ⟨q, 74, none⟩ (.int .i64 64))) := F3.out.setCell _ (.inr (by show w.heap.size ≤ q; have := NQ.out; omega))
    generalize W3.setCell ⟨q, 74, none⟩ (.int .i64 64) = W5 at *
    clear r1 r2 H4 R3 F3
    obtain ⟨V, hV⟩ : ∃ V, V = (hcl (sz : Int) S 0 X 64).toArray := ⟨_, rfl⟩
    have sV : Hid ((Try.prog.info? 56).map (·.size) = some V.size) := by show _ = _; rw [szH, hV, List.size_toArray, hcl_length lS.out HX.out.1]
    have eV : Hid (ZV.size = V.size) := by show _ = _; rw [lZ.out, hV, List.size_toArray, hcl_length lS.out HX.out.1]
    have aV : Hid (V.all (·.oneCell') = true) := by show _ = _; rw [hV]; exact hcl_all _ _ _ _ _
    have H6 : Hid (W5.heap[q]? = some (.cells V 56 (0, 0))) := by show _ = _; rw [hV]; exact H5.out.2.2
    have HV := Lib.hid hV
    clear hV H5
    go_wp2_with (first
      | refine wpList_load_row rfl 56 (.tmp 5) rfl q rfl 56 V (0, 0) _ H6.out Try.underlying56 rfl sV.out ?_
      | refine wpList_store_row rfl 56 (.tmp 4) (.tmp 31) rfl w.heap.size V rfl rfl 56 ZV R5.out sV.out eV.out aV.out ?_)
    refine bodyPost_ret (results_cell_row Try.results36 _ _ _ 56 _ (0, 0) _ rfl (setRow_heap _ _ _ _ _ _ R5.out) Try.underlying56 rfl sV.out) rfl ⟨X, 64, by rw [HV.out]; rfl, ⟨HX.out.1, ?_, Nat.le_refl _, ?_, ?_⟩, F5.out.setRow _ (.inr (Nat.le_refl _))⟩
    · rw [HX.out.2]
      exact HKB.out.append (noughts _)
    · rw [inn, if_neg (by rw [lk.out]; omega), List.append_nil, ← HX.out.2, HX.out.1]
    · rw [inn, if_neg (by rw [lk.out]; omega), List.append_nil, ← HX.out.2, List.take_of_length_le (by rw [HX.out.1]; exact Nat.le_refl _)]
  · obtain rfl : m1 = 0 := by omega
    go_upto_region 6 with (fail)
    obtain ⟨V, hV⟩ : ∃ V, V = (hcl (sz : Int) S 0 Z 0).toArray := ⟨_, rfl⟩
    have sV : Hid ((Try.prog.info? 56).map (·.size) = some V.size) := by show _ = _; rw [szH, hV, List.size_toArray, hcl_length lS.out lZ64.out]
    have eV : Hid (ZV.size = V.size) := by show _ = _; rw [lZ.out, hV, List.size_toArray, hcl_length lS.out lZ64.out]
    have aV : Hid (V.all (·.oneCell') = true) := by show _ = _; rw [hV]; exact hcl_all _ _ _ _ _
    have H6 : Hid (W2.heap[q]? = some (.cells V 56 (0, 0))) := by show _ = _; rw [hV]; exact H2.out.2.2
    have HV := Lib.hid hV
    clear hV H2
    go_wp2_with (first
      | refine wpList_load_row rfl 56 (.tmp 5) rfl q rfl 56 V (0, 0) _ H6.out Try.underlying56 rfl sV.out ?_
      | refine wpList_store_row rfl 56 (.tmp 4) (.tmp 31) rfl w.heap.size V rfl rfl 56 ZV R2.out sV.out eV.out aV.out ?_)
    have e0 : inn k [] = [] := by rw [inn, if_pos lk.out]
    refine bodyPost_ret (results_cell_row Try.results36 _ _ _ 56 _ (0, 0) _ rfl (setRow_heap _ _ _ _ _ _ R2.out) Try.underlying56 rfl sV.out) rfl ⟨Z, 0, by rw [HV.out]; rfl, ⟨lZ64.out, by rw [HZ.out]; exact noughts _, by omega, by rw [e0]; rfl, by rw [e0]; rfl⟩, F2.out.setRow _ (.inr (Nat.le_refl _))⟩
end Go.Proofs.Ytebknlhooijkcaa
