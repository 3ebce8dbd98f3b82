/- The program's New, Sum, Of: contracts. Conditions: sizes, slices that lie in memory. -/
import Derived.Test.YtebknlhooijkcaaZrj
import Derived.Test.YtebknlhooijkcaaPo
namespace Go.Proofs.Ytebknlhooijkcaa
set_option linter.unusedSimpArgs false
set_option linter.unusedVariables false
open Go.ChangeShapes Go.WideShapes Go.ChangeAt Go.RowKit


theorem HashAt.first {sz : Nat} {k X : List Int} {c : Nat} (hs0 : 1 ≤ sz) (hs1 : sz ≤ 32) (hk : k.length ≤ 32) (h : X.length = 64 ∧ Bys X ∧ c ≤ 64 ∧ c = (inn k []).length ∧ X.take c = inn k []) {w : World} {g : Nat} (hg : w.heap[g]? = some (.cells (hcl (sz : Int) (h0 (sz : Int) k.length) 0 X (c : Int)).toArray 56 (0, 0))) : HashAt w g sz k [] :=
  ⟨hs0, hs1, hk, by simp, 0, c, X, by rw [← h.2.2.2.1]; omega, h.2.2.1, fun _ => rfl, h.2.1, h.2.2.2.2, (h0_ok _ _).1, h.1, hg⟩
theorem HashAt.sized {w : World} {g sz : Nat} {k D : List Int} (h : HashAt w g sz k D) : w.cell? ⟨g, 0, none⟩ = some (.int .i64 (sz : Int)) ∧ 1 ≤ sz ∧ sz ≤ 32 := by
  obtain ⟨a1, a2, _, _, n, c, X, _, _, _, _, _, hb⟩ := h
  exact ⟨hb.size, a1, a2⟩
set_option maxRecDepth 100000 in
set_option maxHeartbeats 16000000 in
theorem new_yes (sz g1 : Nat) (A1 : Option Addr) (m1 c1 : Nat) (k : List Int) (w : World) (h1 : Sl w g1 (.slice A1 m1 c1) k) (hs0 : 1 ≤ sz) (hs1 : sz ≤ 32) (hk : m1 ≤ 32) :
    Calls Try.prog 39 #[.int .i64 (sz : Int), .slice A1 m1 c1] w fun e w' => ∃ g, w.heap.size ≤ g ∧ e = .returned (.tuple #[.pointer (some ⟨g, 0, none⟩), .int .i64 0]) ∧ HashAt w' g sz k [] ∧ Fr (fun _ => False) w w' := by
  have lk := Lib.hid h1.len
  have HS := Lib.hid h1
  have HB := Lib.hid (And.intro hs0 (And.intro hs1 hk))
  have j1 : ¬ (sz : Int) < 1 := by omega
  have j2 : ¬ (32 : Int) < sz := by omega
  have j3 : ¬ (32 : Int) < m1 := by omega
  obtain ⟨ZV, hZV⟩ : ∃ V, V = (hcl 0 (List.replicate 8 0) 0 (List.replicate 64 0) 0).toArray := ⟨_, rfl⟩
  have hz : ∀ W : World, (zeroValue 56).run Try.prog W = .ok (.agg ZV) W := fun W => by rw [hZV]; exact zeroH W
  have lZ : Hid (ZV.size = 75) := by show _ = _; rw [hZV, List.size_toArray, hcl_length rfl rfl]
  have CH : ∀ W, Fr (fun _ => False) w W → Calls Try.prog 36 #[.int .i64 (sz : Int), .slice A1 m1 c1] W fun e w' => ∃ V, e = .returned (.agg V) ∧ (V.size = 75 ∧ V.all (·.oneCell') = true ∧ ∀ (w5 : World) (g : Nat), w5.heap[g]? = some (.cells V 56 (0, 0)) → HashAt w5 g sz k []) ∧ Fr (fun _ => False) W w' := fun W hf => by
    refine (hash_is sz g1 A1 m1 c1 k W (HS.out.fr hf (fun _ x => x)) HB.out.2.1 HB.out.2.2).mono ?_
    rintro e w' ⟨X, c, rfl, hX, hf⟩
    exact ⟨_, rfl, ⟨by rw [List.size_toArray, hcl_length (h0_ok _ _).1 hX.1], hcl_all _ _ _ _ _, fun w5 g hg => HashAt.first HB.out.1 HB.out.2.1 (by rw [lk.out]; exact HB.out.2.2) hX hg⟩, hf⟩
  clear hZV h1 hs0 hs1 hk
  go_enter Try.func39, Try.ntmps39
  go_upto_region 3 with (fail)
  go_upto_region 4 with (first
    | (go_at_call 36; refine (CH _ (Fr.refl _ _)).mono ?_; rintro e w3 ⟨V, rfl, hV, hf⟩; have F3 := Lib.hid hf; have HV := Lib.hid hV; clear hf hV)
    | refine wpList_store_row rfl 56 (.tmp 6) (.tmp 20) rfl w3.heap.size V rfl rfl 56 ZV (heap_alloc_new w3 (.cells ZV 56)) (by rw [szH, HV.out.1]) (by rw [lZ.out, HV.out.1]) HV.out.2.1 ?_)
  go_wp2
  go_ret2
  exact ⟨w3.heap.size, F3.out.size, rfl, HV.out.2.2 _ _ (setRow_heap _ _ _ _ _ _ (heap_alloc_new w3 (.cells ZV 56))), (F3.out.alloc _).setRow _ (.inr F3.out.size)⟩
set_option maxRecDepth 100000 in
set_option maxHeartbeats 16000000 in
theorem new_no (size : Int) (A1 : Option Addr) (m1 c1 : Nat) (w : World) (h : size < 1 ∨ 32 < size ∨ 32 < m1) :
    Calls Try.prog 39 #[.int .i64 size, .slice A1 m1 c1] w fun e w' => e = .returned (.tuple #[.pointer none, .int .i64 2]) ∧ Fr (fun _ => False) w w' := by
  have hcase : size < 1 ∨ (¬ size < 1 ∧ 32 < size) ∨ (¬ size < 1 ∧ ¬ 32 < size ∧ (32 : Int) < m1) := by omega
  clear h
  rcases hcase with j1 | ⟨j1, j2⟩ | ⟨j1, j2, j3⟩
  all_goals
    go_enter Try.func39, Try.ntmps39
    go_wp2
    go_ret2
    exact ⟨rfl, Fr.refl _ _⟩
set_option maxHeartbeats 4000000 in
theorem hwrite_none (A2 : Option Addr) (m2 c2 : Nat) (w : World) : Calls Try.prog 37 #[.pointer none, .slice A2 m2 c2] w fun e w' => e = .returned (.tuple #[]) ∧ Fr (fun _ => False) w w' := by
  go_enter Try.func37, Try.ntmps37
  go_wp2_with (go_at_call 44; refine (none_nil _).mono ?_; rintro e w3 ⟨rfl, hf⟩; have F3 := Lib.hid hf; clear hf)
  refine bodyPost_ret (results_none rfl _ _ _) rfl ?_
  exact ⟨rfl, F3.out⟩
set_option maxHeartbeats 4000000 in
theorem hsum_none (w : World) : Calls Try.prog 40 #[.pointer none] w fun e w' => e = .returned (.slice none 0 0) ∧ Fr (fun _ => False) w w' := by
  go_enter Try.func40, Try.ntmps40
  go_wp2_with (go_at_call 44; refine (none_nil _).mono ?_; rintro e w3 ⟨rfl, hf⟩; have F3 := Lib.hid hf; clear hf)
  go_ret
  exact ⟨rfl, F3.out⟩
/-- The cells of a hash that is none. -/
noncomputable def hashZ : Array Value := (((Try.prog.info? 56).bind (·.zero)).map (·.cells)).getD #[]
theorem hashZ_run : ∀ W : World, (zeroValue 56).run Try.prog W = .ok (.agg hashZ) W := fun _ => by kernel_rfl
theorem hashZ_0 : hashZ[0]? = some (.int .i64 0) := by kernel_rfl
theorem hashZ_size {w : World} {g : Nat} (h : w.heap[g]? = some (.cells hashZ 56 (0, 0))) : w.cell? ⟨g, 0, none⟩ = some (.int .i64 0) := (cell_of_row w g 0 _ _ _ h).trans hashZ_0
set_option maxHeartbeats 4000000 in
theorem hwrite_bare (g : Nat) (A2 : Option Addr) (m2 c2 : Nat) (w : World) (h : w.heap[g]? = some (.cells hashZ 56 (0, 0))) : Calls Try.prog 37 #[.pointer (some ⟨g, 0, none⟩), .slice A2 m2 c2] w fun e w' => e = .returned (.tuple #[]) ∧ Fr (fun _ => False) w w' := by
  have h2 := Lib.hid (hashZ_size h)
  clear h
  go_enter Try.func37, Try.ntmps37
  go_wp2_with (go_at_call 44; refine (none_zero g _ h2.out).mono ?_; rintro e w3 ⟨rfl, hf⟩; have F3 := Lib.hid hf; clear hf)
  refine bodyPost_ret (results_none rfl _ _ _) rfl ?_
  exact ⟨rfl, F3.out⟩
set_option maxHeartbeats 4000000 in
theorem hsum_bare (g : Nat) (w : World) (h : w.heap[g]? = some (.cells hashZ 56 (0, 0))) : Calls Try.prog 40 #[.pointer (some ⟨g, 0, none⟩)] w fun e w' => e = .returned (.slice none 0 0) ∧ Fr (fun _ => False) w w' := by
  have h2 := Lib.hid (hashZ_size h)
  clear h
  go_enter Try.func40, Try.ntmps40
  go_wp2_with (go_at_call 44; refine (none_zero g _ h2.out).mono ?_; rintro e w3 ⟨rfl, hf⟩; have F3 := Lib.hid hf; clear hf)
  go_ret
  exact ⟨rfl, F3.out⟩
set_option maxRecDepth 100000 in
set_option maxHeartbeats 16000000 in
theorem hsum_is (g sz : Nat) (k D : List Int) (w : World) (hp : HashAt w g sz k D) :
    Calls Try.prog 40 #[.pointer (some ⟨g, 0, none⟩)] w fun e w' => ∃ v, e = .returned v ∧ Nw w w' v (dig sz k D) ∧ Fr (fun _ => False) w w' := by
  have HP := Lib.hid hp
  obtain ⟨hc, hs1, hs2⟩ := hp.sized
  have HC := Lib.hid hc
  have HZ := Lib.hid (And.intro hs1 hs2)
  obtain ⟨R, hR⟩ : ∃ R, R = bsw (digh (h0 (sz : Int) k.length) (inn k D)) := ⟨_, rfl⟩
  have lR : Hid (R.length = 32) := by show _ = _; rw [hR, bsw_length, (digh_ok (h0_ok _ _) _).1]
  have bR : Hid (Bys R) := by rw [hR]; exact bsw_bys _
  have CD : ∀ W, HashAt W g sz k D → Calls Try.prog 38 #[.pointer (some ⟨g, 0, none⟩)] W fun e w' => e = .returned (.agg (vs .u8 R)) ∧ Fr (fun _ => False) W w' := fun W h => by rw [hR]; exact digest_at g sz k D W h
  have HD : Hid (dig sz k D = R.take sz) := by rw [hR]; rfl
  obtain ⟨Z, hZ⟩ : ∃ Z, Z = List.replicate 32 (0 : Int) := ⟨_, rfl⟩
  have hz1 : ∀ W : World, (zeroValue 24).run Try.prog W = .ok (.agg (vs .u8 Z)) W := fun W => by rw [hZ]; exact zeroK W
  have sR : Hid ((Try.prog.info? 24).map (·.size) = some (vs .u8 R).size) := by show _ = _; rw [vs_size, lR.out]; exact szK
  have eZ : Hid ((vs .u8 Z).size = (vs .u8 R).size) := by show _ = _; rw [vs_size, vs_size, hZ, lR.out]; rfl
  clear hp hc hs1 hs2 hR hZ
  go_enter Try.func40, Try.ntmps40
  go_upto_region 3 with (go_at_call 44; refine (none_made g sz _ HC.out (by have := HZ.out.1; omega)).mono ?_; rintro e w1 ⟨rfl, hf⟩; have F1 := Lib.hid hf; clear hf)
  have H1 := Lib.hid (HP.out.fr F1.out (fun x => x))
  clear HP HC
  go_upto_region 4 with (first
    | (go_at_call 38; refine (CD _ H1.out).mono ?_; rintro e w3 ⟨rfl, hf⟩; have F3 := Lib.hid hf; clear hf)
    | refine wpList_store_row rfl 24 (.tmp 3) (.tmp 7) rfl w3.heap.size (vs .u8 R) rfl rfl 24 (vs .u8 Z) (heap_alloc_new w3 (.cells (vs .u8 Z) 24)) sR.out eZ.out (vs_all _ _) ?_)
  obtain ⟨q, hq⟩ : ∃ q, q = w3.heap.size := ⟨_, rfl⟩
  have FQ : Fr (fun _ => False) w3 ((w3.alloc (.cells (vs .u8 Z) 24)).setRow w3.heap.size (vs .u8 R)) := ((Fr.refl _ w3).alloc _).setRow _ (.inr (Nat.le_refl _))
  have B4 : Hid (Ar ((w3.alloc (.cells (vs .u8 Z) 24)).setRow w3.heap.size (vs .u8 R)) q 24 .u8 R) := by rw [hq]; exact (Ar.new w3 24 .u8 Z).row R
  have F4 := Lib.hid ((F1.out.trans F3.out).trans FQ)
  have H4 := Lib.hid ((H1.out.fr F3.out (fun x => x)).fr FQ (fun x => x))
  rw [← hq] at B4 F4 H4 ⊢
  generalize (w3.alloc (.cells (vs .u8 Z) 24)).setRow q (vs .u8 R) = W4 at *
  clear FQ hq H1 F1 F3 CD hz1 eZ sR
  try simp only [Act.put, List.setIfInBounds_toArray, List.set_cons_succ, List.set_cons_zero]
  have r1 := H4.out.sized.1
  have S4 : Hid (Sl W4 q (.slice (some ⟨q, 0, none⟩) sz 32) (R.take sz)) := by
    have h : Sl W4 q (.slice (some ⟨q, 0, none⟩) 32 32) R := B4.out.slt bR.out lR.out (by decide)
    exact h.take sz (by rw [lR.out]; exact HZ.out.2)
  go_wp2_with (first
    | refine wpList_plain rfl fun K' hK' => wp_value _ _ (run_slice_high32 (.tmp 3) (.tmp 11) rfl q 0 sz rfl rfl HZ.out.2 W4) (hK' _ _ ?_)
    | (at_builtin; refine wpList_own rfl (.const (.slice none 0 0)) (.tmp 12) rfl (Ow.nil W4) rfl rfl S4.out (by have := HZ.out; simp; omega) ?_; intro A3 N3 c3 w5 hap hN; have HAP := Lib.hid hap; clear hap hN))
  go_ret
  obtain ⟨x1, x2⟩ := Nw.app (Nw.nil w W4) F4.out (Fr.refl _ _) HAP.out
  rw [List.nil_append] at x1
  exact ⟨_, rfl, by rw [HD.out]; exact x1, x2⟩
set_option maxRecDepth 100000 in
set_option maxHeartbeats 16000000 in
theorem sum_is (g2 : Nat) (A2 : Option Addr) (m2 c2 : Nat) (b : List Int) (w : World) (h2 : Sl w g2 (.slice A2 m2 c2) b) (hm : m2 ≤ 140737488353280) :
    Calls Try.prog 29 #[.slice A2 m2 c2] w fun e w' => e = .returned (.agg (vs .u8 (dig 32 [] b))) ∧ Fr (fun _ => False) w w' := by
  have H2 := Lib.hid h2
  have HM := Lib.hid hm
  obtain ⟨R, hR⟩ : ∃ R, R = dig 32 [] b := ⟨_, rfl⟩
  have lR : Hid (R.length = 32) := by show _ = _; rw [hR]; exact dig_length (by decide) _ _
  have HR : Hid (bsw (digh (h0 ((32 : Nat) : Int) ([] : List Int).length) (inn [] b)) = R) := by
    show _ = _
    rw [hR, dig, List.take_of_length_le (by rw [bsw_length, (digh_ok (h0_ok _ _) _).1]; decide)]
  have CD : ∀ W g, HashAt W g 32 [] b → Calls Try.prog 38 #[.pointer (some ⟨g, 0, none⟩)] W fun e w' => e = .returned (.agg (vs .u8 R)) ∧ Fr (fun _ => False) W w' := fun W g h => by rw [← HR.out]; exact digest_at g 32 [] b W h
  obtain ⟨Z, hZ⟩ : ∃ Z, Z = List.replicate 32 (0 : Int) := ⟨_, rfl⟩
  have hz1 : ∀ W : World, (zeroValue 24).run Try.prog W = .ok (.agg (vs .u8 Z)) W := fun W => by rw [hZ]; exact zeroK W
  have sR : Hid ((Try.prog.info? 24).map (·.size) = some (vs .u8 R).size) := by show _ = _; rw [vs_size, lR.out]; exact szK
  have eZ : Hid ((vs .u8 Z).size = (vs .u8 R).size) := by show _ = _; rw [vs_size, vs_size, hZ, lR.out]; rfl
  obtain ⟨ZV, hZV⟩ : ∃ V, V = (hcl 0 (List.replicate 8 0) 0 (List.replicate 64 0) 0).toArray := ⟨_, rfl⟩
  have hz : ∀ W : World, (zeroValue 56).run Try.prog W = .ok (.agg ZV) W := fun W => by rw [hZV]; exact zeroH W
  have lZ : Hid (ZV.size = 75) := by show _ = _; rw [hZV, List.size_toArray, hcl_length rfl rfl]
  have CH : ∀ W, Calls Try.prog 36 #[.int .i64 32, .slice none 0 0] W fun e w' => ∃ V, e = .returned (.agg V) ∧ (V.size = 75 ∧ V.all (·.oneCell') = true ∧ ∀ (w5 : World) (g : Nat), w5.heap[g]? = some (.cells V 56 (0, 0)) → HashAt w5 g 32 [] []) ∧ Fr (fun _ => False) W w' := fun W => by
    refine (hash_is 32 0 none 0 0 [] W (Sl.nil _ _) (by decide) (by decide)).mono ?_
    rintro e w' ⟨X, c, rfl, hX, hf⟩
    exact ⟨_, rfl, ⟨by rw [List.size_toArray, hcl_length (h0_ok _ _).1 hX.1], hcl_all _ _ _ _ _, fun w5 g hg => HashAt.first (by decide) (by decide) (by simp) hX hg⟩, hf⟩
  rw [← hR]
  clear hR hZ hZV HR h2 hm
  go_enter Try.func29, Try.ntmps29
  go_upto_region 1 with (fail)
  have R0 : Hid (Ar (w.alloc (.cells (vs .u8 Z) 24)) w.heap.size 24 .u8 Z) := Ar.new w 24 .u8 Z
  have F0 : Hid (Fr (fun _ => False) w (w.alloc (.cells (vs .u8 Z) 24))) := (Fr.refl _ _).alloc _
  generalize w.alloc (.cells (vs .u8 Z) 24) = W0 at *
  clear hz1
  go_upto_region 2 with (first
    | (go_at_call 36; refine (CH _).mono ?_; rintro e w3 ⟨V, rfl, hV, hf⟩; have F3 := Lib.hid hf; have HV := Lib.hid hV; clear hf hV)
    | refine wpList_store_row rfl 56 (.tmp 3) (.tmp 4) rfl w3.heap.size V rfl rfl 56 ZV (heap_alloc_new w3 (.cells ZV 56)) (by rw [szH, HV.out.1]) (by rw [lZ.out, HV.out.1]) HV.out.2.1 ?_)
  obtain ⟨q, hq⟩ : ∃ q, q = w3.heap.size := ⟨_, rfl⟩
  have FQ : Fr (fun _ => False) w3 ((w3.alloc (.cells ZV 56)).setRow w3.heap.size V) := ((Fr.refl _ w3).alloc _).setRow _ (.inr (Nat.le_refl _))
  have P4 : Hid (HashAt ((w3.alloc (.cells ZV 56)).setRow w3.heap.size V) q 32 [] []) := HV.out.2.2 _ _ (by rw [hq]; exact setRow_heap _ _ _ _ _ _ (heap_alloc_new w3 (.cells ZV 56)))
  have NQ : Hid (w.heap.size < q) := by rw [hq]; exact Nat.lt_of_lt_of_le R0.out.lt F3.out.size
  have R4 := Lib.hid (R0.out.fr (F3.out.trans FQ) (fun x => x))
  have F4 := Lib.hid (F0.out.trans (F3.out.trans FQ))
  rw [← hq] at P4 R4 F4 ⊢
  generalize (w3.alloc (.cells ZV 56)).setRow q V = W4 at *
  clear FQ hq R0 F0 F3 CH hz HV lZ
  try simp only [Act.put, List.setIfInBounds_toArray, List.set_cons_succ, List.set_cons_zero]
  obtain ⟨gc, hgc, hsc, _⟩ := H2.out.apart H2.out.lt6 q (by have := NQ.out; omega)
  have NE : Hid (gc ≠ q) := hgc
  have S4 := Lib.hid (hsc.fr F4.out (fun _ x => x))
  clear hgc hsc H2
  go_upto_region 3 with (go_at_call 37; refine (hwrite_is q 32 [] [] gc A2 m2 c2 b _ P4.out S4.out NE.out (by have := HM.out; simp; omega)).mono ?_; rintro e w5 ⟨rfl, hh, hf⟩; have F5 := Lib.hid hf; have P5 := Lib.hid hh; clear hf hh)
  have R5 := Lib.hid (R4.out.fr F5.out (show ¬ w.heap.size = q by have := NQ.out; omega))
  have F6 : Hid (Fr (fun _ => False) w w5) := F4.out.trans' F5.out (fun j hj e => by have := NQ.out; omega)
  clear R4 F4 F5 P4 S4
  go_wp2_with (first
    | (go_at_call 38; refine (CD _ _ P5.out).mono ?_; rintro e w7 ⟨rfl, hf⟩; have F7 := Lib.hid (F6.out.trans hf); have R7 := Lib.hid (R5.out.fr hf (fun x => x)); clear hf)
    | refine wpList_store_row rfl 24 (.tmp 2) (.tmp 7) rfl w.heap.size (vs .u8 R) rfl rfl 24 _ R7.out sR.out eZ.out (vs_all _ _) ?_)
  refine bodyPost_ret (results_cell_row Try.results29 _ _ _ 24 _ (0, 0) _ rfl (setRow_heap _ _ _ _ _ _ R7.out) Try.underlying24 rfl sR.out) rfl ⟨rfl, F7.out.setRow _ (.inr (Nat.le_refl _))⟩
end Go.Proofs.Ytebknlhooijkcaa
