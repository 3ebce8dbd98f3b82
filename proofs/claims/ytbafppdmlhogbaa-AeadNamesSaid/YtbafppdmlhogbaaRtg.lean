/- The reference's tag of a box: contract. Conditions: a key, a nonce, bytes. -/
import Derived.Test.YtbafppdmlhogbaaLo
import Derived.Test.YtbafppdmlhogbaaRg
import Derived.Test.YtbafppdmlhogbaaRb
namespace Go.Proofs.Ytbafppdmlhogbaa
set_option linter.unusedSimpArgs false
set_option linter.unusedVariables false
open Go.ChangeShapes Go.WideShapes Go.ChangeAt Go.RowKit


theorem Sl.hgb {w : World} {g : Nat} {A : Option Addr} {m c : Nat} {l : List Int} (h : Sl w g (.slice A m c) l) : l ≠ [] → g < w.heap.size := fun x => h.lt6 x
theorem zero6 : ∀ W : World, (zeroValue 28).run Try.prog W = .ok (.agg (vs .u8 (List.replicate 32 0))) W := fun _ => by kernel_rfl
set_option maxRecDepth 100000 in
set_option maxHeartbeats 16000000 in
theorem rtag6_is (k n : List Int) (g2 : Nat) (A2 : Option Addr) (m2 c2 : Nat) (ad : List Int) (g3 : Nat) (A3 : Option Addr) (m3 c3 : Nat) (b : List Int) (w : World) (hk : k.length = 32) (bk : Bys k) (hn : n.length = 12) (bn : Bys n)
    (h2 : Sl w g2 (.slice A2 m2 c2) ad) (h3 : Sl w g3 (.slice A3 m3 c3) b) (l2 : m2 ≤ 1000000) (l3 : m3 ≤ 1000000) :
    Calls Try.prog 31 #[.agg (vs .u8 k), .agg (vs .u8 n), .slice A2 m2 c2, .slice A3 m3 c3] w fun e w' => e = .returned (.agg (vs .u8 (atag k n ad b))) ∧ Fr (fun _ => False) w w' := by
  obtain ⟨B, hB⟩ : ∃ B, B = bk64 k 0 n := ⟨_, rfl⟩
  obtain ⟨O, hO⟩ : ∃ O, O = otk k n := ⟨_, rfl⟩
  obtain ⟨t, ht⟩ : ∃ t, t = atag k n ad b := ⟨_, rfl⟩
  have lB : Hid (B.length = 64) := by show _ = _; rw [hB]; exact bk64_length hk bk wd0 hn bn
  have HB : ∀ W, Calls Try.prog 42 #[.agg (vs .u8 k), .int .u32 0, .agg (vs .u8 n)] W fun e w' => e = .returned (.agg (vs .u8 B)) ∧ Fr (fun _ => False) W w' := fun W => by rw [hB]; exact rblock_is k 0 n W hk bk wd0 hn bn
  have HO : Hid (O.length = 32 ∧ Bys O) := by rw [hO]; exact ⟨otk_length hk bk hn bn, otk_bys k n⟩
  have HOB : Hid (∀ i, i < 32 → ∃ x, O[i]? = some x ∧ B[i]? = some x) := by
    show ∀ _, _
    intro i hi
    refine ⟨B.getD i 0, ?_, getD_some (by rw [lB.out]; omega)⟩
    rw [hO, otk, ← hB, List.getElem?_take, if_pos hi]
    exact getD_some (by rw [lB.out]; omega)
  have Ht : Hid (t.length = 16) := by show _ = _; rw [ht]; exact atag_length _ _ _ _
  have HTC : ∀ W gm Am mm cm, Sl W gm (.slice Am mm cm) (((pad ad ++ pad b) ++ les 8 ad.length) ++ les 8 b.length) → mm ≤ 140737488355328 → Calls Try.prog 45 #[.agg (vs .u8 O), .slice Am mm cm] W fun e w' => e = .returned (.agg (vs .u8 t)) ∧ Fr (fun _ => False) W w' := fun W gm Am mm cm hs hm => by
    rw [ht, atag, hO]
    exact rtag_is (otk k n) gm Am mm cm _ W (otk_length hk bk hn bn) (otk_bys k n) hs hs.hgb hm
  have HT := Lib.hid ht
  have sK := Lib.hid (keys_info hk)
  have sN : Hid ((Try.prog.info? 22).map (·.size) = some (vs .u8 n).size) := by show _ = _; rw [size29, vs_size, hn]
  have sO := Lib.hid (keys_info HO.out.1)
  have sB : Hid ((Try.prog.info? 42).map (·.size) = some (vs .u8 B).size) := by show _ = _; rw [size64, vs_size, lB.out]
  have st : Hid ((Try.prog.info? 38).map (·.size) = some (vs .u8 t).size) := tags_info Ht.out
  have L2 := Lib.hid h2.len
  have L3 := Lib.hid h3.len
  have LP : Hid ((pad ad).length < m2 + 16 ∧ (pad b).length < m3 + 16) := by
    have e2 := gap_lt ad.length
    have e3 := gap_lt b.length
    have e4 := L2.out
    have e5 := L3.out
    show _ ∧ _
    rw [pad_length, pad_length]
    omega
  have H2 := Lib.hid h2
  have H3 := Lib.hid h3
  obtain ⟨Y, hY⟩ : ∃ Y, Y = List.replicate 64 (0 : Int) := ⟨_, rfl⟩
  obtain ⟨Z, hZ⟩ : ∃ Z, Z = List.replicate 16 (0 : Int) := ⟨_, rfl⟩
  have hz1 : ∀ W : World, (zeroValue 42).run Try.prog W = .ok (.agg (vs .u8 Y)) W := fun W => by rw [hY]; exact zero64 W
  have hz2 : ∀ W : World, (zeroValue 38).run Try.prog W = .ok (.agg (vs .u8 Z)) W := fun W => by rw [hZ]; exact zero26 W
  have hz3 : ∀ W : World, (zeroValue 28).run Try.prog W = .ok (.agg (vs .u8 (fil O 0 0))) W := fun W => by rw [fil_zero, HO.out.1]; exact zero6 W
  have lY : Hid ((vs .u8 Y).size = (vs .u8 B).size) := by show _ = _; rw [vs_size, vs_size, hY, lB.out]; rfl
  have lZ : Hid ((vs .u8 Z).size = (vs .u8 t).size) := by show _ = _; rw [vs_size, vs_size, hZ, Ht.out]; rfl
  clear hB hO ht hY hZ hk bk hn bn h2 h3
  go_enter Try.func31, Try.ntmps31
  go_upto_region 2 with (fail)
  generalize hW : (((w.alloc (.cells (vs .u8 k) 28)).alloc (.cells (vs .u8 n) 22)).alloc (.cells (vs .u8 Z) 38)).alloc (.cells (vs .u8 (fil O 0 0)) 28) = W0
  have HW := Lib.hid (calm4 hW)
  clear hW hz2 hz3
  go_upto_region 3 with (first
    | (go_at_call 42; refine (HB _).mono ?_; rintro e w3 ⟨rfl, hf⟩; have F3 := Lib.hid hf; clear hf)
    | refine wpList_load_row rfl 28 (.tmp 4) rfl (w.heap.size) rfl 28 (vs .u8 k) (0, 0) _ HW.out.1 Try.underlying28 rfl sK.out ?_
    | refine wpList_load_row rfl 22 (.tmp 5) rfl (w.heap.size + 1) rfl 22 (vs .u8 n) (0, 0) _ HW.out.2.1 Try.underlying22 rfl sN.out ?_
    | refine wpList_store_row rfl 42 (.tmp 10) (.tmp 15) rfl w3.heap.size (vs .u8 B) rfl rfl 42 (vs .u8 Y) (heap_alloc_new w3 (.cells (vs .u8 Y) 42)) sB.out lY.out (vs_all _ _) ?_)
  obtain ⟨bq, hbq⟩ : ∃ q, q = w3.heap.size := ⟨_, rfl⟩
  have FQ : Fr (fun _ => False) w3 ((w3.alloc (.cells (vs .u8 Y) 42)).setRow w3.heap.size (vs .u8 B)) := ((Fr.refl _ w3).alloc _).setRow _ (.inr (Nat.le_refl _))
  have Z3 := Lib.hid ((Ar.fr (w := W0) (t := 38) (k := .u8) (l := Z) HW.out.2.2.1 F3.out (fun x => x)).fr FQ (fun x => x))
  have O3 := Lib.hid ((Ar.fr (w := W0) (t := 28) (k := .u8) (l := fil O 0 0) HW.out.2.2.2.1 F3.out (fun x => x)).fr FQ (fun x => x))
  have F4 := Lib.hid ((HW.out.2.2.2.2.trans F3.out).trans FQ)
  have B3 : Hid (Ar ((w3.alloc (.cells (vs .u8 Y) 42)).setRow w3.heap.size (vs .u8 B)) bq 42 .u8 B) := by rw [hbq]; exact (Ar.new w3 42 .u8 Y).row B
  have hq0 : w.heap.size + 3 < bq := by
    have h1 := heap_lt HW.out.2.2.2.1
    have h2 := F3.out.size
    omega
  rw [← hbq] at Z3 O3 F4 B3 ⊢
  generalize (w3.alloc (.cells (vs .u8 Y) 42)).setRow bq (vs .u8 B) = W4 at *
  have HQ := Lib.hid hq0
  clear FQ hbq hq0 HW HB F3
  try simp only [Act.put, List.setIfInBounds_toArray, List.set_cons_succ, List.set_cons_zero]
  go_upto_region 4 with (fail)
  go_loopw [11] (fun u11 wr => ∃ i : Nat, u11 = .int .i64 i ∧ i ≤ 32 ∧ Hid (Ar wr (w.heap.size + 1 + 1) 38 .u8 Z) ∧ Hid (Ar wr (w.heap.size + 1 + 1 + 1) 28 .u8 (fil O i 0)) ∧ Hid (Ar wr bq 42 .u8 B) ∧ Hid (Fr (fun _ => False) w wr)) (fun u11 _ => 32 - (intOf u11).toNat)
  case atStart => exact ⟨0, rfl, by omega, Z3, O3, B3, F4⟩
  case round =>
  clear Z3 O3 B3 F4
  obtain ⟨i, rfl, hi, hZ, hO, hB, hF⟩ := hrel
  by_cases hil : i < 32
  · obtain ⟨x, gx, gb⟩ := HOB.out i hil
    have cB := hB.out.cell gb
    have cO := hO.out.cell (fil_get O i 0 (by have := HO.out.1; omega))
    have fO := hO.out.frozen i
    have O2 := Lib.hid (hO.out.set i x)
    rw [fil_set O i 0 _ gx] at O2
    have j1 : ((i : Int)).toNat = i := by omega
    have j2 : 0 ≤ (i : Int) := by omega
    have j3 : (i : Int) < 32 := by omega
    have j4 : (i : Int) < 64 := by omega
    clear gx gb hO
    go_wp2
    go_roundw
    case rel => exact ⟨i + 1, by go_num, by omega, hZ.out.far (by simp) _, O2, hB.out.far (by simp <;> have := HQ.out <;> omega) _, hF.out.setCell _ (.inr (by simp <;> omega))⟩
    case measure => simp [intOf]; omega
  obtain rfl : i = 32 := by omega
  have O9 : Hid (Ar wr (w.heap.size + 1 + 1 + 1) 28 .u8 O) := by
    have h := hO.out
    have e := fil_all O (0 : Int)
    rw [HO.out.1] at e
    rwa [e] at h
  clear hO hB
  go_upto_region 8 with (fail)
  obtain ⟨V4, rfl⟩ : ∃ wo : World, wo = wr := ⟨_, rfl⟩
  go_upto_region 9 with (go_at_call 43; refine (rfilled_is V4 _ [] g2 A2 m2 c2 ad V4 (Nw.nil V4 V4) (Fr.refl _ _) (H2.out.fr hF.out (fun _ x => x)) (by simp; omega)).mono ?_; rintro e w5 ⟨v5, rfl, hn5, hf5⟩; have N5 := Lib.hid hn5; have G5 := Lib.hid hf5; clear hn5 hf5)
  go_upto_region 10 with (go_at_call 43; refine (rfilled_is V4 _ _ g3 A3 m3 c3 b w5 N5.out G5.out (H3.out.fr (hF.out.trans G5.out) (fun _ x => x)) (by have := LP.out; simp; omega)).mono ?_; rintro e w6 ⟨v6, rfl, hn6, hf6⟩; have N6 := Lib.hid hn6; have G6 := Lib.hid hf6; clear hn6 hf6)
  clear N5 G5
  go_upto_region 11 with (go_at_call 44; refine (rlong_is V4 _ _ m2 w6 N6.out G6.out (by omega) (by have := LP.out; simp; omega)).mono ?_; rintro e w7 ⟨v7, rfl, hn7, hf7⟩; have N7 := Lib.hid hn7; have G7 := Lib.hid hf7; clear hn7 hf7)
  clear N6 G6
  go_upto_region 12 with (go_at_call 44; refine (rlong_is V4 _ _ m3 w7 N7.out G7.out (by omega) (by have := LP.out; simp [les_length]; omega)).mono ?_; rintro e w8 ⟨v8, rfl, hn8, hf8⟩; have N8 := Lib.hid hn8; have G8 := Lib.hid hf8; clear hn8 hf8)
  clear N7 G7
  have O10 := Lib.hid (O9.out.fr G8.out (fun x => x))
  have Z10 := Lib.hid (hZ.out.fr G8.out (fun x => x))
  have F10 := Lib.hid (hF.out.trans G8.out)
  obtain ⟨A8, c8, rfl⟩ := N8.out.shape
  obtain ⟨M, hM⟩ : ∃ M, M = ([] ++ pad ad ++ pad b ++ les 8 (m2 : Int) ++ les 8 (m3 : Int)).length := ⟨_, rfl⟩
  have hMx : Hid (M ≤ 140737488355328) := by
    have := LP.out
    show _ ≤ _
    rw [hM]
    simp [les_length]
    omega
  have S8 : Hid (Sl w8 ((Value.slice A8 M c8).ownBlock.getD 0) (.slice A8 M c8) (((pad ad ++ pad b) ++ les 8 ad.length) ++ les 8 b.length)) := by
    have h := N8.out.1.sl
    rw [← hM, List.nil_append] at h
    rw [L2.out, L3.out]
    exact h
  rw [← hM]
  clear N8 O9 hZ hF G8 hM
  go_upto_region 13 with (first
    | refine wpList_load_row rfl 28 (.tmp 9) rfl (w.heap.size + 1 + 1 + 1) rfl 28 (vs .u8 O) (0, 0) _ O10.out Try.underlying28 rfl sO.out ?_
    | (go_at_call 45; refine (HTC _ _ _ _ _ S8.out hMx.out).mono ?_; rintro e w9 ⟨rfl, hf9⟩; have F9 := Lib.hid hf9; clear hf9)
    | refine wpList_store_row rfl 38 (.tmp 8) (.tmp 41) rfl (w.heap.size + 1 + 1) (vs .u8 t) rfl rfl 38 _ (Z10.out.fr F9.out (fun x => x)) st.out lZ.out (vs_all _ _) ?_)
  refine bodyPost_ret (results_cell_row Try.results31 _ _ _ 38 _ (0, 0) _ rfl (setRow_heap _ _ _ _ _ _ (Z10.out.fr F9.out (fun x => x))) Try.underlying38 rfl st.out) rfl ⟨by rw [HT.out], (F10.out.trans F9.out).setRow _ (.inr (by omega))⟩
end Go.Proofs.Ytbafppdmlhogbaa
