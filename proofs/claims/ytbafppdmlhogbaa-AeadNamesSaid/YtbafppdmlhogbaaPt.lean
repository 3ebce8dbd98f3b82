/- The program's tagOf: the tag of a box's first part and ad: contract. Conditions: a key, a nonce, bytes below 2^20. -/
import Derived.Test.YtbafppdmlhogbaaPe
import Derived.Test.YtbafppdmlhogbaaRse
import Derived.Test.YtbafppdmlhogbaaNw
import Derived.Test.YtbafppdmlhogbaaSu
import Derived.Test.YtbafppdmlhogbaaXe
import Derived.Test.YtbafppdmlhogbaaBl
namespace Go.Proofs.Ytbafppdmlhogbaa
set_option linter.unusedSimpArgs false
set_option linter.unusedVariables false
open Go.ChangeShapes Go.WideShapes Go.ChangeAt Go.RowKit


theorem neg_and (m : Nat) (hm : m ≤ 1000000) : bits .and .i64 (-(m : Int)) 15 = (gap m : Int) := by
  show IntKind.i64.wrap ((BitVec.ofInt 64 (-(m : Int)) &&& BitVec.ofInt 64 15).toNat : Int) = _
  rw [BitVec.toNat_and, show (BitVec.ofInt 64 15).toNat = 2 ^ 4 - 1 from rfl, Nat.and_two_pow_sub_one_eq_mod, BitVec.toNat_ofInt, IntKind.wrap_i64]
  unfold gap
  omega
/-- What is tagged, piece by piece: ad and the first part. -/
def LD (ad b : List Int) (i : Nat) : List Int := if i = 0 then [] else if i = 1 then pad ad else pad ad ++ pad b
/-- Then both lengths. -/
def LE (ad b : List Int) (i : Nat) : List Int := if i = 0 then pad ad ++ pad b else if i = 1 then (pad ad ++ pad b) ++ les 8 ad.length else mac ad b
theorem write_zeros (O D : List Int) (g m : Nat) (w : World) (hk : O.length = 32) (hb : Bys O) (hp : PolyAt w g O D) :
    Calls Try.prog 25 #[.pointer (some ⟨g, 0, none⟩), .slice (some ⟨w.heap.size, 0, none⟩) (gap m) (gap m)] (w.alloc (.cells (vs .u8 (List.replicate (gap m) 0)) 5)) fun e w' => e = .returned (.tuple #[]) ∧ PolyAt w' g O (D ++ List.replicate (gap m) 0) ∧ Fr (fun i => i = g) w w' := by
  have h1 := gap_lt m
  have hlt := hp.lt
  have F : Fr (fun i => i = g) w (w.alloc (.cells (vs .u8 (List.replicate (gap m) 0)) 5)) := (Fr.refl _ _).alloc _
  have S : Sl (w.alloc (.cells (vs .u8 (List.replicate (gap m) 0)) 5)) w.heap.size (.slice (some ⟨w.heap.size, 0, none⟩) (gap m) (gap m)) (List.replicate (gap m) 0) :=
    (Ar.new w 5 .u8 (List.replicate (gap m) 0)).sl (noughts6 _) (by simp) (by unfold maxLen; omega)
  have P : PolyAt (w.alloc (.cells (vs .u8 (List.replicate (gap m) 0)) 5)) g O D := hp.fr (S := fun _ => False) ((Fr.refl _ _).alloc _) (fun x => x)
  refine (write_is O D g w.heap.size _ _ _ _ _ hk hb P S (by omega) (fun _ => by simp)).mono ?_
  rintro e w' ⟨rfl, h2, h3⟩
  exact ⟨rfl, h2, F.trans h3⟩

set_option maxRecDepth 100000 in
set_option maxHeartbeats 16000000 in
theorem tagOf_is (k n : List Int) (g2 : Nat) (A2 : Option Addr) (m2 c2 : Nat) (ad : List Int) (g3 : Nat) (A3 : Option Addr) (m3 c3 : Nat) (b : List Int) (w : World) (hk : k.length = 32) (bk : Bys k) (hn : n.length = 12) (bn : Bys n)
    (h2 : Sl w g2 (.slice A2 m2 c2) ad) (h3 : Sl w g3 (.slice A3 m3 c3) b) (l2 : m2 ≤ 1000000) (l3 : m3 ≤ 1000000) :
    Calls Try.prog 29 #[.agg (vs .u8 k), .agg (vs .u8 n), .slice A2 m2 c2, .slice A3 m3 c3] w fun e w' => e = .returned (.agg (vs .u8 (atag k n ad b))) ∧ Fr (fun _ => False) w w' := by
  obtain ⟨B, hB⟩ : ∃ B, B = bk64 k 0 n := ⟨_, rfl⟩
  obtain ⟨O, hO⟩ : ∃ O, O = otk k n := ⟨_, rfl⟩
  obtain ⟨t, ht⟩ : ∃ t, t = atag k n ad b := ⟨_, rfl⟩
  have lB : Hid (B.length = 64) := by show _ = _; rw [hB]; exact bk64_length hk bk wd0 hn bn
  have HB : ∀ W, Calls Try.prog 23 #[.agg (vs .u8 k), .int .u32 0, .agg (vs .u8 n)] W fun e w' => e = .returned (.agg (vs .u8 B)) ∧ Fr (fun _ => False) W w' := fun W => by rw [hB]; exact blockK_is k 0 n W hk bk wd0 hn bn
  have HO : Hid (O.length = 32 ∧ Bys O) := by rw [hO]; exact ⟨otk_length hk bk hn bn, otk_bys k n⟩
  have HOB : Hid (∀ (j : Nat) (x : Int), O[j]? = some x → B[j]? = some x) := by
    show ∀ (j : Nat) (x : Int), _ → _
    intro j x hj
    have hj2 : j < 32 := by
      have := (List.getElem?_eq_some_iff.1 hj).1
      rw [HO.out.1] at this
      exact this
    rw [hO, otk, ← hB, List.getElem?_take, if_pos hj2] at hj
    exact hj
  have Ht : Hid (t.length = 16) := by show _ = _; rw [ht]; exact atag_length _ _ _ _
  have HT : Hid (t = tag O (mac ad b)) := by show _ = _; rw [ht, atag, hO]
  rw [← ht]
  have sK := Lib.hid (keys_info hk)
  have sN : Hid ((Try.prog.info? 22).map (·.size) = some (vs .u8 n).size) := by show _ = _; rw [size29, vs_size, hn]
  have sO : Hid ((Try.prog.info? 28).map (·.size) = some O.length) := by show _ = _; rw [HO.out.1]; exact size28
  have sB : Hid ((Try.prog.info? 42).map (·.size) = some (vs .u8 B).size) := by show _ = _; rw [size64, vs_size, lB.out]
  have st : Hid ((Try.prog.info? 38).map (·.size) = some (vs .u8 t).size) := tags_info Ht.out
  have L2 := Lib.hid h2.len
  have L3 := Lib.hid h3.len
  have H2 := Lib.hid h2
  have H3 := Lib.hid h3
  obtain ⟨Y, hY⟩ : ∃ Y, Y = List.replicate 64 (0 : Int) := ⟨_, rfl⟩
  obtain ⟨Z, hZ⟩ : ∃ Z, Z = List.replicate 16 (0 : Int) := ⟨_, rfl⟩
  have hz1 : ∀ W : World, (zeroValue 42).run Try.prog W = .ok (.agg (vs .u8 Y)) W := fun W => by rw [hY]; exact zero64 W
  have hz2 : ∀ W : World, (zeroValue 38).run Try.prog W = .ok (.agg (vs .u8 Z)) W := fun W => by rw [hZ]; exact zero26 W
  have lY : Hid ((vs .u8 Y).size = (vs .u8 B).size) := by show _ = _; rw [vs_size, vs_size, hY, lB.out]; rfl
  have lZ : Hid ((vs .u8 Z).size = (vs .u8 t).size) := by show _ = _; rw [vs_size, vs_size, hZ, Ht.out]; rfl
  clear hB hO ht hY hZ hk bk hn bn h2 h3
  go_enter Try.func29, Try.ntmps29
  go_upto_region 1 with (fail)
  generalize hW : ((w.alloc (.cells (vs .u8 k) 28)).alloc (.cells (vs .u8 n) 22)).alloc (.cells (vs .u8 Z) 38) = W0
  have HW := Lib.hid (calm3 hW)
  clear hW hz2
  go_upto_region 2 with (first
    | (go_at_call 23; refine (HB _).mono ?_; rintro e w3 ⟨rfl, hf⟩; have F3 := Lib.hid hf; clear hf)
    | refine wpList_load_row rfl 28 (.tmp 4) rfl (w.heap.size) rfl 28 (vs .u8 k) (0, 0) _ HW.out.1 Try.underlying28 rfl sK.out ?_
    | refine wpList_load_row rfl 22 (.tmp 5) rfl (w.heap.size + 1) rfl 22 (vs .u8 n) (0, 0) _ HW.out.2.1 Try.underlying22 rfl sN.out ?_
    | refine wpList_store_row rfl 42 (.tmp 9) (.tmp 18) rfl w3.heap.size (vs .u8 B) rfl rfl 42 (vs .u8 Y) (heap_alloc_new w3 (.cells (vs .u8 Y) 42)) sB.out lY.out (vs_all _ _) ?_)
  obtain ⟨bq, hbq⟩ : ∃ q, q = w3.heap.size := ⟨_, rfl⟩
  have FQ : Fr (fun _ => False) w3 ((w3.alloc (.cells (vs .u8 Y) 42)).setRow w3.heap.size (vs .u8 B)) := ((Fr.refl _ w3).alloc _).setRow _ (.inr (Nat.le_refl _))
  have Z3 := Lib.hid ((Ar.fr (w := W0) (t := 38) (k := .u8) (l := Z) HW.out.2.2.1 F3.out (fun x => x)).fr FQ (fun x => x))
  have F4 := Lib.hid ((HW.out.2.2.2.trans F3.out).trans FQ)
  have B3 : Hid (Ar ((w3.alloc (.cells (vs .u8 Y) 42)).setRow w3.heap.size (vs .u8 B)) bq 42 .u8 B) := by rw [hbq]; exact (Ar.new w3 42 .u8 Y).row B
  have Q4 : Hid (w.heap.size + 2 < ((w3.alloc (.cells (vs .u8 Y) 42)).setRow w3.heap.size (vs .u8 B)).heap.size) := by
    have h1 := heap_lt HW.out.2.2.1
    have h2 := F3.out.size
    have h3 := FQ.size
    show _ < _
    omega
  rw [← hbq] at Z3 F4 B3 Q4 ⊢
  generalize (w3.alloc (.cells (vs .u8 Y) 42)).setRow bq (vs .u8 B) = W4 at *
  clear FQ hbq HW HB F3
  try simp only [Act.put, List.setIfInBounds_toArray, List.set_cons_succ, List.set_cons_zero]
  go_upto_region 3 with (first
    | refine wpList_plain rfl fun K' hK' => wp_value (.pointer (some ⟨bq, 0, none⟩)) _ (run_arr 28 (.tmp 19) rfl (some ⟨bq, 0, none⟩) 32 64 rfl Try.underlying28 (by decide) W4) (hK' _ _ ?_)
    | refine wpList_mid rfl 28 (.tmp 20) rfl bq 0 rfl .u8 O _ (fun j v hj => ?_) Try.underlying28 rfl sO.out ?_
    | (go_at_call 24; refine (new_is O _ HO.out.1 HO.out.2).mono ?_; rintro e w5 ⟨gp, hgp, rfl, hp5, hf⟩; have P5 := Lib.hid hp5; have F5 := Lib.hid hf; have HGP := Lib.hid hgp; clear hp5 hf hgp))
  · rw [show (vs .u8 O).toList = O.map (Value.int .u8) by simp [vs], List.getElem?_map] at hj
    obtain ⟨x, hx, rfl⟩ := Option.map_eq_some_iff.1 hj
    rw [Nat.zero_add]
    exact B3.out.cell (HOB.out j x hx)
  have PQ : Hid (w.heap.size + 2 < gp) := Nat.lt_of_lt_of_le Q4.out HGP.out
  have F45 := Lib.hid (F4.out.trans F5.out)
  replace Z3 := Lib.hid (Z3.out.fr F5.out (fun x => x))
  obtain ⟨gc2, hgc2, hsc2, _⟩ := (H2.out.fr F4.out (fun _ x => x)).apart (H2.out.fr F4.out (fun _ x => x)).lt6 gp HGP.out
  obtain ⟨gc3, hgc3, hsc3, _⟩ := (H3.out.fr F4.out (fun _ x => x)).apart (H3.out.fr F4.out (fun _ x => x)).lt6 gp HGP.out
  have NE : Hid (gc2 ≠ gp ∧ gc3 ≠ gp) := ⟨hgc2, hgc3⟩
  have S2 := Lib.hid (hsc2.fr F5.out (fun _ x => x))
  have S3 := Lib.hid (hsc3.fr F5.out (fun _ x => x))
  clear hgc2 hgc3 hsc2 hsc3 F4 F5 B3 HGP H2 H3 Q4 HOB sB lY sO sN sK hz1
  go_upto_region 4 with (fail)
  obtain ⟨gr, hgr⟩ : ∃ q, q = w5.heap.size := ⟨_, rfl⟩
  have R5 : Hid ((w5.alloc (.cells #[.slice A2 m2 c2, .slice A3 m3 c3] 29)).heap[gr]? = some (.cells #[.slice A2 m2 c2, .slice A3 m3 c3] 29 (0, 0))) := by rw [hgr]; exact heap_alloc_new w5 _
  have FQ : Fr (fun _ => False) w5 (w5.alloc (.cells #[.slice A2 m2 c2, .slice A3 m3 c3] 29)) := (Fr.refl _ w5).alloc _
  have NR : Hid (gr ≠ gp ∧ w.heap.size + 2 < gr) := by
    have h1 := P5.out.lt
    have h2 := PQ.out
    show _ ∧ _
    omega
  replace Z3 := Lib.hid (Z3.out.fr FQ (fun x => x))
  replace F45 := Lib.hid (F45.out.trans FQ)
  replace P5 := Lib.hid (P5.out.fr FQ (fun x => x))
  replace S2 := Lib.hid (S2.out.fr FQ (fun _ x => x))
  replace S3 := Lib.hid (S3.out.fr FQ (fun _ x => x))
  rw [← hgr]
  generalize w5.alloc (.cells #[.slice A2 m2 c2, .slice A3 m3 c3] 29) = W5 at *
  clear FQ hgr
  have HR : Hid (∀ i : Nat, i < 2 → ∃ gc A m c l, W5.cell? ⟨gr, i, none⟩ = some (.slice A m c) ∧ Sl W5 gc (.slice A m c) l ∧ gc ≠ gp ∧ m ≤ 1000000 ∧ LD ad b (i + 1) = LD ad b i ++ pad l) := by
    show ∀ _, _
    intro i hi
    rcases (by omega : i = 0 ∨ i = 1) with rfl | rfl
    · exact ⟨gc2, A2, m2, c2, ad, cell_of_row _ _ _ _ _ _ R5.out, S2.out, NE.out.1, l2, rfl⟩
    · exact ⟨gc3, A3, m3, c3, b, cell_of_row _ _ _ _ _ _ R5.out, S3.out, NE.out.2, l3, rfl⟩
  clear S2 S3
  go_loopw [12, 27] (fun _ u27 wr => ∃ i : Nat, u27 = .int .i64 i ∧ i ≤ 2 ∧ Hid (PolyAt wr gp O (LD ad b i)) ∧ Hid (Fr (fun j => j = gp) W5 wr)) (fun _ u27 _ => 2 - (intOf u27).toNat)
  case atStart => exact ⟨0, rfl, by omega, P5, Lib.hid (Fr.refl _ _)⟩
  case round =>
  clear P5
  obtain ⟨i, rfl, hi, hP, hF⟩ := hrel
  by_cases hil : i < 2
  · obtain ⟨gc, A, m, c, l, hc, hs, hne, hm, hL⟩ := HR.out i hil
    have cR : wr.cell? ⟨gr, i, none⟩ = some (.slice A m c) := (World.cell?_of_block (w := W5) (hF.out.block gr (heap_lt R5.out) (fun e => NR.out.1 e))).trans hc
    have SC := Lib.hid (hs.fr hF.out (fun _ e => hne e))
    have NC : Hid (gc ≠ gp) := hne
    have HL := Lib.hid hL
    have HM := Lib.hid hm
    have j3 : (i : Int) < 2 := by omega
    have t1 : ((i : Int)).toNat = i := by omega
    have t2 : 0 ≤ (i : Int) := by omega
    clear hc hs hne hm hL
    go_upto_region 6 with (fail)
    have Hm := Lib.hid SC.out.len
    have n1 : IntKind.i64.wrap (-(m : Int)) = -(m : Int) := by have := HM.out; rw [IntKind.wrap_i64]; omega
    have n2 := neg_and m HM.out
    go_upto_region 7 with (go_at_call 25; refine (write_is O (LD ad b i) gp gc A m c l wr HO.out.1 HO.out.2 hP.out SC.out NC.out SC.out.lt6).mono ?_; rintro e w6 ⟨rfl, hp6, hf6⟩; have P6 := Lib.hid hp6; have F6 := Lib.hid hf6; clear hp6 hf6)
    go_upto_region 8 with (first
      | refine wpList_plain rfl fun K' hK' => wp_value _ _ (ms_run (n := gap m) (by have := gap_lt m; omega) rfl rfl rfl) (hK' _ _ ?_)
      | (go_at_call 25; refine (write_zeros O (LD ad b i ++ l) gp m w6 HO.out.1 HO.out.2 P6.out).mono ?_; rintro e w7 ⟨rfl, hp7, hf7⟩; have P7 := Lib.hid hp7; have F7 := Lib.hid hf7; clear hp7 hf7))
    have P8 : Hid (PolyAt w7 gp O (LD ad b (i + 1))) := by
      have h := P7.out
      rw [List.append_assoc] at h
      have e : l ++ List.replicate (gap m) 0 = pad l := by rw [pad, Hm.out]
      rw [e, ← HL.out] at h
      exact h
    have F8 : Hid (Fr (fun j => j = gp) W5 w7) := (hF.out.trans F6.out).trans F7.out
    clear P7 F7 P6 F6 n1 n2 cR SC NC
    go_wp2
    go_roundw
    case rel => exact ⟨i + 1, by go_num, by omega, P8, F8⟩
    case measure => simp [intOf]; omega
  obtain rfl : i = 2 := by omega
  have P9 : Hid (PolyAt wr gp O (LE ad b 0)) := hP.out
  clear hP
  go_upto_region 10 with (fail)
  have F9 : Hid (Fr (fun _ => False) w wr) := F45.out.trans' hF.out (fun j hj e => by have := PQ.out; omega)
  have Z9 : Hid (Ar wr (w.heap.size + 1 + 1) 38 .u8 Z) := Z3.out.fr hF.out (fun e => by have := PQ.out; omega)
  obtain ⟨V, rfl⟩ : ∃ V : World, V = wr := ⟨_, rfl⟩
  clear hF HR R5 NR Z3 F45 NE
  obtain ⟨gs, hgs⟩ : ∃ q, q = V.heap.size := ⟨_, rfl⟩
  have R5 : Hid (Ar (V.alloc (.cells (vs .i64 [(m2 : Int), (m3 : Int)]) 3)) gs 3 .i64 [(m2 : Int), (m3 : Int)]) := by rw [hgs]; exact Ar.new V 3 .i64 _
  have FQ : Fr (fun _ => False) V (V.alloc (.cells (vs .i64 [(m2 : Int), (m3 : Int)]) 3)) := (Fr.refl _ V).alloc _
  have NR : Hid (gs ≠ gp ∧ w.heap.size + 2 < gs) := by
    have h1 := P9.out.lt
    have h2 := PQ.out
    show _ ∧ _
    omega
  replace Z9 := Lib.hid (Z9.out.fr FQ (fun x => x))
  replace F9 := Lib.hid (F9.out.trans FQ)
  replace P9 := Lib.hid (P9.out.fr FQ (fun x => x))
  try simp only [show (Obj.cells #[Value.int .i64 (m2 : Int), Value.int .i64 (m3 : Int)] 3) = .cells (vs .i64 [(m2 : Int), (m3 : Int)]) 3 from rfl]
  rw [← hgs]
  generalize V.alloc (.cells (vs .i64 [(m2 : Int), (m3 : Int)]) 3) = W5 at *
  clear FQ hgs
  have HR : Hid (∀ i : Nat, i < 2 → ∃ m : Nat, [(m2 : Int), (m3 : Int)][i]? = some (m : Int) ∧ m ≤ 1000000 ∧ LE ad b (i + 1) = LE ad b i ++ les 8 (m : Int)) := by
    show ∀ _, _
    intro i hi
    rcases (by omega : i = 0 ∨ i = 1) with rfl | rfl
    · exact ⟨m2, rfl, l2, by rw [← L2.out]; rfl⟩
    · exact ⟨m3, rfl, l3, by rw [← L3.out]; rfl⟩
  obtain ⟨Z8, hZ8⟩ : ∃ Z, Z = List.replicate 8 (0 : Int) := ⟨_, rfl⟩
  have lZ8 : Hid (Z8.length = 8) := by show _ = _; rw [hZ8]; rfl
  have hz8 : ∀ W : World, (zeroValue 53).run Try.prog W = .ok (.agg (vs .u8 Z8)) W := fun W => by rw [hZ8]; exact zero8 W
  clear hZ8
  go_loopw [14, 15, 48] (fun _ _ u48 wr => ∃ i : Nat, u48 = .int .i64 i ∧ i ≤ 2 ∧ Hid (PolyAt wr gp O (LE ad b i)) ∧ Hid (Fr (fun j => j = gp) W5 wr)) (fun _ _ u48 _ => 2 - (intOf u48).toNat)
  case atStart => exact ⟨0, rfl, by omega, P9, Lib.hid (Fr.refl _ _)⟩
  case round =>
  clear P9
  obtain ⟨i, rfl, hi, hP, hF⟩ := hrel
  by_cases hil : i < 2
  · obtain ⟨m, hc, hm, hL⟩ := HR.out i hil
    have cR := (R5.out.fr hF.out NR.out.1).cell hc
    have HL := Lib.hid hL
    have HM := Lib.hid hm
    have j3 : (i : Int) < 2 := by omega
    have t1 : ((i : Int)).toNat = i := by omega
    have t2 : 0 ≤ (i : Int) := by omega
    obtain ⟨E, hE⟩ : ∃ E, E = les 8 (m : Int) := ⟨_, rfl⟩
    have lE : Hid (E.length = 8 ∧ Bys E) := by rw [hE]; exact ⟨les_length _ _, les_bys _ _⟩
    have HE : ∀ W, Calls Try.prog 28 #[.int .i64 (m : Int)] W fun e w' => e = .returned (.agg (vs .u8 E)) ∧ Fr (fun _ => False) W w' := fun W => by rw [hE]; exact eight_is m W (by omega)
    have sE : Hid ((Try.prog.info? 53).map (·.size) = some (vs .u8 E).size) := by show _ = _; rw [size8, vs_size, lE.out.1]
    have eE : Hid ((vs .u8 Z8).size = (vs .u8 E).size) := by show _ = _; rw [vs_size, vs_size, lZ8.out, lE.out.1]
    have hEE := Lib.hid hE
    clear hc hm hL hE
    go_upto_region 13 with (first
      | (go_at_call 28; refine (HE _).mono ?_; rintro e w6 ⟨rfl, hf6⟩; have F6 := Lib.hid hf6; clear hf6)
      | refine wpList_store_row rfl 53 (.tmp 15) (.tmp 53) rfl w6.heap.size (vs .u8 E) rfl rfl 53 (vs .u8 Z8) (heap_alloc_new w6 (.cells (vs .u8 Z8) 53)) sE.out eE.out (vs_all _ _) ?_)
    obtain ⟨ge, hge⟩ : ∃ q, q = w6.heap.size := ⟨_, rfl⟩
    have FQ : Fr (fun _ => False) w6 ((w6.alloc (.cells (vs .u8 Z8) 53)).setRow w6.heap.size (vs .u8 E)) := ((Fr.refl _ w6).alloc _).setRow _ (.inr (Nat.le_refl _))
    have E7 : Hid (Ar ((w6.alloc (.cells (vs .u8 Z8) 53)).setRow w6.heap.size (vs .u8 E)) ge 53 .u8 E) := by rw [hge]; exact (Ar.new w6 53 .u8 Z8).row E
    have NG : Hid (ge ≠ gp) := by
      have h1 := hP.out.lt
      have h2 := F6.out.size
      show ge ≠ gp
      omega
    have P7 := Lib.hid ((hP.out.fr F6.out (fun x => x)).fr FQ (fun x => x))
    have F7 := Lib.hid (hF.out.trans ((F6.out.trans FQ).any))
    rw [← hge] at E7 P7 F7 ⊢
    generalize (w6.alloc (.cells (vs .u8 Z8) 53)).setRow ge (vs .u8 E) = W7 at *
    clear FQ hge hF hP F6 cR
    try simp only [Act.put, List.setIfInBounds_toArray, List.set_cons_succ, List.set_cons_zero]
    have S7 : Hid (Sl W7 ge (.slice (some ⟨ge, 0, none⟩) 8 8) E) := E7.out.slt lE.out.2 lE.out.1 (by decide)
    go_upto_region 14 with (go_at_call 25; refine (write_is O (LE ad b i) gp ge _ 8 8 E W7 HO.out.1 HO.out.2 P7.out S7.out NG.out S7.out.lt6).mono ?_; rintro e w8 ⟨rfl, hp8, hf8⟩; have P8 := Lib.hid hp8; have F8 := Lib.hid hf8; clear hp8 hf8)
    have P9 : Hid (PolyAt w8 gp O (LE ad b (i + 1))) := by
      have h := P8.out
      rw [hEE.out, ← HL.out] at h
      exact h
    have F9 : Hid (Fr (fun j => j = gp) W5 w8) := F7.out.trans F8.out
    clear P7 F7 P8 F8 S7 E7
    go_wp2
    go_roundw
    case rel =>
      refine ⟨_, _, _, _, _, _, _, _, _, _, _, _, ?_, rfl⟩
      exact ⟨i + 1, by go_num, by omega, P9, F9⟩
    case measure => simp [intOf]; omega
  obtain rfl : i = 2 := by omega
  have PZ : Hid (PolyAt wr gp O (mac ad b)) := hP.out
  have FZ : Hid (Fr (fun _ => False) w wr) := F9.out.trans' hF.out (fun j hj e => by have := PQ.out; omega)
  have ZZ : Hid (Ar wr (w.heap.size + 1 + 1) 38 .u8 Z) := Z9.out.fr hF.out (fun e => by have := PQ.out; omega)
  clear hP hF F9 Z9
  go_wp2_with (first
    | (go_at_call 26; refine (sum_is O (mac ad b) gp wr HO.out.1 HO.out.2 PZ.out).mono ?_; rw [← HT.out]; rintro e w9 ⟨rfl, hf9⟩)
    | refine wpList_store_row rfl 38 (.tmp 8) (.tmp 59) rfl (w.heap.size + 1 + 1) (vs .u8 t) rfl rfl 38 _ (ZZ.out.fr hf9 (fun x => x)) st.out lZ.out (vs_all _ _) ?_)
  refine bodyPost_ret (results_cell_row Try.results29 _ _ _ 38 _ (0, 0) _ rfl (setRow_heap _ _ _ _ _ _ (ZZ.out.fr hf9 (fun x => x))) Try.underlying38 rfl st.out) rfl ⟨rfl, (FZ.out.trans hf9).setRow _ (.inr (by omega))⟩
end Go.Proofs.Ytbafppdmlhogbaa
