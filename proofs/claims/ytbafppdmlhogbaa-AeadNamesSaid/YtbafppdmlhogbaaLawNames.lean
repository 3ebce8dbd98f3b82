/- AeadNames answers true: the given statement AeadNamesSaid. No condition. -/
import Derived.Test.YtbafppdmlhogbaaLawSeals
import Derived.Test.YtbafppdmlhogbaaLawOpens
import Derived.Test.YtbafppdmlhogbaaLawBack
import Derived.Test.YtbafppdmlhogbaaLawOnce
import Derived.Test.YtbafppdmlhogbaaLawNonce
import Derived.Test.YtbafppdmlhogbaaLawTag
namespace Go.Proofs.Ytbafppdmlhogbaa
set_option linter.unusedSimpArgs false
set_option linter.unusedVariables false
open Go.ChangeShapes Go.WideShapes Go.ChangeAt Go.RowKit

/-- The usual box, one bit turned. -/
def fl (i : Nat) : List Int := (ux ++ uh2).set i (bits .xor .u8 ((ux ++ uh2).getD i 0) 1)
set_option maxRecDepth 100000 in
theorem flips : ∀ i, i < 130 → tag ub0 (mac uad ((fl i).take 114)) ≠ (fl i).drop 114 := by decide +kernel
theorem fl_length (i : Nat) : (fl i).length = 130 := by rw [fl, List.length_set]; rfl
theorem fl_open (i : Nat) (h : i < 130) : openv uk un uad (fl i) = ([], 60) := by
  have e := openv_end (k := uk) (n := un) (ad := uad) (X := (fl i).take 114) (t := (fl i).drop 114) (by decide) (by rw [List.length_take, fl_length]; decide) (by rw [List.length_drop, fl_length])
  rw [List.take_append_drop] at e
  rw [e, if_neg]
  rw [atag, ub0_is]
  exact flips i h
theorem wpList_build_w {P : Program} {ops : Array Oper} {rest : List Oper} {o : Oper} {a : Act} {w : World} {Q : Exit → Act → World → Prop} (hw : Region.wanted o (yielded ops a.tmps) = true) (ty : TypeId) (ho : ∃ ps, o.op = .build ty ps)
    (v : Value) (w2 : World) (h : (execOp a.eval o).run P w = .ok (.value v) w2) (hk : wpList P ops Q rest (a.put o.dst v) w2) : wpList P ops Q (o :: rest) a w :=
  wpList_wanted hw fun _ hK => wp_value v w2 h (hK _ _ hk)
def lens : List Int := [0, 1, 15, 16, 17, 63, 64, 65, 128, 4095, 4096, 4097, 4112, 4113]
theorem lens_get : ∀ i : Nat, i < 14 → ∃ n : Nat, lens[i]? = some (n : Int) ∧ n ≤ 4113 := by
  have h : ∀ i : Nat, i < 14 → lens[i]? = some (((lens.getD i 0).toNat : Nat) : Int) ∧ (lens.getD i 0).toNat ≤ 4113 := by decide +kernel
  exact fun i hi => ⟨_, (h i hi).1, (h i hi).2⟩
theorem ainn_seta {k n : List Int} {x y : Value} (hk : k.length = 32) (hn : n.length = 12) (z : Value) : (ainn k n x y).setIfInBounds 44 z = ainn k n z y := by
  apply Array.toList_inj.1
  simp only [ainn, Array.toList_setIfInBounds]
  rw [List.set_append_right _ _ (by simp [hk]), List.set_append_right _ _ (by simp [hk, hn])]
  simp [hk, hn]
theorem n258 : noncev 258 = ([0, 0, 0, 0, 2, 1, 0, 0, 0, 0, 0, 0], 0) := by decide +kernel
set_option maxRecDepth 100000 in
set_option maxHeartbeats 64000000 in
theorem law_names_any (w : World) : Calls Try.prog 12 #[] w fun e w' => e = .returned (.bool true) ∧ Fr (fun _ => False) w w' := by
  obtain ⟨UB, hUB⟩ : ∃ x, x = ux ++ uh2 := ⟨_, rfl⟩
  have lUB : Hid (UB.length = 130 ∧ Bys UB) := by
    rw [hUB, ← ub_is]
    exact ⟨ub_length, box_bys utx_bys⟩
  have CS : ∀ W g2 c2 g3 c3, Sl W g2 (.slice (some ⟨g2, 0, none⟩) 12 c2) uad → Sl W g3 (.slice (some ⟨g3, 0, none⟩) 114 c3) utx → Calls Try.prog 16 #[.agg (vs .u8 uk), .agg (vs .u8 un), .slice (some ⟨g2, 0, none⟩) 12 c2, .slice (some ⟨g3, 0, none⟩) 114 c3] W fun e w' => ∃ v, e = .returned (.tuple #[v, .int .i64 0]) ∧ Nw W w' v UB ∧ Fr (fun _ => False) W w' := fun W g2 c2 g3 c3 h2 h3 => by
    have h := seal_is uk un g2 _ 12 c2 uad g3 _ 114 c3 utx W rfl uk_bys rfl un_bys h2 h3
    rw [ub_sealv, ub_is, ← hUB] at h
    exact h
  obtain ⟨FL, hFL⟩ : ∃ x, x = fl := ⟨_, rfl⟩
  have FLi : Unit → ∀ i, UB.set i (bits .xor .u8 (UB.getD i 0) 1) = FL i := fun _ i => by rw [hFL, hUB]; rfl
  have CO : ∀ i, i < 130 → ∀ W g2 c2 g3 A3 m3 c3, Sl W g2 (.slice (some ⟨g2, 0, none⟩) 12 c2) uad → Sl W g3 (.slice A3 m3 c3) (FL i) → Calls Try.prog 19 #[.agg (vs .u8 uk), .agg (vs .u8 un), .slice (some ⟨g2, 0, none⟩) 12 c2, .slice A3 m3 c3] W fun e w' => ∃ v, e = .returned (.tuple #[v, .int .i64 60]) ∧ Nw W w' v [] ∧ Fr (fun _ => False) W w' := fun i hi W g2 c2 g3 A3 m3 c3 h2 h3 => by
    have h := open_is uk un g2 _ 12 c2 uad g3 A3 m3 c3 (FL i) W rfl uk_bys rfl un_bys h2 h3
    rw [hFL, fl_open i hi] at h
    exact h
  have HO : ∀ W A m s g l B p r h t', Sl W g (.slice A m s) l → Sl W h (.slice B p r) t' → m ≤ 140737488351232 → p ≤ 140737488351232 → Calls Try.prog 5 #[.agg (ainn uk un (.slice A m s) (.slice B p r))] W fun e w' => e = .returned (.bool true) ∧ Fr (fun _ => False) W w' := fun W A m s g l B p r h t' h1 h2 h3 h4 => law_opens_any uk un A m s g l B p r h t' W rfl uk_bys rfl un_bys h1 h2 h3 h4
  have HS : ∀ W A m s g l B p r h t', Sl W g (.slice A m s) l → Sl W h (.slice B p r) t' → m ≤ 140737488351232 → p ≤ 140737488351232 → Calls Try.prog 4 #[.agg (ainn uk un (.slice A m s) (.slice B p r))] W fun e w' => e = .returned (.bool true) ∧ Fr (fun _ => False) W w' := fun W A m s g l B p r h t' h1 h2 h3 h4 => law_seals_any uk un A m s g l B p r h t' W rfl uk_bys rfl un_bys h1 h2 h3 h4
  have HB : ∀ W A m s g l B p r h t', Sl W g (.slice A m s) l → Sl W h (.slice B p r) t' → m ≤ 140737488351232 → p ≤ 140737488351232 → Calls Try.prog 6 #[.agg (ainn uk un (.slice A m s) (.slice B p r))] W fun e w' => e = .returned (.bool true) ∧ Fr (fun _ => False) W w' := fun W A m s g l B p r h t' h1 h2 h3 h4 => law_back_any uk un A m s g l B p r h t' W rfl uk_bys rfl un_bys h1 h2 h3 h4
  have HC : ∀ W A m s g l B p r h t', Sl W g (.slice A m s) l → Sl W h (.slice B p r) t' → m ≤ 140737488351232 → p ≤ 140737488351232 → Calls Try.prog 7 #[.agg (ainn uk un (.slice A m s) (.slice B p r))] W fun e w' => e = .returned (.bool true) ∧ Fr (fun _ => False) W w' := fun W A m s g l B p r h t' h1 h2 h3 h4 => law_once_any uk un A m s g l B p r h t' W rfl uk_bys rfl un_bys h1 h2 h3 h4
  have CU := usual_is
  obtain ⟨UK, hUK⟩ : ∃ x, x = uk := ⟨_, rfl⟩
  obtain ⟨UN, hUN⟩ : ∃ x, x = un := ⟨_, rfl⟩
  obtain ⟨UA, hUA⟩ : ∃ x, x = uad := ⟨_, rfl⟩
  obtain ⟨UT, hUT⟩ : ∃ x, x = utx := ⟨_, rfl⟩
  obtain ⟨LN, hLN⟩ : ∃ x, x = lens := ⟨_, rfl⟩
  have lK : Hid (UK.length = 32) := by show _ = _; rw [hUK]; rfl
  have lN : Hid (UN.length = 12) := by show _ = _; rw [hUN]; rfl
  have gLN : Hid (∀ i : Nat, i < 14 → ∃ n : Nat, LN[i]? = some (n : Int) ∧ n ≤ 4113) := by show ∀ _, _; rw [hLN]; exact lens_get
  have HLN : Unit → LN = lens := fun _ => hLN
  rw [← hUK, ← hUN] at CS CU CO HO HS HB HC
  rw [← hUA] at CS CU CO
  rw [← hUT] at CS CU
  have hz : ∀ W : World, (zeroValue 31).run Try.prog W = .ok (.agg (ainn (List.replicate 32 0) (List.replicate 12 0) (.slice none 0 0) (.slice none 0 0))) W := fun _ => by kernel_rfl
  obtain ⟨Z, hZ⟩ : ∃ x, x = ainn (List.replicate 32 0) (List.replicate 12 0) (.slice none 0 0) (.slice none 0 0) := ⟨_, rfl⟩
  rw [← hZ] at hz
  have sZ : Hid (Z.size = 46) := by show _ = _; rw [hZ]; rfl
  have sN : Hid ((Try.prog.info? 22).map (·.size) = some UN.length) := by show _ = _; rw [size29, lN.out]
  have sK : Hid ((Try.prog.info? 28).map (·.size) = some UK.length) := by show _ = _; rw [size28, lK.out]
  have sI : Hid (∀ x y, (Try.prog.info? 31).map (·.size) = some (ainn UK UN x y).size) := by show ∀ _, _; intro x y; rw [ainn_size lK.out lN.out]; exact info_in
  have zI : Hid (∀ x y, Z.size = (ainn UK UN x y).size) := by show ∀ _, _; intro x y; rw [ainn_size lK.out lN.out, sZ.out]
  have HHO := Lib.hid HO
  have HHS := Lib.hid HS
  have HHB := Lib.hid HB
  have HHC := Lib.hid HC
  have HCO := Lib.hid CO
  clear hUB hFL hUK hUN hUA hUT hLN hZ sZ HO HS HB HC CO
  go_enter Try.func12, Try.ntmps12
  go_upto_region 2 with (first
    | (go_at_call 27; refine (CU _).mono ?_; rintro e w1 ⟨g2, c2, g3, c3, rfl, h2, h3, hf⟩; have S2 := Lib.hid h2; have S3 := Lib.hid h3; have F1 := Lib.hid hf; clear h2 h3 hf)
    | refine wpList_store_row rfl 31 (.tmp 1) (.tmp 14) rfl w1.heap.size (ainn UK UN (.slice (some ⟨g2, 0, none⟩) 12 c2) (.slice (some ⟨g3, 0, none⟩) 114 c3)) rfl rfl 31 Z (heap_alloc_new w1 _) (sI.out _ _) (zI.out _ _) (ainn_all _ _ _ _ _ _) ?_)
  obtain ⟨q1, hq⟩ : ∃ q, q = w1.heap.size := ⟨_, rfl⟩
  have X1 : Hid (((w1.alloc (.cells Z 31)).setRow w1.heap.size (ainn UK UN (.slice (some ⟨g2, 0, none⟩) 12 c2) (.slice (some ⟨g3, 0, none⟩) 114 c3))).heap[q1]? = some (.cells (ainn UK UN (.slice (some ⟨g2, 0, none⟩) 12 c2) (.slice (some ⟨g3, 0, none⟩) 114 c3)) 31 (0, 0))) := by
    rw [hq]
    exact setRow_heap _ _ _ _ _ _ (heap_alloc_new w1 _)
  have FQ : Fr (fun _ => False) w1 ((w1.alloc (.cells Z 31)).setRow w1.heap.size (ainn UK UN (.slice (some ⟨g2, 0, none⟩) 12 c2) (.slice (some ⟨g3, 0, none⟩) 114 c3))) := ((Fr.refl _ _).alloc _).setRow _ (.inr (Nat.le_refl _))
  replace S2 := Lib.hid (S2.out.fr FQ (fun _ x => x))
  replace S3 := Lib.hid (S3.out.fr FQ (fun _ x => x))
  have F2 := Lib.hid (F1.out.trans FQ)
  rw [← hq] at X1 S2 S3 F2 ⊢
  generalize (w1.alloc (.cells Z 31)).setRow q1 (ainn UK UN (.slice (some ⟨g2, 0, none⟩) 12 c2) (.slice (some ⟨g3, 0, none⟩) 114 c3)) = W2 at *
  have cA := ainn_ad lK.out lN.out X1.out
  have cB := ainn_b lK.out lN.out X1.out
  clear FQ hq F1 CU
  try simp only [Act.put, List.setIfInBounds_toArray, List.set_cons_succ, List.set_cons_zero]
  go_upto_region 3 with (first
    | refine wpList_mid rfl 28 (.tmp 16) rfl q1 0 rfl .u8 UK _ (ainn_key lK.out X1.out) Try.underlying28 rfl sK.out ?_
    | refine wpList_mid rfl 22 (.tmp 18) rfl q1 32 rfl .u8 UN _ (ainn_nonce lK.out X1.out) Try.underlying22 rfl sN.out ?_
    | (go_at_call 16; refine (CS _ _ _ _ _ S2.out S3.out).mono ?_; rintro e w3 ⟨v3, rfl, hn3, hf⟩; have N3 := Lib.hid hn3; have G3 := Lib.hid hf; clear hn3 hf))
  obtain ⟨gb, cb, rfl, hge, hcb, hsb⟩ := N3.out.open (by have := lUB.out.1; omega)
  rw [lUB.out.1] at hsb hcb ⊢
  have SB := Lib.hid hsb
  replace S2 := Lib.hid (S2.out.fr G3.out (fun _ x => x))
  replace S3 := Lib.hid (S3.out.fr G3.out (fun _ x => x))
  replace X1 := Lib.hid (Calm.at X1.out G3.out)
  have F3 := Lib.hid (F2.out.trans G3.out)
  clear hge hsb N3 G3 F2 CS cA cB
  go_upto_region 4 with (first
    | refine wpList_load_row rfl 31 (.tmp 1) rfl q1 rfl 31 (ainn UK UN (.slice (some ⟨g2, 0, none⟩) 12 c2) (.slice (some ⟨g3, 0, none⟩) 114 c3)) (0, 0) _ X1.out Try.underlying31 rfl (sI.out _ _) ?_
    | refine wpList_store_row rfl 31 (.tmp 4) (.tmp 27) rfl w3.heap.size (ainn UK UN (.slice (some ⟨g2, 0, none⟩) 12 c2) (.slice (some ⟨g3, 0, none⟩) 114 c3)) rfl rfl 31 Z (heap_alloc_new w3 _) (sI.out _ _) (zI.out _ _) (ainn_all _ _ _ _ _ _) ?_)
  obtain ⟨q4, hq⟩ : ∃ q, q = w3.heap.size := ⟨_, rfl⟩
  have Y0 : Hid (((w3.alloc (.cells Z 31)).setRow w3.heap.size (ainn UK UN (.slice (some ⟨g2, 0, none⟩) 12 c2) (.slice (some ⟨g3, 0, none⟩) 114 c3))).heap[q4]? = some (.cells (ainn UK UN (.slice (some ⟨g2, 0, none⟩) 12 c2) (.slice (some ⟨g3, 0, none⟩) 114 c3)) 31 (0, 0))) := by
    rw [hq]
    exact setRow_heap _ _ _ _ _ _ (heap_alloc_new w3 _)
  have FQ : Fr (fun _ => False) w3 ((w3.alloc (.cells Z 31)).setRow w3.heap.size (ainn UK UN (.slice (some ⟨g2, 0, none⟩) 12 c2) (.slice (some ⟨g3, 0, none⟩) 114 c3))) := ((Fr.refl _ _).alloc _).setRow _ (.inr (Nat.le_refl _))
  have NE : Hid (g2 ≠ q4 ∧ g3 ≠ q4 ∧ gb ≠ q4 ∧ q1 ≠ q4 ∧ w.heap.size ≤ q4) := by
    have h1 := S2.out.lt6 (fun e => by have := S2.out.len; rw [e] at this; simp at this)
    have h2 := S3.out.lt6 (fun e => by have := S3.out.len; rw [e] at this; simp at this)
    have h3 := SB.out.lt6 (fun e => by have := SB.out.len; rw [e] at this; simp at this)
    have h4 := heap_lt X1.out
    have h5 := F3.out.size
    show _ ∧ _
    omega
  replace S2 := Lib.hid (S2.out.fr FQ (fun _ x => x))
  replace S3 := Lib.hid (S3.out.fr FQ (fun _ x => x))
  replace SB := Lib.hid (SB.out.fr FQ (fun _ x => x))
  replace X1 := Lib.hid (Calm.at X1.out FQ)
  have F4 := Lib.hid (F3.out.trans FQ)
  rw [← hq] at Y0 S2 S3 SB X1 F4 ⊢
  generalize (w3.alloc (.cells Z 31)).setRow q4 (ainn UK UN (.slice (some ⟨g2, 0, none⟩) 12 c2) (.slice (some ⟨g3, 0, none⟩) 114 c3)) = W4 at *
  clear FQ hq F3
  try simp only [Act.put, List.setIfInBounds_toArray, List.set_cons_succ, List.set_cons_zero]
  have hc130 : (130 : Int) ≤ cb := by omega
  have HW4 := Lib.hid (heap_lt Y0.out)
  go_upto_region 5 with (fail)
  go_loopw [5] (fun u5 wr => ∃ (i : Nat) (B : Option Addr) (p r : Nat), u5 = .int .i64 i ∧ i ≤ 130 ∧ Hid (wr.heap[q4]? = some (.cells (ainn UK UN (.slice (some ⟨g2, 0, none⟩) 12 c2) (.slice B p r)) 31 (0, 0))) ∧ Hid (Fr (fun k => k = q4) W4 wr)) (fun u5 _ => 130 - (intOf u5).toNat)
  case atStart => exact ⟨0, _, _, _, rfl, by omega, Y0, Fr.refl _ _⟩
  case round =>
  clear Y0
  obtain ⟨i, Bq, pq, rq, rfl, hi, hY, hG⟩ := hrel
  by_cases hil : i < 130
  · have j3 : (i : Int) < 130 := by omega
    have j1 : ((i : Int)).toNat = i := by omega
    have j2 : 0 ≤ (i : Int) := by omega
    have j4 : (i : Int) ≤ 130 := by omega
    have j5 : (i : Int) ≤ cb := by omega
    go_upto_region 8 with (go_at_call 15; refine (copy_new wr wr (SB.out.fr hG.out (fun _ => NE.out.2.2.1)) (by omega) (Fr.refl _ _)).mono ?_; rintro e w6 ⟨v6, rfl, hn6, hf⟩; have N6 := Lib.hid hn6; have G6 := Lib.hid hf; clear hn6 hf)
    obtain ⟨g6, c6, rfl, c61, f61, lg6, sl6⟩ := N6.out.1.setSl i (by have := lUB.out.1; omega) (bits .xor .u8 (UB.getD i 0) 1) (x8_by (lUB.out.2 _ (List.mem_of_getElem? (getD_some (by have := lUB.out.1; omega)))) (by omega))
    rw [FLi () i] at sl6
    obtain ⟨x, hx⟩ : ∃ x, x = UB.getD i 0 := ⟨_, rfl⟩
    rw [← hx] at c61 sl6
    obtain ⟨y, hy⟩ : ∃ y, bits .xor .u8 x 1 = y := ⟨_, rfl⟩
    rw [hy] at sl6
    rw [lUB.out.1] at sl6 ⊢
    have hg6 : wr.heap.size ≤ g6 := N6.out.2 g6 rfl
    have NG : Hid (g6 ≠ q4 ∧ W4.heap.size ≤ g6 ∧ w.heap.size ≤ g6) := by
      have h1 := hG.out.size
      have h2 := HW4.out
      have h3 := NE.out.2.2.2.2
      show _ ∧ _
      omega
    have FR7 : Hid (Fr (fun k => k = q4) W4 (w6.setCell ⟨g6, i, none⟩ (.int .u8 y))) := (hG.out.trans G6.out.any).setCell _ (.inr NG.out.2.1)
    have Y7 : Hid ((w6.setCell ⟨g6, i, none⟩ (.int .u8 y)).heap[q4]? = some (.cells (ainn UK UN (.slice (some ⟨g2, 0, none⟩) 12 c2) (.slice Bq pq rq)) 31 (0, 0))) := (heap_setCell_other _ _ _ _ (fun e => NG.out.1 e.symm)).trans (Calm.at hY.out G6.out)
    have SL7 := Lib.hid sl6
    clear hx hg6 sl6 N6 G6 hY lg6
    go_upto_region 9 with (fail)
    clear hy c61 f61
    generalize w6.setCell ⟨g6, i, none⟩ (.int .u8 y) = W7 at *
    have cQ : W7.cell? ⟨q4, 45, none⟩ = some (.slice Bq pq rq) := ainn_b lK.out lN.out Y7.out
    have fQ : W7.frozen? ⟨q4, 45, none⟩ = false := frozen_of_row _ _ _ _ _ Y7.out
    have Y8 : Hid ((W7.setCell ⟨q4, 45, none⟩ (.slice (some ⟨g6, 0, none⟩) 130 c6)).heap[q4]? = some (.cells (ainn UK UN (.slice (some ⟨g2, 0, none⟩) 12 c2) (.slice (some ⟨g6, 0, none⟩) 130 c6)) 31 (0, 0))) := by
      have h := heap_setCell_same W7 q4 45 _ _ (.slice (some ⟨g6, 0, none⟩) 130 c6) Y7.out
      rwa [ainn_setb lK.out lN.out] at h
    have FR8 : Hid (Fr (fun k => k = q4) W4 (W7.setCell ⟨q4, 45, none⟩ (.slice (some ⟨g6, 0, none⟩) 130 c6))) := FR7.out.setCell _ (.inl rfl)
    have FS8 : Fr (fun k => k = q4) W7 (W7.setCell ⟨q4, 45, none⟩ (.slice (some ⟨g6, 0, none⟩) 130 c6)) := (Fr.refl _ _).setCell _ (.inl rfl)
    have SL8 := Lib.hid (SL7.out.fr FS8 (fun _ => NG.out.1))
    clear FS8
    go_upto_region 10 with (fail)
    generalize W7.setCell ⟨q4, 45, none⟩ (.slice (some ⟨g6, 0, none⟩) 130 c6) = W8 at *
    clear cQ fQ Y7 FR7 SL7
    have X8 : Hid (W8.heap[q1]? = some (.cells (ainn UK UN (.slice (some ⟨g2, 0, none⟩) 12 c2) (.slice (some ⟨g3, 0, none⟩) 114 c3)) 31 (0, 0))) := (FR8.out.block _ (heap_lt X1.out) (fun e => NE.out.2.2.2.1 e)).trans X1.out
    have S8 := Lib.hid (S2.out.fr FR8.out (fun _ => NE.out.1))
    have cA := ainn_ad lK.out lN.out X8.out
    have cB := ainn_b lK.out lN.out X8.out
    go_upto_region 11 with (first
      | refine wpList_mid rfl 28 (.tmp 47) rfl q1 0 rfl .u8 UK _ (ainn_key lK.out X8.out) Try.underlying28 rfl sK.out ?_
      | refine wpList_mid rfl 22 (.tmp 49) rfl q1 32 rfl .u8 UN _ (ainn_nonce lK.out X8.out) Try.underlying22 rfl sN.out ?_
      | (go_at_call 19; refine (HCO.out i hil _ _ _ _ _ _ _ S8.out SL8.out).mono ?_; rintro e w9 ⟨v9, rfl, hn9, hf⟩; have G9 := Lib.hid hf; clear hn9 hf))
    replace Y8 := Lib.hid (Calm.at Y8.out G9.out)
    replace SL8 := Lib.hid (SL8.out.fr G9.out (fun _ x => x))
    have FR9 := Lib.hid (FR8.out.trans G9.out.any)
    clear cA cB X8 S8 FR8 G9
    have tk1 : True := trivial
    go_upto_region 13 with (first
      | (clear tk1; refine wpList_load_row_w rfl 31 (.tmp 4) rfl q4 rfl 31 (ainn UK UN (.slice (some ⟨g2, 0, none⟩) 12 c2) (.slice (some ⟨g6, 0, none⟩) 130 c6)) (0, 0) _ Y8.out Try.underlying31 rfl (sI.out _ _) ?_)
      | (go_at_call 5; refine (HHO.out _ _ _ _ _ _ _ _ _ _ _ (S2.out.fr FR9.out (fun _ => NE.out.1)) SL8.out (by omega) (by omega)).mono ?_; rintro e w10 ⟨rfl, hf⟩; have G10 := Lib.hid hf; clear hf)
      | refine wpList_load_row_w rfl 31 (.tmp 4) rfl q4 rfl 31 (ainn UK UN (.slice (some ⟨g2, 0, none⟩) 12 c2) (.slice (some ⟨g6, 0, none⟩) 130 c6)) (0, 0) _ (Calm.at Y8.out G10.out) Try.underlying31 rfl (sI.out _ _) ?_
      | (go_at_call 7; refine (HHC.out _ _ _ _ _ _ _ _ _ _ _ (S2.out.fr (FR9.out.trans G10.out.any) (fun _ => NE.out.1)) (SL8.out.fr G10.out (fun _ x => x)) (by omega) (by omega)).mono ?_; rintro e w11 ⟨rfl, hf⟩; have G11 := Lib.hid (G10.out.trans hf); clear hf))
    replace Y8 := Lib.hid (Calm.at Y8.out G11.out)
    have FR11 := Lib.hid (FR9.out.trans G11.out.any)
    clear SL8 FR9 G10 G11
    have cQ := ainn_b lK.out lN.out Y8.out
    have fQ : w11.frozen? ⟨q4, 45, none⟩ = false := frozen_of_row _ _ _ _ _ Y8.out
    have Y12 : Hid ((w11.setCell ⟨q4, 45, none⟩ (.slice (some ⟨gb, 0, none⟩) i cb)).heap[q4]? = some (.cells (ainn UK UN (.slice (some ⟨g2, 0, none⟩) 12 c2) (.slice (some ⟨gb, 0, none⟩) i cb)) 31 (0, 0))) := by
      have h := heap_setCell_same w11 q4 45 _ _ (.slice (some ⟨gb, 0, none⟩) i cb) Y8.out
      rwa [ainn_setb lK.out lN.out] at h
    have FR12 : Hid (Fr (fun k => k = q4) W4 (w11.setCell ⟨q4, 45, none⟩ (.slice (some ⟨gb, 0, none⟩) i cb))) := FR11.out.setCell _ (.inl rfl)
    go_upto_region 14 with (fail)
    generalize w11.setCell ⟨q4, 45, none⟩ (.slice (some ⟨gb, 0, none⟩) i cb) = W12 at *
    clear cQ fQ Y8 FR11
    have SB12 : Hid (Sl W12 gb (.slice (some ⟨gb, 0, none⟩) i cb) (UB.take i)) := (SB.out.fr FR12.out (fun _ => NE.out.2.2.1)).take i (by have := lUB.out.1; omega)
    go_wp2_with (first
      | refine wpList_load_row rfl 31 (.tmp 4) rfl q4 rfl 31 (ainn UK UN (.slice (some ⟨g2, 0, none⟩) 12 c2) (.slice (some ⟨gb, 0, none⟩) i cb)) (0, 0) _ Y12.out Try.underlying31 rfl (sI.out _ _) ?_
      | (go_at_call 5; refine (HHO.out _ _ _ _ _ _ _ _ _ _ _ (S2.out.fr FR12.out (fun _ => NE.out.1)) SB12.out (by omega) (by omega)).mono ?_; rintro e w13 ⟨rfl, hf⟩; have G13 := Lib.hid hf; clear hf))
    go_roundw
    case rel => exact ⟨i + 1, _, _, _, by go_num, by omega, Calm.at Y12.out G13.out, FR12.out.trans G13.out.any⟩
    case measure => simp [intOf]; omega
  obtain rfl : i = 130 := by omega
  obtain ⟨W5, rfl⟩ : ∃ wo : World, wo = wr := ⟨_, rfl⟩
  clear hi hil
  have cQ := ainn_b lK.out lN.out hY.out
  have fQ : W5.frozen? ⟨q4, 45, none⟩ = false := frozen_of_row _ _ _ _ _ hY.out
  have Y6 : Hid ((W5.setCell ⟨q4, 45, none⟩ (.slice (some ⟨gb, 0, none⟩) 130 cb)).heap[q4]? = some (.cells (ainn UK UN (.slice (some ⟨g2, 0, none⟩) 12 c2) (.slice (some ⟨gb, 0, none⟩) 130 cb)) 31 (0, 0))) := by
    have h := heap_setCell_same W5 q4 45 _ _ (.slice (some ⟨gb, 0, none⟩) 130 cb) hY.out
    rwa [ainn_setb lK.out lN.out] at h
  have FR6 : Hid (Fr (fun k => k = q4) W4 (W5.setCell ⟨q4, 45, none⟩ (.slice (some ⟨gb, 0, none⟩) 130 cb))) := hG.out.setCell _ (.inl rfl)
  go_upto_region 17 with (fail)
  generalize W5.setCell ⟨q4, 45, none⟩ (.slice (some ⟨gb, 0, none⟩) 130 cb) = W6 at *
  clear cQ fQ hY hG
  have X6 : Hid (W6.heap[q1]? = some (.cells (ainn UK UN (.slice (some ⟨g2, 0, none⟩) 12 c2) (.slice (some ⟨g3, 0, none⟩) 114 c3)) 31 (0, 0))) := (FR6.out.block _ (heap_lt X1.out) (fun e => NE.out.2.2.2.1 e)).trans X1.out
  have cA := ainn_ad lK.out lN.out X6.out
  have cQ := ainn_ad lK.out lN.out Y6.out
  have fQ : W6.frozen? ⟨q4, 44, none⟩ = false := frozen_of_row _ _ _ _ _ Y6.out
  have hc2a : Hid (12 ≤ c2) := by
    obtain ⟨_, A', c', e, h1, h2, _⟩ := S2.out
    have hl := S2.out.len
    injection e with _ e2 e3
    show _ ≤ _
    omega
  have hc2b : ¬ c2 = 1 := by have := hc2a.out; omega
  have hc2c : (1 : Int) ≤ c2 := by have := hc2a.out; omega
  have Y7 : Hid ((W6.setCell ⟨q4, 44, none⟩ (.slice (some ⟨g2, 1, none⟩) 11 (c2 - 1))).heap[q4]? = some (.cells (ainn UK UN (.slice (some ⟨g2, 1, none⟩) 11 (c2 - 1)) (.slice (some ⟨gb, 0, none⟩) 130 cb)) 31 (0, 0))) := by
    have h := heap_setCell_same W6 q4 44 _ _ (.slice (some ⟨g2, 1, none⟩) 11 (c2 - 1)) Y6.out
    rwa [ainn_seta lK.out lN.out] at h
  have FR7 : Hid (Fr (fun k => k = q4) W4 (W6.setCell ⟨q4, 44, none⟩ (.slice (some ⟨g2, 1, none⟩) 11 (c2 - 1)))) := FR6.out.setCell _ (.inl rfl)
  go_upto_region 18 with (fail)
  generalize W6.setCell ⟨q4, 44, none⟩ (.slice (some ⟨g2, 1, none⟩) 11 (c2 - 1)) = W7 at *
  clear cA cQ fQ X6 Y6 FR6 hc2b hc2c
  try simp only [show ((130 : Nat) : Int) = 130 from rfl]
  refine wp_region_list ?_
  refine wpList_buildFlat rfl 52 3 14 _ rfl .i64 lens Try.underlying52 (by kernel_rfl) (by kernel_rfl) rfl (by decide) (by decide) (by kernel_rfl) ?_
  change wpList _ _ _ _ _ (W7.alloc (.cells (vs .i64 lens) 3))
  rw [← HLN ()]
  obtain ⟨ql, hql⟩ : ∃ q, q = W7.heap.size := ⟨_, rfl⟩
  have AL : Hid (Ar (W7.alloc (.cells (vs .i64 LN) 3)) ql 3 .i64 LN) := by rw [hql]; exact Ar.new W7 3 .i64 LN
  have FA : Fr (fun _ => False) W7 (W7.alloc (.cells (vs .i64 LN) 3)) := (Fr.refl _ _).alloc _
  have FR8 := Lib.hid (FR7.out.trans FA.any)
  have Y8 := Lib.hid (Calm.at Y7.out FA)
  rw [← hql]
  generalize W7.alloc (.cells (vs .i64 LN) 3) = W8 at *
  have X8 : Hid (W8.heap[q1]? = some (.cells (ainn UK UN (.slice (some ⟨g2, 0, none⟩) 12 c2) (.slice (some ⟨g3, 0, none⟩) 114 c3)) 31 (0, 0))) := (FR8.out.block _ (heap_lt X1.out) (fun e => NE.out.2.2.2.1 e)).trans X1.out
  replace S2 := Lib.hid (S2.out.fr FR8.out (fun _ => NE.out.1))
  replace S3 := Lib.hid (S3.out.fr FR8.out (fun _ => NE.out.2.1))
  replace SB := Lib.hid (SB.out.fr FR8.out (fun _ => NE.out.2.2.1))
  have F8 : Hid (Fr (fun _ => False) w W8) := F4.out.trans' FR8.out (fun i hi e => absurd e (by have := NE.out.2.2.2.2; omega))
  clear FA FR8 FR7 Y7 X1 F4 HW4 hql NE
  try simp only [Act.put, List.setIfInBounds_toArray, List.set_cons_succ, List.set_cons_zero]
  go_upto_region 20 with (fail)
  go_loopw [10] (fun u10 wr => ∃ i : Nat, u10 = .int .i64 i ∧ i ≤ 14 ∧ Hid (Fr (fun _ => False) W8 wr)) (fun u10 _ => 14 - (intOf u10).toNat)
  case atStart => exact ⟨0, rfl, by omega, Fr.refl _ _⟩
  case round =>
  obtain ⟨i, rfl, hi, hG⟩ := hrel
  by_cases hil : i < 14
  · have j3 : (i : Int) < 14 := by omega
    have j1 : ((i : Int)).toNat = i := by omega
    have j2 : 0 ≤ (i : Int) := by omega
    obtain ⟨n, gn, hn⟩ := gLN.out i hil
    have XR := Lib.hid (Calm.at X8.out hG.out)
    go_upto_region 23 with (first
      | refine wpList_load_row rfl 31 (.tmp 1) rfl q1 rfl 31 (ainn UK UN (.slice (some ⟨g2, 0, none⟩) 12 c2) (.slice (some ⟨g3, 0, none⟩) 114 c3)) (0, 0) _ XR.out Try.underlying31 rfl (sI.out _ _) ?_
      | refine wpList_store_row rfl 31 (.tmp 11) (.tmp 89) rfl wr.heap.size (ainn UK UN (.slice (some ⟨g2, 0, none⟩) 12 c2) (.slice (some ⟨g3, 0, none⟩) 114 c3)) rfl rfl 31 Z (heap_alloc_new wr _) (sI.out _ _) (zI.out _ _) (ainn_all _ _ _ _ _ _) ?_)
    obtain ⟨qz, hq⟩ : ∃ q, q = wr.heap.size := ⟨_, rfl⟩
    have Z0 : Hid (((wr.alloc (.cells Z 31)).setRow wr.heap.size (ainn UK UN (.slice (some ⟨g2, 0, none⟩) 12 c2) (.slice (some ⟨g3, 0, none⟩) 114 c3))).heap[qz]? = some (.cells (ainn UK UN (.slice (some ⟨g2, 0, none⟩) 12 c2) (.slice (some ⟨g3, 0, none⟩) 114 c3)) 31 (0, 0))) := by
      rw [hq]
      exact setRow_heap _ _ _ _ _ _ (heap_alloc_new wr _)
    have FZ : Hid (Fr (fun _ => False) W8 ((wr.alloc (.cells Z 31)).setRow wr.heap.size (ainn UK UN (.slice (some ⟨g2, 0, none⟩) 12 c2) (.slice (some ⟨g3, 0, none⟩) 114 c3)))) := (hG.out.alloc _).setRow _ (.inr hG.out.size)
    have NZ : Hid (W8.heap.size ≤ qz) := by have := hG.out.size; show _ ≤ _; omega
    rw [← hq] at Z0 FZ ⊢
    generalize (wr.alloc (.cells Z 31)).setRow qz (ainn UK UN (.slice (some ⟨g2, 0, none⟩) 12 c2) (.slice (some ⟨g3, 0, none⟩) 114 c3)) = WZ at *
    clear hq XR hG
    try simp only [Act.put, List.setIfInBounds_toArray, List.set_cons_succ, List.set_cons_zero]
    have cL := (AL.out.fr FZ.out (fun x => x)).cell gn
    obtain ⟨gm, hgm⟩ : ∃ q, q = WZ.heap.size := ⟨_, rfl⟩
    have SM : Hid (Sl (WZ.alloc (.cells (vs .u8 (List.replicate n 0)) 5)) gm (.slice (some ⟨gm, 0, none⟩) n n) (List.replicate n 0)) := by rw [hgm]; exact (Ar.new WZ 5 .u8 _).slt (noughts6 n) (by simp) (by show n ≤ 9223372036854775807; omega)
    have FM : Fr (fun _ => False) WZ (WZ.alloc (.cells (vs .u8 (List.replicate n 0)) 5)) := (Fr.refl _ _).alloc _
    have FZ1 := Lib.hid (FZ.out.trans FM)
    have Z1 := Lib.hid (Calm.at Z0.out FM)
    have NM : Hid (gm ≠ qz) := by have := heap_lt Z0.out; show _ ≠ _; omega
    have cZ : (WZ.alloc (.cells (vs .u8 (List.replicate n 0)) 5)).cell? ⟨qz, 45, none⟩ = some (.slice (some ⟨g3, 0, none⟩) 114 c3) := ainn_b lK.out lN.out Z1.out
    have fZ : (WZ.alloc (.cells (vs .u8 (List.replicate n 0)) 5)).frozen? ⟨qz, 45, none⟩ = false := frozen_of_row _ _ _ _ _ Z1.out
    have Z2 : Hid (((WZ.alloc (.cells (vs .u8 (List.replicate n 0)) 5)).setCell ⟨qz, 45, none⟩ (.slice (some ⟨gm, 0, none⟩) n n)).heap[qz]? = some (.cells (ainn UK UN (.slice (some ⟨g2, 0, none⟩) 12 c2) (.slice (some ⟨gm, 0, none⟩) n n)) 31 (0, 0))) := by
      have h := heap_setCell_same (WZ.alloc (.cells (vs .u8 (List.replicate n 0)) 5)) qz 45 _ _ (.slice (some ⟨gm, 0, none⟩) n n) Z1.out
      rwa [ainn_setb lK.out lN.out] at h
    have FZ2 : Hid (Fr (fun _ => False) W8 ((WZ.alloc (.cells (vs .u8 (List.replicate n 0)) 5)).setCell ⟨qz, 45, none⟩ (.slice (some ⟨gm, 0, none⟩) n n))) := FZ1.out.setCell _ (.inr NZ.out)
    have FSz : Fr (fun k => k = qz) (WZ.alloc (.cells (vs .u8 (List.replicate n 0)) 5)) ((WZ.alloc (.cells (vs .u8 (List.replicate n 0)) 5)).setCell ⟨qz, 45, none⟩ (.slice (some ⟨gm, 0, none⟩) n n)) := (Fr.refl _ _).setCell _ (.inl rfl)
    have SM2 := Lib.hid (SM.out.fr FSz (fun _ => NM.out))
    clear FSz FM Z0 FZ SM Z1 FZ1
    rw [hgm] at Z2 FZ2 SM2 NM
    have HGM := Lib.hid hgm
    clear hgm
    go_upto_region 24 with (refine wpList_plain rfl fun K' hK' => wp_value _ _ (ms_run (n := n) (by omega) rfl rfl rfl) (hK' _ _ ?_))
    rw [← HGM.out] at Z2 FZ2 SM2 NM ⊢
    generalize (WZ.alloc (.cells (vs .u8 (List.replicate n 0)) 5)).setCell ⟨qz, 45, none⟩ (.slice (some ⟨gm, 0, none⟩) n n) = WN at *
    clear cL cZ fZ HGM gn
    have tk1 : True := trivial
    have tk2 : True := trivial
    have tk3 : True := trivial
    have tk4 : True := trivial
    go_upto_region 26 with (first
      | (clear tk1; refine wpList_load_row_w rfl 31 (.tmp 11) rfl qz rfl 31 (ainn UK UN (.slice (some ⟨g2, 0, none⟩) 12 c2) (.slice (some ⟨gm, 0, none⟩) n n)) (0, 0) _ (Z2.out) Try.underlying31 rfl (sI.out _ _) ?_)
      | (go_at_call 4; refine (HHS.out _ _ _ _ _ _ _ _ _ _ _ (S2.out.fr FZ2.out (fun _ x => x)) (SM2.out) (by omega) (by omega)).mono ?_; rintro e wa ⟨rfl, hf⟩; have Ga := Lib.hid (hf); clear hf)
      | (clear tk2; refine wpList_load_row_w rfl 31 (.tmp 11) rfl qz rfl 31 (ainn UK UN (.slice (some ⟨g2, 0, none⟩) 12 c2) (.slice (some ⟨gm, 0, none⟩) n n)) (0, 0) _ (Calm.at Z2.out Ga.out) Try.underlying31 rfl (sI.out _ _) ?_)
      | (go_at_call 5; refine (HHO.out _ _ _ _ _ _ _ _ _ _ _ (S2.out.fr (FZ2.out.trans Ga.out) (fun _ x => x)) (SM2.out.fr Ga.out (fun _ x => x)) (by omega) (by omega)).mono ?_; rintro e wb ⟨rfl, hf⟩; have Gb := Lib.hid (Ga.out.trans (hf)); clear hf)
      | (clear tk3; refine wpList_load_row_w rfl 31 (.tmp 11) rfl qz rfl 31 (ainn UK UN (.slice (some ⟨g2, 0, none⟩) 12 c2) (.slice (some ⟨gm, 0, none⟩) n n)) (0, 0) _ (Calm.at Z2.out Gb.out) Try.underlying31 rfl (sI.out _ _) ?_)
      | (go_at_call 6; refine (HHB.out _ _ _ _ _ _ _ _ _ _ _ (S2.out.fr (FZ2.out.trans Gb.out) (fun _ x => x)) (SM2.out.fr Gb.out (fun _ x => x)) (by omega) (by omega)).mono ?_; rintro e wc ⟨rfl, hf⟩; have Gc := Lib.hid (Gb.out.trans (hf)); clear hf)
      | (clear tk4; refine wpList_load_row_w rfl 31 (.tmp 11) rfl qz rfl 31 (ainn UK UN (.slice (some ⟨g2, 0, none⟩) 12 c2) (.slice (some ⟨gm, 0, none⟩) n n)) (0, 0) _ (Calm.at Z2.out Gc.out) Try.underlying31 rfl (sI.out _ _) ?_)
      | (go_at_call 7; refine (HHC.out _ _ _ _ _ _ _ _ _ _ _ (S2.out.fr (FZ2.out.trans Gc.out) (fun _ x => x)) (SM2.out.fr Gc.out (fun _ x => x)) (by omega) (by omega)).mono ?_; rintro e wd ⟨rfl, hf⟩; have Gd := Lib.hid (Gc.out.trans (hf)); clear hf))
    replace Z2 := Lib.hid (Calm.at Z2.out Gd.out)
    replace SM2 := Lib.hid (SM2.out.fr Gd.out (fun _ x => x))
    have FD := Lib.hid (FZ2.out.trans Gd.out)
    clear Ga Gb Gc Gd FZ2
    have cz2 := ainn_b lK.out lN.out Z2.out
    have ca2 := ainn_ad lK.out lN.out Z2.out
    have fz2 : wd.frozen? ⟨qz, 44, none⟩ = false := frozen_of_row _ _ _ _ _ Z2.out
    have Z3 : Hid ((wd.setCell ⟨qz, 44, none⟩ (.slice (some ⟨gm, 0, none⟩) n n)).heap[qz]? = some (.cells (ainn UK UN (.slice (some ⟨gm, 0, none⟩) n n) (.slice (some ⟨gm, 0, none⟩) n n)) 31 (0, 0))) := by
      have h := heap_setCell_same wd qz 44 _ _ (.slice (some ⟨gm, 0, none⟩) n n) Z2.out
      rwa [ainn_seta lK.out lN.out] at h
    have FE : Hid (Fr (fun _ => False) W8 (wd.setCell ⟨qz, 44, none⟩ (.slice (some ⟨gm, 0, none⟩) n n))) := FD.out.setCell _ (.inr NZ.out)
    have FS3 : Fr (fun k => k = qz) wd (wd.setCell ⟨qz, 44, none⟩ (.slice (some ⟨gm, 0, none⟩) n n)) := (Fr.refl _ _).setCell _ (.inl rfl)
    replace SM2 := Lib.hid (SM2.out.fr FS3 (fun _ => NM.out))
    go_upto_region 27 with (fail)
    clear FS3 cz2 ca2 fz2 Z2 FD
    generalize wd.setCell ⟨qz, 44, none⟩ (.slice (some ⟨gm, 0, none⟩) n n) = WE at *
    have XE := Lib.hid (Calm.at X8.out FE.out)
    have cx3 := ainn_b lK.out lN.out XE.out
    have cz3 := ainn_b lK.out lN.out Z3.out
    have fz3 : WE.frozen? ⟨qz, 45, none⟩ = false := frozen_of_row _ _ _ _ _ Z3.out
    have Z4 : Hid ((WE.setCell ⟨qz, 45, none⟩ (.slice (some ⟨g3, 0, none⟩) 114 c3)).heap[qz]? = some (.cells (ainn UK UN (.slice (some ⟨gm, 0, none⟩) n n) (.slice (some ⟨g3, 0, none⟩) 114 c3)) 31 (0, 0))) := by
      have h := heap_setCell_same WE qz 45 _ _ (.slice (some ⟨g3, 0, none⟩) 114 c3) Z3.out
      rwa [ainn_setb lK.out lN.out] at h
    have FF : Hid (Fr (fun _ => False) W8 (WE.setCell ⟨qz, 45, none⟩ (.slice (some ⟨g3, 0, none⟩) 114 c3))) := FE.out.setCell _ (.inr NZ.out)
    have FS4 : Fr (fun k => k = qz) WE (WE.setCell ⟨qz, 45, none⟩ (.slice (some ⟨g3, 0, none⟩) 114 c3)) := (Fr.refl _ _).setCell _ (.inl rfl)
    replace SM2 := Lib.hid (SM2.out.fr FS4 (fun _ => NM.out))
    go_upto_region 28 with (fail)
    clear FS4 cx3 cz3 fz3 Z3 FE XE
    generalize WE.setCell ⟨qz, 45, none⟩ (.slice (some ⟨g3, 0, none⟩) 114 c3) = WF at *
    have tk1 : True := trivial
    have tk2 : True := trivial
    have tk3 : True := trivial
    go_wp2_with (first
      | (clear tk1; refine wpList_load_row_w rfl 31 (.tmp 11) rfl qz rfl 31 (ainn UK UN (.slice (some ⟨gm, 0, none⟩) n n) (.slice (some ⟨g3, 0, none⟩) 114 c3)) (0, 0) _ (Z4.out) Try.underlying31 rfl (sI.out _ _) ?_)
      | (go_at_call 4; refine (HHS.out _ _ _ _ _ _ _ _ _ _ _ (SM2.out) (S3.out.fr FF.out (fun _ x => x)) (by omega) (by omega)).mono ?_; rintro e we ⟨rfl, hf⟩; have Ge := Lib.hid (hf); clear hf)
      | (clear tk2; refine wpList_load_row_w rfl 31 (.tmp 11) rfl qz rfl 31 (ainn UK UN (.slice (some ⟨gm, 0, none⟩) n n) (.slice (some ⟨g3, 0, none⟩) 114 c3)) (0, 0) _ (Calm.at Z4.out Ge.out) Try.underlying31 rfl (sI.out _ _) ?_)
      | (go_at_call 5; refine (HHO.out _ _ _ _ _ _ _ _ _ _ _ (SM2.out.fr Ge.out (fun _ x => x)) (S3.out.fr (FF.out.trans Ge.out) (fun _ x => x)) (by omega) (by omega)).mono ?_; rintro e wf ⟨rfl, hf⟩; have Gf := Lib.hid (Ge.out.trans (hf)); clear hf)
      | (clear tk3; refine wpList_load_row_w rfl 31 (.tmp 11) rfl qz rfl 31 (ainn UK UN (.slice (some ⟨gm, 0, none⟩) n n) (.slice (some ⟨g3, 0, none⟩) 114 c3)) (0, 0) _ (Calm.at Z4.out Gf.out) Try.underlying31 rfl (sI.out _ _) ?_)
      | (go_at_call 6; refine (HHB.out _ _ _ _ _ _ _ _ _ _ _ (SM2.out.fr Gf.out (fun _ x => x)) (S3.out.fr (FF.out.trans Gf.out) (fun _ x => x)) (by omega) (by omega)).mono ?_; rintro e wg ⟨rfl, hf⟩; have Gg := Lib.hid (Gf.out.trans (hf)); clear hf))
    go_roundw
    case rel => exact ⟨i + 1, by go_num, by omega, FF.out.trans Gg.out⟩
    case measure => simp [intOf]; omega
  obtain rfl : i = 14 := by omega
  obtain ⟨W9, rfl⟩ : ∃ wo : World, wo = wr := ⟨_, rfl⟩
  have F9 := Lib.hid (F8.out.trans hG.out)
  have Y9 := Lib.hid (Calm.at Y8.out hG.out)
  have S9 := Lib.hid (S2.out.fr hG.out (fun _ x => x))
  have B9 := Lib.hid (SB.out.fr hG.out (fun _ x => x))
  clear gLN AL hi hil hG
  have SD : Hid (Sl W9 g2 (.slice (some ⟨g2, 1, none⟩) 11 (c2 - 1)) (UA.drop 1)) := by
    have hl := S9.out.len
    have h := S9.out.drop 1 (by omega)
    rw [hl, if_neg (by have := hc2a.out; omega), Option.map_some, Addr_add_none, Nat.zero_add] at h
    exact h
  obtain ⟨VN, hVN⟩ : ∃ x : List Int, x = [0, 0, 0, 0, 2, 1, 0, 0, 0, 0, 0, 0] := ⟨_, rfl⟩
  have CN : ∀ W, Calls Try.prog 13 #[.int .i64 258] W fun e w' => e = .returned (.tuple #[.agg (vs .u8 VN), .int .i64 0]) ∧ Fr (fun _ => False) W w' := fun W => by
    have h := nonce_is 258 W (by omega)
    rw [n258] at h
    rw [hVN]
    exact h
  have HEQ : ∀ W, (Op.equalIn 10000 22 (.agg (vs .u8 VN)) (.agg #[.int .u8 0, .int .u8 0, .int .u8 0, .int .u8 0, .int .u8 2, .int .u8 1, .int .u8 0, .int .u8 0, .int .u8 0, .int .u8 0, .int .u8 0, .int .u8 0])).run Try.prog W = .ok true W := fun W => by
    rw [hVN]
    exact (eq12 [0, 0, 0, 0, 2, 1, 0, 0, 0, 0, 0, 0] [0, 0, 0, 0, 2, 1, 0, 0, 0, 0, 0, 0] rfl rfl W).trans (by rw [decide_eq_true rfl])
  have lVN : Hid (VN.length = 12) := by show _ = _; rw [hVN]; rfl
  have sVN : Hid ((Try.prog.info? 22).map (·.size) = some (vs .u8 VN).size) := by show _ = _; rw [size29, vs_size, lVN.out]
  obtain ⟨ZN, hZN⟩ : ∃ Z, Z = List.replicate 12 (0 : Int) := ⟨_, rfl⟩
  have hzn : ∀ W : World, (zeroValue 22).run Try.prog W = .ok (.agg (vs .u8 ZN)) W := fun W => by rw [hZN]; exact zero12 W
  have eZN : Hid ((vs .u8 ZN).size = (vs .u8 VN).size) := by show _ = _; rw [vs_size, vs_size, hZN, lVN.out]; rfl
  clear hVN hZN HHS HHB HHC HCO hz S2 S3 SB Y8 F8 X8
  go_upto_region 31 with (first
    | (go_at_call 13; refine (CN _).mono ?_; rintro e w10 ⟨rfl, hf⟩; have G10 := Lib.hid hf; clear hf)
    | refine wpList_store_row rfl 22 (.tmp 12) (.tmp 135) rfl w10.heap.size (vs .u8 VN) rfl rfl 22 (vs .u8 ZN) (heap_alloc_new w10 _) sVN.out eZN.out (vs_all _ _) ?_)
  obtain ⟨qn, hqn⟩ : ∃ q, q = w10.heap.size := ⟨_, rfl⟩
  have FQ : Fr (fun _ => False) W9 ((w10.alloc (.cells (vs .u8 ZN) 22)).setRow w10.heap.size (vs .u8 VN)) := (G10.out.alloc _).setRow _ (.inr G10.out.size)
  have AN : Hid (Ar ((w10.alloc (.cells (vs .u8 ZN) 22)).setRow w10.heap.size (vs .u8 VN)) qn 22 .u8 VN) := by rw [hqn]; exact (Ar.new w10 22 .u8 ZN).row VN
  replace Y9 := Lib.hid (Calm.at Y9.out FQ)
  replace SD := Lib.hid (SD.out.fr FQ (fun _ x => x))
  replace B9 := Lib.hid (B9.out.fr FQ (fun _ x => x))
  replace F9 := Lib.hid (F9.out.trans FQ)
  rw [← hqn] at AN Y9 SD B9 F9 ⊢
  generalize (w10.alloc (.cells (vs .u8 ZN) 22)).setRow qn (vs .u8 VN) = WX at *
  clear FQ hqn G10 CN hzn
  try simp only [Act.put, List.setIfInBounds_toArray, List.set_cons_succ, List.set_cons_zero]
  have GR : Hid (Fr (fun _ => False) WX WX) := Fr.refl _ _
  have tk1 : True := trivial
  go_wp2_with (first
    | (go_at_call 21; refine (awake_is _).mono ?_; rintro e wn ⟨rfl, hf⟩; replace GR := Lib.hid (GR.out.trans hf); clear hf)
    | (clear tk1; refine wpList_load_row_w rfl 31 (.tmp 4) rfl q4 rfl 31 (ainn UK UN (.slice (some ⟨g2, 1, none⟩) 11 (c2 - 1)) (.slice (some ⟨gb, 0, none⟩) 130 cb)) (0, 0) _ (Calm.at Y9.out GR.out) Try.underlying31 rfl (sI.out _ _) ?_)
    | (go_at_call 5; refine (HHO.out _ _ _ _ _ _ _ _ _ _ _ (SD.out.fr GR.out (fun _ x => x)) (B9.out.fr GR.out (fun _ x => x)) (by omega) (by omega)).mono ?_; rintro e wn ⟨rfl, hf⟩; replace GR := Lib.hid (GR.out.trans hf); clear hf)
    | (go_at_call 3; refine (law_nonce_any _ _ (by omega)).mono ?_; rintro e wn ⟨rfl, hf⟩; replace GR := Lib.hid (GR.out.trans hf); clear hf)
    | refine wpList_load_row_w rfl 22 (.tmp 12) rfl qn rfl 22 (vs .u8 VN) (0, 0) _ (AN.out.fr GR.out (fun x => x)) Try.underlying22 rfl sVN.out ?_
    | refine wpList_build_w rfl 22 ⟨_, rfl⟩ (.agg #[.int .u8 0, .int .u8 0, .int .u8 0, .int .u8 0, .int .u8 2, .int .u8 1, .int .u8 0, .int .u8 0, .int .u8 0, .int .u8 0, .int .u8 0, .int .u8 0]) wn (by kernel_rfl) ?_)
  go_ret
  exact ⟨rfl, F9.out.trans GR.out⟩

set_option maxRecDepth 100000 in
theorem law_names_lifted (os : Os) (started : os.Started) (H : Type) (enc : TypeId × Value → H) :
    ReturnsInHanded {} Try.checked os 12 .any (Rows.aeadNamesSpec.pre6 enc Try.prog Try.f12 Rows.aeadNamesRow.domain false) (Rows.aeadNamesSpec.post enc Try.prog Try.f12 false true false false) := by
  refine returnsInHanded_of_change (C := Try.checked) own started (by kernel_rfl) Try.func12
    (ChangeSpec.witness6 (enc := enc) (C := Try.checked) false ⟨#[], #[], []⟩ 8 (by kernel_rfl) (by kernel_rfl) (by kernel_rfl) (by kernel_rfl)) ?_
  intro W base args ds gs before hval0 hW hcnd _
  have hval : ∀ (j : Nat) t v, Try.f12.params[j]? = some t → args[j]? = some v → Value.okWide Try.prog W .any base t v := hval0
  have hW' := hW
  obtain ⟨p, q, hA0, hV, rfl, hfz, hnd⟩ := hW
  have hA : DataW.TrodAll enc Try.prog W 0 (fun _ => true) true Try.f12.params.toList args.toList ds p := hA0
  rw [Try.params12] at hA hval
  obtain ⟨hargs, rfl, rfl⟩ := trodAll_nil hA
  obtain rfl : args = #[] := by cases args; simp_all
  obtain ⟨rfl, rfl⟩ := trodVars_none hV
  clear hA0 hval0
  refine (law_names_any  W ).mono fun e W' ⟨he, hg⟩ => ?_
  subst he
  exact ⟨_, rfl, post_true rfl hW' (by kernel_rfl) rfl rfl hg⟩

theorem aeadNames_holds : Rows.AeadNamesSaid :=
  OpenClaim.holds_of_wide 12 Try.f12 rfl rfl rfl rfl rfl rfl rfl ⟨rfl, rfl, rfl, rfl, rfl⟩ rfl rfl rfl rfl rfl (by kernel_rfl) Try.func12 (by kernel_rfl)
    (of_decide_eq_true (by kernel_rfl)) (by unfold Func.isWrapper; first | (rw [if_pos (by decide +kernel)]; kernel_rfl) | (rw [if_neg (by decide +kernel)]; exact ⟨rfl, rfl⟩))
    (fun os started H enc _ => law_names_lifted os started H enc)
#print axioms aeadNames_holds
end Go.Proofs.Ytbafppdmlhogbaa
