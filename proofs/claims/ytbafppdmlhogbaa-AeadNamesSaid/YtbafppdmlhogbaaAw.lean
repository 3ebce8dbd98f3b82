/- The law's awake: contract, no condition. -/
import Derived.Test.YtbafppdmlhogbaaIn
import Derived.Test.YtbafppdmlhogbaaPs
import Derived.Test.YtbafppdmlhogbaaLi
namespace Go.Proofs.Ytbafppdmlhogbaa
set_option linter.unusedSimpArgs false
set_option linter.unusedVariables false
open Go.ChangeShapes Go.WideShapes Go.ChangeAt Go.RowKit


theorem Nw.open {W0 w : World} {v : Value} {l : List Int} (h : Nw W0 w v l) (h0 : 0 < l.length) : ∃ g c, v = .slice (some ⟨g, 0, none⟩) l.length c ∧ W0.heap.size ≤ g ∧ l.length ≤ c ∧ Sl w g (.slice (some ⟨g, 0, none⟩) l.length c) l := by
  have hs := h.1.sl
  rcases h.1.1.2 with ⟨_, e⟩ | ⟨g, cap, cur, hv, _, hh, hn, hm, _⟩
  · omega
  · refine ⟨g, cap, hv, h.2 g (by rw [hv]; rfl), hn, ?_⟩
    rw [hv] at hs
    exact hs
def uh1 : List Int := [211, 26, 141, 52, 100, 142, 96, 219, 123, 134, 175, 188, 83, 239, 126, 194]
def uh2 : List Int := [26, 225, 11, 89, 79, 9, 226, 106, 126, 144, 46, 203, 208, 96, 6, 145]
def ub0 : List Int := [123, 172, 43, 37, 45, 180, 71, 175, 9, 182, 122, 85, 164, 233, 85, 132, 10, 225, 214, 115, 16, 117, 217, 235, 42, 147, 117, 120, 62, 213, 83, 255]
def ub1 : List Int := [159, 123, 233, 93, 1, 253, 64, 186, 21, 226, 143, 251, 54, 129, 10, 174, 193, 192, 136, 63, 9, 1, 110, 222, 221, 138, 208, 135, 85, 130, 3, 165, 78, 158, 203, 56, 172, 142, 94, 43, 184, 218, 178, 15, 250, 219, 82, 232, 117, 4, 178, 110, 190, 105, 109, 79, 96, 164, 133, 207, 17, 184, 27, 89]
def ub2 : List Int := [252, 177, 196, 95, 66, 25, 238, 172, 236, 106, 222, 195, 78, 102, 105, 120, 142, 219, 65, 196, 156, 163, 1, 225, 39, 224, 172, 171, 59, 68, 185, 207, 92, 134, 187, 149, 224, 107, 13, 242, 144, 26, 182, 69, 228, 171, 230, 34, 21, 56, 12, 3, 206, 53, 108, 215, 166, 118, 99, 251, 221, 239, 255, 100]
def ux : List Int := [211, 26, 141, 52, 100, 142, 96, 219, 123, 134, 175, 188, 83, 239, 126, 194, 164, 173, 237, 81, 41, 110, 8, 254, 169, 226, 181, 167, 54, 238, 98, 214, 61, 190, 164, 94, 140, 169, 103, 18, 130, 250, 251, 105, 218, 146, 114, 139, 26, 113, 222, 10, 158, 6, 11, 41, 5, 214, 165, 182, 126, 205, 59, 54, 146, 221, 189, 127, 45, 119, 139, 140, 152, 3, 174, 227, 40, 9, 27, 88, 250, 179, 36, 228, 250, 214, 117, 148, 85, 133, 128, 139, 72, 49, 215, 188, 63, 244, 222, 240, 142, 75, 122, 157, 229, 118, 210, 101, 134, 206, 198, 75, 97, 22]
set_option maxRecDepth 100000 in
theorem ub0_is : otk uk un = ub0 := by decide +kernel
set_option maxRecDepth 100000 in
theorem ub1_is : bk64 uk 1 un = ub1 := by decide +kernel
set_option maxRecDepth 100000 in
theorem ub2_is : bk64 uk 2 un = ub2 := by decide +kernel
theorem xo_two {k n l A B : List Int} {c d : Int} (h0 : sm c 0 = c) (h1 : sm c 1 = d) (hA : bk64 k c n = A) (hB : bk64 k d n = B) (lA : A.length = 64) (hl : l.length ≤ 128) : xo k c n l = (List.range l.length).map fun j => x8 (l.getD j 0) ((A ++ B).getD j 0) := by
  rw [xo]
  refine List.map_congr_left fun j hj => ?_
  have hj := List.mem_range.1 hj
  have e : ks k c n j = (A ++ B).getD j 0 := by
   unfold ks
   by_cases h : j < 64
   · rw [show j / 64 = 0 by omega, show j % 64 = j by omega, show ((0 : Nat) : Int) = 0 from rfl, h0, hA]
     simp only [List.getD_eq_getElem?_getD, List.getElem?_append_left (show j < A.length by omega)]
   · rw [show j / 64 = 1 by omega, show j % 64 = j - 64 by omega, show ((1 : Nat) : Int) = 1 from rfl, h1, hB]
     simp only [List.getD_eq_getElem?_getD, List.getElem?_append_right (show A.length ≤ j by omega), lA]
  rw [e]
set_option maxRecDepth 100000 in
theorem ux_map : ((List.range utx.length).map fun j => x8 (utx.getD j 0) ((ub1 ++ ub2).getD j 0)) = ux := by decide +kernel
theorem ux_is : xo uk 1 un utx = ux := (xo_two (by decide) (by decide) ub1_is ub2_is rfl (by decide)).trans ux_map
set_option maxRecDepth 100000 in
theorem ut_tag : tag ub0 (mac uad ux) = uh2 := by decide +kernel
theorem ut_is : atag uk un uad ux = uh2 := by rw [atag, ub0_is]; exact ut_tag
theorem ub_is : box uk un uad utx = ux ++ uh2 := by rw [box, ux_is, ut_is]
theorem ub_length : (box uk un uad utx).length = 130 := by rw [box_length]; rfl
theorem ub_take : (box uk un uad utx).take 16 = uh1 := by rw [ub_is]; rfl
theorem ub_drop : (box uk un uad utx).drop 114 = uh2 := by rw [ub_is]; rfl
theorem uh1_bys : Bys uh1 := bys_of _ (by decide +kernel)
theorem uh2_bys : Bys uh2 := bys_of _ (by decide +kernel)
theorem ub_sealv : sealv uk un uad utx = (box uk un uad utx, 0) := by
  unfold sealv
  rw [if_neg (by decide)]
/-- Seal of the usual one, in whichever world its bytes lie. -/
theorem ub_seal : ∃ UB : List Int, box uk un uad utx = UB ∧ UB.length = 130 ∧ UB.take 16 = uh1 ∧ UB.drop 114 = uh2 := ⟨_, rfl, ub_length, ub_take, ub_drop⟩
set_option maxRecDepth 100000 in
set_option maxHeartbeats 8000000 in
theorem awake_is (w : World) : Calls Try.prog 21 #[] w fun e w' => e = .returned (.bool true) ∧ Fr (fun _ => False) w w' := by
  obtain ⟨UB, hUB, lUB, tUB, dUB⟩ := ub_seal
  have CS : ∀ W g2 c2 g3 c3, Sl W g2 (.slice (some ⟨g2, 0, none⟩) 12 c2) uad → Sl W g3 (.slice (some ⟨g3, 0, none⟩) 114 c3) utx → Calls Try.prog 16 #[.agg (vs .u8 uk), .agg (vs .u8 un), .slice (some ⟨g2, 0, none⟩) 12 c2, .slice (some ⟨g3, 0, none⟩) 114 c3] W fun e w' => ∃ v, e = .returned (.tuple #[v, .int .i64 0]) ∧ Nw W w' v UB ∧ Fr (fun _ => False) W w' := fun W g2 c2 g3 c3 h2 h3 => by
    have h := seal_is uk un g2 _ 12 c2 uad g3 _ 114 c3 utx W rfl uk_bys rfl un_bys h2 h3
    rw [ub_sealv, hUB] at h
    exact h
  have CU := usual_is
  obtain ⟨UK, hUK⟩ : ∃ x, x = uk := ⟨_, rfl⟩
  obtain ⟨UN, hUN⟩ : ∃ x, x = un := ⟨_, rfl⟩
  obtain ⟨UA, hUA⟩ : ∃ x, x = uad := ⟨_, rfl⟩
  obtain ⟨UT, hUT⟩ : ∃ x, x = utx := ⟨_, rfl⟩
  obtain ⟨E1, hE1⟩ : ∃ x, x = uh1 := ⟨_, rfl⟩
  obtain ⟨E2, hE2⟩ : ∃ x, x = uh2 := ⟨_, rfl⟩
  have lK : Hid (UK.length = 32) := by show _ = _; rw [hUK]; rfl
  have lN : Hid (UN.length = 12) := by show _ = _; rw [hUN]; rfl
  rw [← hUK, ← hUN, ← hUA, ← hUT] at CS CU
  rw [← hE1] at tUB
  rw [← hE2] at dUB
  have LB := Lib.hid lUB
  have TB := Lib.hid tUB
  have DB := Lib.hid dUB
  have hz : ∀ W : World, (zeroValue 31).run Try.prog W = .ok (.agg (ainn (List.replicate 32 0) (List.replicate 12 0) (.slice none 0 0) (.slice none 0 0))) W := fun _ => by kernel_rfl
  obtain ⟨Z, hZ⟩ : ∃ x, x = ainn (List.replicate 32 0) (List.replicate 12 0) (.slice none 0 0) (.slice none 0 0) := ⟨_, rfl⟩
  rw [← hZ] at hz
  have sZ : Hid (Z.size = 46) := by show _ = _; rw [hZ]; rfl
  have sK := Lib.hid (keys_info lK.out)
  have sN : Hid ((Try.prog.info? 22).map (·.size) = some UN.length) := by show _ = _; rw [size29, lN.out]
  have sK2 : Hid ((Try.prog.info? 28).map (·.size) = some UK.length) := by show _ = _; rw [size28, lK.out]
  have HE1 : Unit → E1 = uh1 := fun _ => hE1
  have HE2 : Unit → E2 = uh2 := fun _ => hE2
  have BE : Hid (Bys E1 ∧ Bys E2 ∧ E1.length = 16 ∧ E2.length = 16) := by show _ ∧ _; rw [hE1, hE2]; exact ⟨uh1_bys, uh2_bys, rfl, rfl⟩
  clear hUB lUB tUB dUB hUK hUN hUA hUT hE1 hE2 hZ
  go_enter Try.func21, Try.ntmps21
  go_upto_region 2 with (first
    | (go_at_call 27; refine (CU _).mono ?_; rintro e w1 ⟨g2, c2, g3, c3, rfl, h2, h3, hf⟩; have S2 := Lib.hid h2; have S3 := Lib.hid h3; have F1 := Lib.hid hf; clear h2 h3 hf)
    | refine wpList_store_row rfl 31 (.tmp 1) (.tmp 4) rfl w1.heap.size (ainn UK UN (.slice (some ⟨g2, 0, none⟩) 12 c2) (.slice (some ⟨g3, 0, none⟩) 114 c3)) rfl rfl 31 Z (heap_alloc_new w1 _) (by rw [ainn_size lK.out lN.out]; exact info_in) (by rw [ainn_size lK.out lN.out, sZ.out]) (ainn_all _ _ _ _ _ _) ?_)
  obtain ⟨q, hq⟩ : ∃ q, q = w1.heap.size := ⟨_, rfl⟩
  have X2 : Hid (((w1.alloc (.cells Z 31)).setRow w1.heap.size (ainn UK UN (.slice (some ⟨g2, 0, none⟩) 12 c2) (.slice (some ⟨g3, 0, none⟩) 114 c3))).heap[q]? = some (.cells (ainn UK UN (.slice (some ⟨g2, 0, none⟩) 12 c2) (.slice (some ⟨g3, 0, none⟩) 114 c3)) 31 (0, 0))) := by
    rw [hq]
    exact setRow_heap _ _ _ _ _ _ (heap_alloc_new w1 _)
  have FQ : Fr (fun _ => False) w1 ((w1.alloc (.cells Z 31)).setRow w1.heap.size (ainn UK UN (.slice (some ⟨g2, 0, none⟩) 12 c2) (.slice (some ⟨g3, 0, none⟩) 114 c3))) := ((Fr.refl _ _).alloc _).setRow _ (.inr (Nat.le_refl _))
  replace S2 := Lib.hid (S2.out.fr FQ (fun _ x => x))
  replace S3 := Lib.hid (S3.out.fr FQ (fun _ x => x))
  have F2 := Lib.hid (F1.out.trans FQ)
  rw [← hq] at X2 S2 S3 F2 ⊢
  generalize (w1.alloc (.cells Z 31)).setRow q (ainn UK UN (.slice (some ⟨g2, 0, none⟩) 12 c2) (.slice (some ⟨g3, 0, none⟩) 114 c3)) = W2 at *
  have cA := ainn_ad lK.out lN.out X2.out
  have cB := ainn_b lK.out lN.out X2.out
  clear FQ hq hz F1
  try simp only [Act.put, List.setIfInBounds_toArray, List.set_cons_succ, List.set_cons_zero]
  go_upto_region 3 with (first
    | refine wpList_mid rfl 28 (.tmp 6) rfl q 0 rfl .u8 UK _ (ainn_key lK.out X2.out) Try.underlying28 rfl sK2.out ?_
    | refine wpList_mid rfl 22 (.tmp 8) rfl q 32 rfl .u8 UN _ (ainn_nonce lK.out X2.out) Try.underlying22 rfl sN.out ?_
    | (go_at_call 16; refine (CS _ _ _ _ _ S2.out S3.out).mono ?_; rintro e w3 ⟨v3, rfl, hn3, hf⟩; have N3 := Lib.hid hn3; have F3 := Lib.hid (F2.out.trans hf); clear hn3 hf))
  obtain ⟨gb, cb, rfl, hge, hcb, hsb⟩ := N3.out.open (by have := LB.out; omega)
  rw [LB.out] at hsb hcb ⊢
  have SB := Lib.hid hsb
  have hc1 : ¬ cb = 114 := by omega
  have hc2 : (16 : Int) ≤ cb := by omega
  have hc3 : (114 : Int) ≤ cb := by omega
  clear hge hcb hsb N3 S2 S3 CS CU cA cB X2 F2
  go_upto_region 5 with (fail)
  have HQ1 : ∀ V : World, Fr (fun _ => False) w3 V → Calls Try.prog 18 #[.slice (some ⟨gb, 0, none⟩) 16 cb, .slice (some ⟨V.heap.size, 0, none⟩) 16 16] (V.alloc (.cells #[.int .u8 211, .int .u8 26, .int .u8 141, .int .u8 52, .int .u8 100, .int .u8 142, .int .u8 96, .int .u8 219, .int .u8 123, .int .u8 134, .int .u8 175, .int .u8 188, .int .u8 83, .int .u8 239, .int .u8 126, .int .u8 194] 5)) fun e w' => e = .returned (.bool true) ∧ Fr (fun _ => False) V w' := fun V hf => by
    have h1 := ((SB.out.fr hf (fun _ x => x)).fr ((Fr.refl (fun _ => False) V).alloc (.cells #[.int .u8 211, .int .u8 26, .int .u8 141, .int .u8 52, .int .u8 100, .int .u8 142, .int .u8 96, .int .u8 219, .int .u8 123, .int .u8 134, .int .u8 175, .int .u8 188, .int .u8 83, .int .u8 239, .int .u8 126, .int .u8 194] 5)) (fun _ x => x)).take 16 (by have := LB.out; omega)
    rw [TB.out] at h1
    have h2 : Sl (V.alloc (.cells #[.int .u8 211, .int .u8 26, .int .u8 141, .int .u8 52, .int .u8 100, .int .u8 142, .int .u8 96, .int .u8 219, .int .u8 123, .int .u8 134, .int .u8 175, .int .u8 188, .int .u8 83, .int .u8 239, .int .u8 126, .int .u8 194] 5)) V.heap.size (.slice (some ⟨V.heap.size, 0, none⟩) 16 16) uh1 := Sl.block uh1_bys (heap_alloc_new V _) (fun j _ => by rw [show (#[.int .u8 211, .int .u8 26, .int .u8 141, .int .u8 52, .int .u8 100, .int .u8 142, .int .u8 96, .int .u8 219, .int .u8 123, .int .u8 134, .int .u8 175, .int .u8 188, .int .u8 83, .int .u8 239, .int .u8 126, .int .u8 194] : Array Value) = (bs uh1).toArray from rfl]; simp) (by decide) (by decide)
    rw [← HE1 ()] at h2
    refine (eqBytes_any gb V.heap.size _ _ 16 16 cb 16 E1 E1 _ h1 h2).mono fun e w' ⟨he, x, hx⟩ => ⟨by rw [he, decide_eq_true rfl], by rw [hx]; exact Fr.drewN ((Fr.refl _ _).alloc _) x⟩
  have HQ2 : ∀ V : World, Fr (fun _ => False) w3 V → Calls Try.prog 18 #[.slice (some ⟨gb, 114, none⟩) 16 (cb - 114), .slice (some ⟨V.heap.size, 0, none⟩) 16 16] (V.alloc (.cells #[.int .u8 26, .int .u8 225, .int .u8 11, .int .u8 89, .int .u8 79, .int .u8 9, .int .u8 226, .int .u8 106, .int .u8 126, .int .u8 144, .int .u8 46, .int .u8 203, .int .u8 208, .int .u8 96, .int .u8 6, .int .u8 145] 5)) fun e w' => e = .returned (.bool true) ∧ Fr (fun _ => False) V w' := fun V hf => by
    have h1 := ((SB.out.fr hf (fun _ x => x)).fr ((Fr.refl (fun _ => False) V).alloc (.cells #[.int .u8 26, .int .u8 225, .int .u8 11, .int .u8 89, .int .u8 79, .int .u8 9, .int .u8 226, .int .u8 106, .int .u8 126, .int .u8 144, .int .u8 46, .int .u8 203, .int .u8 208, .int .u8 96, .int .u8 6, .int .u8 145] 5)) (fun _ x => x)).drop 114 (by have := LB.out; omega)
    rw [DB.out, LB.out, if_neg hc1, Option.map_some, Addr_add_none, Nat.zero_add] at h1
    have h2 : Sl (V.alloc (.cells #[.int .u8 26, .int .u8 225, .int .u8 11, .int .u8 89, .int .u8 79, .int .u8 9, .int .u8 226, .int .u8 106, .int .u8 126, .int .u8 144, .int .u8 46, .int .u8 203, .int .u8 208, .int .u8 96, .int .u8 6, .int .u8 145] 5)) V.heap.size (.slice (some ⟨V.heap.size, 0, none⟩) 16 16) uh2 := Sl.block uh2_bys (heap_alloc_new V _) (fun j _ => by rw [show (#[.int .u8 26, .int .u8 225, .int .u8 11, .int .u8 89, .int .u8 79, .int .u8 9, .int .u8 226, .int .u8 106, .int .u8 126, .int .u8 144, .int .u8 46, .int .u8 203, .int .u8 208, .int .u8 96, .int .u8 6, .int .u8 145] : Array Value) = (bs uh2).toArray from rfl]; simp) (by decide) (by decide)
    rw [← HE2 ()] at h2
    refine (eqBytes_any gb V.heap.size _ _ 16 16 (cb - 114) 16 E2 E2 _ h1 h2).mono fun e w' ⟨he, x, hx⟩ => ⟨by rw [he, decide_eq_true rfl], by rw [hx]; exact Fr.drewN ((Fr.refl _ _).alloc _) x⟩
  have K1 := Lib.hid HQ1
  have K2 := Lib.hid HQ2
  clear HQ1 HQ2 SB TB DB LB
  have tk1 : True := trivial
  go_wp2_with (first
    | (go_at_call 18; clear tk1; refine (K1.out _ (Fr.refl _ _)).mono ?_; rintro e w4 ⟨rfl, hf⟩; have F4 := Lib.hid hf; clear hf)
    | (go_at_call 18; refine (K2.out _ F4.out).mono ?_; rintro e w5 ⟨rfl, hf⟩; have F5 := Lib.hid hf; clear hf))
  go_ret
  exact ⟨rfl, F3.out.trans (F4.out.trans F5.out)⟩
end Go.Proofs.Ytbafppdmlhogbaa

/- What the laws of layer 6 have in common: contracts of calls as they want them, the argument loaded. Lemmas alone. -/
namespace Go.Proofs.Ytbafppdmlhogbaa
set_option linter.unusedSimpArgs false
set_option linter.unusedVariables false
open Go.ChangeShapes Go.WideShapes Go.ChangeAt Go.RowKit

section
variable {a : Act} {o : Oper} {C : World → Prop} {K : Act → Prop}
/-- A slice is loaded from its cell. -/
theorem quiet_sl (x : Operand) (ho : o.op = .load 29 x) (q i : Nat) (hx : a.eval x = .pointer (some ⟨q, i, none⟩)) (A : Option Addr) (m c : Nat) (hg : ∀ w, C w → w.cell? ⟨q, i, none⟩ = some (.slice A m c))
    (hk : K (a.put o.dst (.slice A m c))) : o.quiet Try.prog a C K := by
  refine quiet_run _ (fun w hw => ?_) hk
  have hc := hg w hw
  unfold execOp
  simp [ho, hx, Instr.loadAt, Instr.sureAddr, loadVar, isAgg, run_underlying Try.underlying29, hc, Sem.run_bind, Sem.run_pure, Result.andThen_ok]
end
/-- A guarded operation whose guard says yes. -/
theorem wpList_wanted {P : Program} {ops : Array Oper} {rest : List Oper} {o : Oper} {a : Act} {w : World} {Q : Exit → Act → World → Prop} (hw : Region.wanted o (yielded ops a.tmps) = true)
    (h : ∀ K : Act → World → Prop, (∀ a w, wpList P ops Q rest a w → K a w) → o.wp P a w K Q) : wpList P ops Q (o :: rest) a w := by
  unfold wpList
  rw [if_pos hw]
  exact .inl (h _ (fun _ _ x => x))
theorem wpList_load_row_w {P : Program} {ops : Array Oper} {rest : List Oper} {o : Oper} {a : Act} {w : World} {Q : Exit → Act → World → Prop} (hw : Region.wanted o (yielded ops a.tmps) = true) (ty : TypeId) (x : Operand) (ho : o.op = .load ty x)
    (g : Nat) (hx : a.eval x = .pointer (some ⟨g, 0, none⟩)) (t : TypeId) (cs : Array Value) (fr : Nat × Nat) (d : TypeDesc) (hg : w.heap[g]? = some (.cells cs t fr))
    (hu : P.underlying ty = some d) (hd : (match d with | .struct _ | .array _ _ => true | _ => false) = true) (hi : (P.info? ty).map (·.size) = some cs.size)
    (h : wpList P ops Q rest (a.put o.dst (.agg cs)) w) : wpList P ops Q (o :: rest) a w :=
  wpList_wanted hw fun _ hK => wp_load_row ty x ho g hx t cs fr d hg hu hd hi (hK _ _ h)
theorem nonce_sz {n : List Int} (h : n.length = 12) : (Try.prog.info? 22).map (·.size) = some n.length := by rw [size29, h]
theorem key_sz {k : List Int} (h : k.length = 32) : (Try.prog.info? 28).map (·.size) = some k.length := by rw [size28, h]
theorem copy_new (W0 : World) {g : Nat} {A : Option Addr} {n c : Nat} {l : List Int} (V : World) (hs : Sl V g (.slice A n c) l) (hn : n ≤ 140737488355328) (hf : Fr (fun _ => False) W0 V) :
    Calls Try.prog 15 #[.slice A n c] V fun e w' => ∃ v, e = .returned v ∧ Nw W0 w' v l ∧ Fr (fun _ => False) V w' :=
  (copyBytes_any g A n c l V hs hn).mono fun e w' ⟨A', c', he, ho, hb, hf2⟩ => ⟨_, he, Nw.of ⟨ho, hb⟩ hf, hf2⟩
theorem eq_yes {g1 g2 : Nat} {A B : Option Addr} {n m c d : Nat} {l k : List Int} (w : World) (h1 : Sl w g1 (.slice A n c) l) (h2 : Sl w g2 (.slice B m d) k) (h : l = k) :
    Calls Try.prog 18 #[.slice A n c, .slice B m d] w fun e w' => e = .returned (.bool true) ∧ Fr (fun _ => False) w w' :=
  (eqBytes_any g1 g2 A B n m c d l k w h1 h2).mono fun e w' ⟨he, q, hq⟩ => ⟨by rw [he, decide_eq_true h], by rw [hq]; exact Fr.drewN (Fr.refl _ _) q⟩
theorem eq_no {g1 g2 : Nat} {A B : Option Addr} {n m c d : Nat} {l k : List Int} (w : World) (h1 : Sl w g1 (.slice A n c) l) (h2 : Sl w g2 (.slice B m d) k) (h : l ≠ k) :
    Calls Try.prog 18 #[.slice A n c, .slice B m d] w fun e w' => e = .returned (.bool false) ∧ Fr (fun _ => False) w w' :=
  (eqBytes_any g1 g2 A B n m c d l k w h1 h2).mono fun e w' ⟨he, q, hq⟩ => ⟨by rw [he, decide_eq_false h], by rw [hq]; exact Fr.drewN (Fr.refl _ _) q⟩
end Go.Proofs.Ytbafppdmlhogbaa
