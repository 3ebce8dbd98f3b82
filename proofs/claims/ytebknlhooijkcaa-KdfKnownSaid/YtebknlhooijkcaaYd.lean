/- The program's digest of a block and of pieces: contract. Conditions: slices that lie in memory, fewer than 2^50 bytes. -/
import Derived.Test.YtebknlhooijkcaaYb
import Derived.Test.YtebknlhooijkcaaZr
import Derived.Test.YtebknlhooijkcaaT
import Derived.Deep.MidRow
namespace Go.Proofs.Ytebknlhooijkcaa
set_option linter.unusedSimpArgs false
set_option linter.unusedVariables false
open Go.ChangeShapes Go.WideShapes Go.ChangeAt Go.RowKit


/-- A piece: a slice, where it lies, its bytes. -/
structure Pc where
  g : Nat
  A : Option Addr
  m : Nat
  c : Nat
  l : List Int
/-- The bytes of pieces, one behind the other. -/
def flat (ps : List Pc) : List Int := (ps.map (·.l)).flatten
theorem flat_nil : flat [] = [] := rfl
theorem flat_snoc (ps : List Pc) (p : Pc) : flat (ps ++ [p]) = flat ps ++ p.l := by simp [flat]
theorem flat_take (ps : List Pc) (i : Nat) (p : Pc) (h : ps[i]? = some p) : flat (ps.take (i + 1)) = flat (ps.take i) ++ p.l := by
  rw [List.take_add_one, h, ← flat_snoc]; rfl
theorem flat_le (ps : List Pc) (i : Nat) : (flat (ps.take i)).length ≤ (flat ps).length := by
  have h : flat ps = flat (ps.take i) ++ flat (ps.drop i) := by
    conv => lhs; rw [← List.take_append_drop i ps]
    rw [flat, flat, flat, List.map_append, List.flatten_append]
  rw [h, List.length_append]; omega
/-- Pieces that lie in a row of slices. -/
def Pcs (w : World) (gp : Nat) (ps : List Pc) : Prop := ∀ i p, ps[i]? = some p → w.cell? ⟨gp, i, none⟩ = some (.slice p.A p.m p.c) ∧ Sl w p.g (.slice p.A p.m p.c) p.l
theorem Pcs.fr {S : Nat → Prop} {w w' : World} {gp : Nat} {ps : List Pc} (h : Pcs w gp ps) (hf : Fr S w w') (hs : ¬ S gp) (hS : ∀ p ∈ ps, p.g < w.heap.size → ¬ S p.g) : Pcs w' gp ps := fun i p hp =>
  ⟨cell_fr (h i p hp).1 hf hs, (h i p hp).2.fr hf (hS p (List.mem_of_getElem? hp))⟩
theorem Sl.off {w : World} {g : Nat} {v : Value} {l : List Int} (h : Sl w g v l) (N : Nat) (hN : w.heap.size ≤ N) : ∃ gc, gc ≠ N ∧ Sl w gc v l := by
  by_cases hl : l = []
  · subst hl
    exact ⟨N + 1, by omega, h.empty _⟩
  · exact ⟨g, by have := h.lt6 hl; omega, h⟩
theorem range_of {w : World} {g n c : Nat} {l : List Int} (h : Sl w g (.slice (some ⟨g, 0, none⟩) n c) l) (hl : l.length = n) (h0 : 0 < n) : w.rangeAt g 0 (vs .u8 l).toList := fun j v hj => by
  obtain ⟨o, ho, hc⟩ := h.at_ h0
  injection ho with ho
  injection ho with _ ho _
  subst ho
  rw [show (vs .u8 l).toList = bs l from rfl, bs_get] at hj
  obtain ⟨x, hx, rfl⟩ := Option.map_eq_some_iff.1 hj
  have hi := (List.getElem?_eq_some_iff.1 hx).1
  rw [hc j (by omega), List.getD_eq_getElem?_getD, hx]
  rfl
set_option maxRecDepth 100000 in
set_option maxHeartbeats 16000000 in
theorem kdigest_is (gx : Nat) (Ax : Option Addr) (mx cx : Nat) (X : List Int) (gp n : Nat) (ps : List Pc) (w : World) (hx : Sl w gx (.slice Ax mx cx) X) (hp : Pcs w gp ps) (hn : ps.length = n) (hnn : n ≤ 100) (ht : X.length + (flat ps).length ≤ 1125899906842624) (hgp : gp < w.heap.size) :
    Calls Try.prog 34 #[.slice Ax mx cx, .slice (some ⟨gp, 0, none⟩) n n] w fun e w' => e = .returned (.agg (vs .u8 (dig 32 [] (X ++ flat ps)))) ∧ Fr (fun _ => False) w w' := by
  obtain ⟨R, hR⟩ : ∃ D, D = dig 32 [] (X ++ flat ps) := ⟨_, rfl⟩
  have lR : Hid (R.length = 32 ∧ Bys R) := by rw [hR]; exact ⟨dig_length (by decide) _ _, dig_bys _ _ _⟩
  have CS : ∀ W g, HashAt W g 32 [] (X ++ flat ps) → Calls Try.prog 40 #[.pointer (some ⟨g, 0, none⟩)] W fun e w' => ∃ v, e = .returned v ∧ Nw W w' v R ∧ Fr (fun _ => False) W w' := fun W g h => by rw [hR]; exact hsum_is g 32 [] _ W h
  have HN : ∀ W, Calls Try.prog 39 #[.int .i64 32, .slice none 0 0] W fun e w' => ∃ g, W.heap.size ≤ g ∧ e = .returned (.tuple #[.pointer (some ⟨g, 0, none⟩), .int .i64 0]) ∧ HashAt w' g 32 [] [] ∧ Fr (fun _ => False) W w' := fun W => new_yes 32 0 none 0 0 [] W (Sl.nil _ _) (by decide) (by decide) (by decide)
  obtain ⟨Z, hZ⟩ : ∃ Z, Z = List.replicate 32 (0 : Int) := ⟨_, rfl⟩
  have hz : ∀ W : World, (zeroValue 24).run Try.prog W = .ok (.agg (vs .u8 Z)) W := fun W => by rw [hZ]; exact zeroA32 W
  have sR : Hid ((Try.prog.info? 24).map (·.size) = some (vs .u8 R).size) := by show _ = _; rw [szA32, vs_size, lR.out.1]
  have sR2 : Hid ((Try.prog.info? 24).map (·.size) = some R.length) := by show _ = _; rw [szA32, lR.out.1]
  have eZ : Hid ((vs .u8 Z).size = (vs .u8 R).size) := by show _ = _; rw [vs_size, vs_size, lR.out.1, hZ]; rfl
  have HX := Lib.hid hx
  have LX := Lib.hid hx.len
  have HP := Lib.hid hp
  have LN := Lib.hid hn
  have LM := Lib.hid hnn
  have HT := Lib.hid ht
  have HG := Lib.hid hgp
  rw [← hR]
  clear hR hZ hx hp hn hnn ht hgp
  go_enter Try.func34, Try.ntmps34
  go_upto_region 1 with (fail)
  have R0 : Hid (Ar (w.alloc (.cells (vs .u8 Z) 24)) w.heap.size 24 .u8 Z) := Ar.new w 24 .u8 Z
  have F0 : Hid (Fr (fun _ => False) w (w.alloc (.cells (vs .u8 Z) 24))) := (Fr.refl _ _).alloc _
  generalize w.alloc (.cells (vs .u8 Z) 24) = W0 at *
  clear hz
  go_upto_region 2 with (go_at_call 39; refine (HN _).mono ?_; rintro e w1 ⟨g, hg, rfl, hp, hf⟩; have GA := Lib.hid hg; have P1 := Lib.hid hp; have G1 := Lib.hid hf; clear hg hp hf)
  have F1 := Lib.hid (F0.out.trans G1.out)
  have R1 := Lib.hid (R0.out.fr G1.out (fun x => x))
  have NG : Hid (w.heap.size < g) := Nat.lt_of_lt_of_le R0.out.lt GA.out
  clear F0 R0 G1 GA HN
  obtain ⟨gc, hgc, hsc⟩ := HX.out.off g (by have := NG.out; omega)
  have NC : Hid (gc ≠ g) := hgc
  have X1 := Lib.hid (hsc.fr F1.out (fun _ x => x))
  clear hgc hsc HX
  go_upto_region 3 with (go_at_call 37; refine (hwrite_is g 32 [] [] gc Ax mx cx X w1 P1.out X1.out NC.out (by have := HT.out; have := LX.out; simp; omega)).mono ?_; rintro e w2 ⟨rfl, hp, hf⟩; rw [List.nil_append] at hp; have P2 := Lib.hid hp; have G2 := Lib.hid hf; clear hp hf)
  have R2 := Lib.hid (R1.out.fr G2.out (show ¬ w.heap.size = g by have := NG.out; omega))
  have F2 : Hid (Fr (fun _ => False) w w2) := F1.out.trans' G2.out (fun j hj e => by have := NG.out; omega)
  have F22 : Hid (Fr (fun j => w.heap.size < j) w2 w2) := Fr.refl _ _
  clear P1 X1 R1 F1 G2
  go_upto_region 4 with (fail)
  go_loopw [18] (fun u18 wr => ∃ i : Nat, u18 = .int .i64 i ∧ i ≤ n ∧ Hid (HashAt wr g 32 [] (X ++ flat (ps.take i))) ∧ Hid (Ar wr w.heap.size 24 .u8 Z) ∧ Hid (Fr (fun _ => False) w wr)) (fun u18 _ => n - (intOf u18).toNat)
  case atStart => exact ⟨0, rfl, by omega, by show HashAt _ _ _ _ _; rw [List.take_zero, flat_nil, List.append_nil]; exact P2.out, R2, F2⟩
  case round =>
  clear P2 F2 R2 F22
  obtain ⟨i, rfl, hi, hP, hR, hF⟩ := hrel
  by_cases hil : i < n
  · obtain ⟨p, hp⟩ : ∃ p, ps[i]? = some p := ⟨_, List.getElem?_eq_getElem (by rw [LN.out]; exact hil)⟩
    have cP := cell_fr (HP.out i p hp).1 hF.out (fun x => x)
    obtain ⟨gd, hgd, hsd⟩ := (HP.out i p hp).2.off g (by have := NG.out; omega)
    have SD := Lib.hid (hsd.fr hF.out (fun _ x => x))
    have ND : Hid (gd ≠ g) := hgd
    have FT := Lib.hid (flat_take ps i p hp)
    have BD : Hid ((X ++ flat (ps.take i)).length + p.m ≤ 1125899906842624) := by
      have e1 := flat_le ps (i + 1)
      rw [FT.out, List.length_append, (HP.out i p hp).2.len] at e1
      show _ ≤ _
      rw [List.length_append]
      have := HT.out
      omega
    have HWR : ∀ W, HashAt W g 32 [] (X ++ flat (ps.take i)) → Sl W gd (.slice p.A p.m p.c) p.l → Calls Try.prog 37 #[.pointer (some ⟨g, 0, none⟩), .slice p.A p.m p.c] W fun e w' => e = .returned (.tuple #[]) ∧ HashAt w' g 32 [] (X ++ flat (ps.take (i + 1))) ∧ Fr (fun i => i = g) W w' := fun W h1 h2 => by
      rw [FT.out, ← List.append_assoc]
      exact hwrite_is g 32 [] _ gd p.A p.m p.c p.l W h1 h2 ND.out BD.out
    obtain ⟨pg, pA, pm, pc, pl⟩ := p
    have t1 : ((i : Int)).toNat = i := by omega
    have t2 : 0 ≤ (i : Int) := by omega
    have t3 : (i : Int) < n := by omega
    have t4 : IntKind.i64.wrap ((i : Int) + 1) = ((i + 1 : Nat) : Int) := by have := LM.out; rw [IntKind.wrap_i64]; omega
    clear hp hgd hsd FT BD
    go_wp2_with (go_at_call 37; refine (HWR _ hP.out SD.out).mono ?_; rintro e w3 ⟨rfl, hp, hf⟩; have P3 := Lib.hid hp; have G3 := Lib.hid hf; clear hp hf)
    go_roundw
    case rel => exact ⟨i + 1, by go_num, by omega, P3, hR.out.fr G3.out (show ¬ w.heap.size = g by have := NG.out; omega), hF.out.trans' G3.out (fun j hj e => by have := NG.out; omega)⟩
    case measure => simp [intOf]; omega
  obtain rfl : i = n := by omega
  have P9 : Hid (HashAt wr g 32 [] (X ++ flat ps)) := by
    have h := hP.out
    rwa [List.take_of_length_le (by rw [LN.out]; exact Nat.le_refl _)] at h
  clear hP
  go_upto_region 8 with (fail)
  go_wp2_with (first
    | (go_at_call 40; refine (CS _ g P9.out).mono ?_; rintro e w5 ⟨v5, rfl, hn, hf⟩; obtain ⟨ga, ca, rfl, hga, _, hsa⟩ := hn.open (by rw [lR.out.1]; decide); rw [lR.out.1] at hsa ⊢; have RG := Lib.hid (range_of hsa lR.out.1 (by decide)); have R5 := Lib.hid (hR.out.fr hf (fun x => x)); have F5 := Lib.hid (hF.out.trans hf); clear hf hn hsa hga)
    | refine wpList_plain rfl fun K' hK' => wp_value _ _ (run_arr 24 (.tmp 27) rfl (some ⟨ga, 0, none⟩) 32 ca rfl Try.underlying24 (by decide) _) (hK' _ _ ?_)
    | refine wpList_mid rfl 24 (.tmp 28) rfl ga 0 rfl .u8 R _ RG.out Try.underlying24 rfl sR2.out ?_
    | refine wpList_store_row rfl 24 (.tmp 4) (.tmp 29) rfl w.heap.size (vs .u8 R) rfl rfl 24 _ R5.out sR.out eZ.out (vs_all _ _) ?_)
  refine bodyPost_ret (results_cell_row Try.results34 _ _ _ 24 _ (0, 0) _ rfl (setRow_heap _ _ _ _ _ _ R5.out) Try.underlying24 rfl sR.out) rfl ⟨rfl, F5.out.setRow _ (.inr (Nat.le_refl _))⟩
end Go.Proofs.Ytebknlhooijkcaa
