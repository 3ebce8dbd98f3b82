/- PolyKnown answers true: the given statement PolyKnownSaid. No condition. -/
import Derived.Test.YtcoggpedpclkaaaNn
import Derived.Test.YtcoggpedpclkaaaLawSplit
import Derived.Test.YtcoggpedpclkaaaRw
import Derived.Test.YtcoggpedpclkaaaSm
import Derived.Great.BuildSlice
namespace Go.Proofs.Ytcoggpedpclkaaa
set_option linter.unusedSimpArgs false
set_option linter.unusedVariables false
open Go.ChangeShapes Go.WideShapes Go.ChangeAt Go.RowKit

def kTwo : List Int := 2 :: List.replicate 31 0
def kOne : List Int := 1 :: List.replicate 31 0
def kWide : List Int := 2 :: List.replicate 15 0 ++ List.replicate 16 255
def kFull : List Int := List.replicate 16 255 ++ List.replicate 16 0
def tNil : List Int := List.replicate 16 0
def tThree : List Int := 3 :: List.replicate 15 0
def tFive : List Int := 5 :: List.replicate 15 0
def tEleven : List Int := 250 :: List.replicate 15 255
def bEight : List Int := 2 :: List.replicate 15 0
def fu (n : Nat) : List Int := List.replicate n 255
theorem seven_is : tag kTwo (fu 16) = tThree := by decide +kernel
theorem eight_is : tag kWide bEight = tThree := by decide +kernel
theorem nine_is : tag kOne ((((fu 16 ++ [240]) ++ fu 15) ++ [17]) ++ List.replicate 15 0) = tFive := by decide +kernel
theorem ten_is : tag kOne (((fu 16 ++ [251]) ++ List.replicate 15 254) ++ List.replicate 16 1) = tNil := by decide +kernel
theorem eleven_is : tag kTwo ([253] ++ fu 15) = tEleven := by decide +kernel
theorem kTwo_by : Bys kTwo := bys_of _ (by decide +kernel)
theorem kOne_by : Bys kOne := bys_of _ (by decide +kernel)
theorem kWide_by : Bys kWide := bys_of _ (by decide +kernel)
theorem kFull_by : Bys kFull := bys_of _ (by decide +kernel)
theorem fu_by (n : Nat) : Bys (fu n) := fun b hb => by rw [(List.mem_replicate.1 hb).2]; omega
theorem fu_length (n : Nat) : (fu n).length = n := List.length_replicate
theorem fu_take (n m : Nat) (h : m ≤ n) : (fu n).take m = fu m := by unfold fu; rw [List.take_replicate, Nat.min_eq_left h]
/-- The wide key as it is filled. -/
def wk (i : Nat) : List Int := fil kWide (16 + i) 0
theorem wk_zero : wk 0 = kTwo := by decide +kernel
theorem wk_all : wk 16 = kWide := by decide +kernel
theorem wk_length (i : Nat) (hi : i ≤ 16) : (wk i).length = 32 := fil_length kWide (16 + i) 0 (by show 16 + i ≤ 32; omega)
theorem wk_set (i : Nat) (hi : i < 16) : (wk i).set (16 + i) 255 = wk (i + 1) := fil_set kWide (16 + i) 0 255 (by
  unfold kWide
  rw [List.getElem?_append_right (by simp), List.getElem?_replicate, if_pos (by simp; omega)])
theorem Ar.sl {w : World} {g : Nat} {l : List Int} (h : Ar w g 5 .u8 l) (m c : Nat) (hb : Bys l) (hm : m ≤ l.length) (hmc : m ≤ c) (hc : c ≤ maxLen) : Sl w g (.slice (some ⟨g, 0, none⟩) m c) (l.take m) := by
  have hl : (l.take m).length = m := by rw [List.length_take]; omega
  have := Sl.block (c := c) (hb.take m) h (fun j hj => by
    rw [hl] at hj
    rw [vs_bs, bs_get, List.getElem?_take, if_pos hj]
    simp [bs_get]) (by rw [hl]; exact hmc) hc
  rwa [hl] at this
theorem run_grow' {w : World} {g0 : Nat} {a0 : Addr} {n c0 : Nat} {l : List Int} (h : Sl w g0 (.slice (some a0) n c0) l) {g : Nat} {a : Addr} {m c : Nat} {k : List Int} (hs : Sl w g (.slice (some a) m c) k) (hroom : c0 < n + m) (hlen : n + m ≤ 140737488355328) :
    ∃ A' N c' w', (Builtin.append_ #[24, 24] 24 #[.slice (some a0) n c0, .slice (some a) m c]).run Try.prog w = .ok (.slice A' N c') w' ∧ Ow w' (.slice A' N c') (l ++ k) ∧ Fr (fun _ => False) w w' ∧ (∀ j, (Value.slice A' N c').ownBlock = some j → w.heap.size ≤ j) := by
  obtain ⟨c', w', h1, h2, h3⟩ := run_grow 24 h hs hroom hlen
  exact ⟨_, _, c', w', h1, h2, h3, fun j hj => by injection hj with hj; exact Nat.le_of_eq hj⟩
theorem Ap2.next {w w' W0 : World} {v v' : Value} {l k : List Int} (h : Ap2 w v l k v' w') (G : Fr (fun _ => False) W0 w) (B : ∀ j, v.ownBlock = some j → W0.heap.size ≤ j) : Ow w' v' (l ++ k) ∧ Fr (fun _ => False) W0 w' ∧ ∀ j, v'.ownBlock = some j → W0.heap.size ≤ j := by
  refine ⟨h.own, G.grown h.grown (fun j hj => .inr (B j hj)), fun j hj => ?_⟩
  rcases h.at_ with e | e
  · rw [e] at hj; exact B j hj
  · rw [e] at hj
    injection hj with hj
    rw [← hj]
    exact G.size
theorem lit_sl (w : World) (x : Int) (hx : 0 ≤ x ∧ x ≤ 255) : Sl (w.alloc (.cells #[.int .u8 x] 5)) w.heap.size (.slice (some ⟨w.heap.size, 0, none⟩) 1 1) [x] :=
  Sl.block (fun b hb => by rw [List.mem_singleton.1 hb]; exact hx) (heap_alloc_new w _) (fun j _ => by simp [bs]) (by simp) (by decide)
theorem lit_ow (w : World) (x : Int) (hx : 0 ≤ x ∧ x ≤ 255) : Ow (w.alloc (.cells #[.int .u8 x] 5)) (.slice (some ⟨w.heap.size, 0, none⟩) 1 1) [x] :=
  ⟨⟨by simp [bs], .inr ⟨w.heap.size, 1, #[.int .u8 x], by simp, Nat.zero_le _, heap_alloc_new w _, by simp, by decide, by simp, by simp [bs]⟩⟩, fun b hb => by rw [List.mem_singleton.1 hb]; exact hx⟩
theorem Ow.len {w : World} {A : Option Addr} {n c : Nat} {l : List Int} (h : Ow w (.slice A n c) l) : l.length = n := h.sl.len
theorem bEight_by : Bys bEight := bys_of _ (by decide +kernel)
set_option maxRecDepth 100000 in
set_option maxHeartbeats 32000000 in
theorem law_known_any (w : World) : Calls Try.prog 13 #[] w fun e w' => e = .returned (.bool true) ∧ Fr (fun _ => False) w w' := by
  obtain ⟨D, hD⟩ : ∃ x, x = fu 64 := ⟨_, rfl⟩
  obtain ⟨KT, hKT⟩ : ∃ x, x = kTwo := ⟨_, rfl⟩
  obtain ⟨KO, hKO⟩ : ∃ x, x = kOne := ⟨_, rfl⟩
  obtain ⟨KW, hKW⟩ : ∃ x, x = kWide := ⟨_, rfl⟩
  obtain ⟨KF, hKF⟩ : ∃ x, x = kFull := ⟨_, rfl⟩
  obtain ⟨T0, hT0⟩ : ∃ x, x = tNil := ⟨_, rfl⟩
  obtain ⟨T3, hT3⟩ : ∃ x, x = tThree := ⟨_, rfl⟩
  obtain ⟨T5, hT5⟩ : ∃ x, x = tFive := ⟨_, rfl⟩
  obtain ⟨TE, hTE⟩ : ∃ x, x = tEleven := ⟨_, rfl⟩
  obtain ⟨WK, hWK⟩ : ∃ x, x = wk := ⟨_, rfl⟩
  obtain ⟨FU, hFU⟩ : ∃ x, x = fu := ⟨_, rfl⟩
  have HET0 : ∀ W, (Op.equalIn 10000 26 (.agg (vs .u8 T0)) (.agg (vs .u8 T0))).run Try.prog W = .ok true W := fun W => by rw [hT0]; exact (eq26 _ _ rfl rfl W).trans (by rw [decide_eq_true rfl])
  have HET3 : ∀ W, (Op.equalIn 10000 26 (.agg (vs .u8 T3)) (.agg (vs .u8 T3))).run Try.prog W = .ok true W := fun W => by rw [hT3]; exact (eq26 _ _ rfl rfl W).trans (by rw [decide_eq_true rfl])
  have HET5 : ∀ W, (Op.equalIn 10000 26 (.agg (vs .u8 T5)) (.agg (vs .u8 T5))).run Try.prog W = .ok true W := fun W => by rw [hT5]; exact (eq26 _ _ rfl rfl W).trans (by rw [decide_eq_true rfl])
  have HETE : ∀ W, (Op.equalIn 10000 26 (.agg (vs .u8 TE)) (.agg (vs .u8 TE))).run Try.prog W = .ok true W := fun W => by rw [hTE]; exact (eq26 _ _ rfl rfl W).trans (by rw [decide_eq_true rfl])
  have NKT : Hid (KT.length = 32 ∧ Bys KT) := by rw [hKT]; exact ⟨rfl, kTwo_by⟩
  have sKT := Lib.hid (keys_info NKT.out.1)
  have NKO : Hid (KO.length = 32 ∧ Bys KO) := by rw [hKO]; exact ⟨rfl, kOne_by⟩
  have sKO := Lib.hid (keys_info NKO.out.1)
  have NKW : Hid (KW.length = 32 ∧ Bys KW) := by rw [hKW]; exact ⟨rfl, kWide_by⟩
  have sKW := Lib.hid (keys_info NKW.out.1)
  have NKF : Hid (KF.length = 32 ∧ Bys KF) := by rw [hKF]; exact ⟨rfl, kFull_by⟩
  have sKF := Lib.hid (keys_info NKF.out.1)
  have lD : Hid (D.length = 64 ∧ Bys D) := by rw [hD]; exact ⟨fu_length 64, fu_by 64⟩
  have D2 : Hid (∀ i, i < 64 → D[i]? = some 255) := by
    show ∀ _, _
    intro i hi
    rw [hD, fu, List.getElem?_replicate, if_pos hi]
  have D3 : Hid (∀ i, i ≤ 64 → D.take i = FU i) := by show ∀ _, _; intro i hi; rw [hD, hFU]; exact fu_take 64 i hi
  have D4 : Hid (fil D 64 0 = D) := by show _ = _; have h := fil_all D 0; rwa [lD.out.1] at h
  have D5 : Hid (fil D 0 0 = List.replicate 64 0) := by show _ = _; rw [fil_zero, lD.out.1]
  have E7 : Hid (tag KT (FU 16) = T3) := by show _ = _; rw [hKT, hFU, hT3]; exact seven_is
  have E8 : Hid (tag KW bEight = T3) := by show _ = _; rw [hKW, hT3]; exact eight_is
  have E9 : Hid (tag KO ((((FU 16 ++ [240]) ++ FU 15) ++ [17]) ++ List.replicate 15 0) = T5) := by show _ = _; rw [hKO, hFU, hT5]; exact nine_is
  have E10 : Hid (tag KO (((FU 16 ++ [251]) ++ List.replicate 15 254) ++ List.replicate 16 1) = T0) := by show _ = _; rw [hKO, hFU, hT0]; exact ten_is
  have E11 : Hid (tag KT ([253] ++ FU 15) = TE) := by show _ = _; rw [hKT, hFU, hTE]; exact eleven_is
  have W0' : Hid (WK 0 = KT) := by show _ = _; rw [hWK, hKT]; exact wk_zero
  have W1' : Hid (WK 16 = KW) := by show _ = _; rw [hWK, hKW]; exact wk_all
  have W2' : Hid (∀ i, i ≤ 16 → (WK i).length = 32) := by show ∀ _, _; rw [hWK]; exact wk_length
  have W3' : Hid (∀ i, i < 16 → (WK i).set (16 + i) 255 = WK (i + 1)) := by show ∀ _, _; rw [hWK]; exact wk_set
  have LF : Hid (∀ i, (FU i).length = i ∧ Bys (FU i)) := by show ∀ _, _; intro i; rw [hFU]; exact ⟨fu_length i, fu_by i⟩
  have UKT := Lib.hid hKT
  have UKO := Lib.hid hKO
  have UKW := Lib.hid hKW
  have UKF := Lib.hid hKF
  have UT0 := Lib.hid hT0
  have UT3 := Lib.hid hT3
  have UT5 := Lib.hid hT5
  have UTE := Lib.hid hTE
  clear hD hWK hFU hKT hKO hKW hKF hT0 hT3 hT5 hTE
  obtain ⟨Z, hZ⟩ : ∃ Z, Z = List.replicate 32 (0 : Int) := ⟨_, rfl⟩
  have hz : ∀ W : World, (zeroValue 23).run Try.prog W = .ok (.agg (vs .u8 Z)) W := fun W => by rw [hZ]; kernel_rfl
  have lZ : Hid (Z.length = 32) := by show _ = _; rw [hZ]; rfl
  have hmk : ∀ W : World, (Instr.makeSlice 24 (.int .i64 64) (.int .i64 64)).run Try.prog W = .ok (.slice (some ⟨W.heap.size, 0, none⟩) 64 64) (W.alloc (.cells (vs .u8 (fil D 0 0)) 5)) := fun W => by
    have h := run_mk 64 (by decide) W
    rw [D5.out]
    have e : vs .u8 (List.replicate 64 0) = (List.replicate 64 (Value.int .u8 0)).toArray := by simp [vs]
    rw [e]
    exact h
  clear hZ
  go_enter Try.func13, Try.ntmps13
  go_upto_region 3 with (fail)
  obtain ⟨gf, hgf⟩ : ∃ g, g = w.heap.size := ⟨_, rfl⟩
  have X0 : Hid (Ar (w.alloc (.cells (vs .u8 (fil D 0 0)) 5)) gf 5 .u8 (fil D 0 0)) := by rw [hgf]; exact Ar.new w 5 .u8 _
  have F0 : Hid (Fr (fun _ => False) w (w.alloc (.cells (vs .u8 (fil D 0 0)) 5))) := (Fr.refl _ _).alloc _
  rw [← hgf]
  generalize w.alloc (.cells (vs .u8 (fil D 0 0)) 5) = W0 at *
  have hgf0 : w.heap.size ≤ gf := by omega
  clear hgf hmk
  go_loopw [2] (fun u2 wr => ∃ i : Nat, u2 = .int .i64 i ∧ i ≤ 64 ∧ Hid (Ar wr gf 5 .u8 (fil D i 0)) ∧ Hid (Fr (fun _ => False) w wr)) (fun u2 _ => 64 - (intOf u2).toNat)
  case atStart => exact ⟨0, rfl, by omega, X0, F0⟩
  case round =>
  clear X0 F0
  obtain ⟨i, rfl, hi, hA, hF⟩ := hrel
  by_cases hil : i < 64
  · have ck := hA.out.cell (fil_get' D i 0 (by rw [lD.out.1]; exact hil))
    have fk := hA.out.frozen i
    have A9 := Lib.hid (hA.out.set i 255)
    rw [fil_set D i 0 255 (D2.out i hil)] at A9
    have j1 : ((i : Int)).toNat = i := by omega
    have j2 : 0 ≤ (i : Int) := by omega
    have j3 : (i : Int) < 64 := by omega
    clear hA
    go_wp2
    go_roundw
    case rel => exact ⟨i + 1, by go_num, by omega, A9, hF.out.setCell _ (.inr hgf0)⟩
    case measure => simp [intOf]; omega
  obtain rfl : i = 64 := by omega
  have X1 : Hid (Ar wr gf 5 .u8 D) := by have h := hA.out; rwa [D4.out] at h
  have F1 := hF
  clear hA hF hi hil D2 D4 D5
  obtain ⟨wo, rfl⟩ : ∃ wo : World, wo = wr := ⟨_, rfl⟩
  go_upto_region 6 with (fail)
  refine wp_region_list ?_
  refine wpList_plain rfl fun K hK => wp_value (.agg (vs .u8 KT)) wo (by rw [UKT.out]; kernel_rfl) (hK _ _ ?_)
  refine wpList_plain rfl fun K hK => wp_value (.agg (vs .u8 KO)) wo (by rw [UKO.out]; kernel_rfl) (hK _ _ ?_)
  refine wpList_plain rfl fun _ hK1 => wp_alloc_any 23 rfl (vs .u8 Z) hz (hK1 _ _ ?_)
  refine wpList_plain rfl fun _ hK1 => wp_alloc_any 23 rfl (vs .u8 Z) hz (hK1 _ _ ?_)
  obtain ⟨q3, hq3⟩ : ∃ q, q = wo.heap.size := ⟨_, rfl⟩
  have e4 : (wo.alloc (.cells (vs .u8 Z) 23)).heap.size = q3 + 1 := by rw [hq3]; simp
  have Y3 : Ar ((wo.alloc (.cells (vs .u8 Z) 23)).alloc (.cells (vs .u8 Z) 23)) q3 23 .u8 Z := by rw [hq3]; exact (Ar.new wo 23 .u8 Z).alloc _
  have Y4 : Ar ((wo.alloc (.cells (vs .u8 Z) 23)).alloc (.cells (vs .u8 Z) 23)) (q3 + 1) 23 .u8 Z := by rw [hq3]; exact Ar.alloc1 wo 23 23 .u8 .u8 Z Z
  have hx3 : gf < q3 := by rw [hq3]; exact X1.out.lt
  have hff : Fr (fun _ => False) wo ((wo.alloc (.cells (vs .u8 Z) 23)).alloc (.cells (vs .u8 Z) 23)) := ((Fr.refl _ _).alloc _).alloc _
  have hw3 : wo.heap.size ≤ q3 := by omega
  rw [← hq3, e4]
  clear hq3 e4
  generalize (wo.alloc (.cells (vs .u8 Z) 23)).alloc (.cells (vs .u8 Z) 23) = wa at *
  refine wpList_store_row rfl 23 (.tmp 3) (.tmp 28) rfl q3 (vs .u8 KT) rfl rfl 23 (vs .u8 Z) Y3 sKT.out (by rw [vs_size, vs_size, lZ.out, NKT.out.1]) (vs_all _ _) ?_
  refine wpList_store_row rfl 23 (.tmp 4) (.tmp 29) rfl (q3 + 1) (vs .u8 KO) rfl rfl 23 (vs .u8 Z) (Y4.rowFar (show q3 + 1 ≠ q3 by omega) _) sKO.out (by rw [vs_size, vs_size, lZ.out, NKO.out.1]) (vs_all _ _) ?_
  have X3 := Lib.hid (((Ar.row Y3 KT).rowFar (show q3 ≠ q3 + 1 by omega) (vs .u8 KO)))
  have X4 := Lib.hid (Ar.row (Y4.rowFar (show q3 + 1 ≠ q3 by omega) (vs .u8 KT)) KO)
  have hf2 : Fr (fun _ => False) wo ((wa.setRow q3 (vs .u8 KT)).setRow (q3 + 1) (vs .u8 KO)) := (hff.setRow _ (.inr hw3)).setRow _ (.inr (by omega))
  have X2 := Lib.hid (Ar.fr X1.out hf2 (fun x => x))
  have F2 := Lib.hid (F1.out.trans hf2)
  generalize (wa.setRow q3 (vs .u8 KT)).setRow (q3 + 1) (vs .u8 KO) = W2 at *
  clear hff hf2 Y3 Y4 X1 F1 hw3
  try simp only [Act.put, List.setIfInBounds_toArray, List.set_cons_succ, List.set_cons_zero]
  go_upto_region 8 with (first
    | refine wpList_load_row rfl 23 (.tmp 3) rfl q3 rfl 23 (vs .u8 KT) (0, 0) _ X3.out Try.underlying23 rfl sKT.out ?_
    | refine wpList_store_row rfl 23 (.tmp 5) (.tmp 30) rfl W2.heap.size (vs .u8 KT) rfl rfl 23 (vs .u8 Z) (heap_alloc_new W2 (.cells (vs .u8 Z) 23)) sKT.out (by rw [vs_size, vs_size, lZ.out, NKT.out.1]) (vs_all _ _) ?_)
  obtain ⟨q5, hq5⟩ : ∃ q, q = W2.heap.size := ⟨_, rfl⟩
  have hx5 : q3 + 1 < q5 := by rw [hq5]; exact X4.out.lt
  have Y5 : Hid (Ar ((W2.alloc (.cells (vs .u8 Z) 23)).setRow W2.heap.size (vs .u8 KT)) q5 23 .u8 (WK 0)) := by rw [hq5, W0'.out]; exact (Ar.new W2 23 .u8 Z).row KT
  have hff : Fr (fun _ => False) W2 ((W2.alloc (.cells (vs .u8 Z) 23)).setRow W2.heap.size (vs .u8 KT)) := ((Fr.refl _ _).alloc _).setRow _ (.inr (Nat.le_refl _))
  have X5 := Lib.hid (Ar.fr X2.out hff (fun x => x))
  have X6 := Lib.hid (Ar.fr X3.out hff (fun x => x))
  have X7 := Lib.hid (Ar.fr X4.out hff (fun x => x))
  have F5 := Lib.hid (F2.out.trans hff)
  rw [← hq5] at X5 X6 X7 F5 Y5 ⊢
  clear hff hq5 X2 X3 X4 F2 W0'
  generalize (W2.alloc (.cells (vs .u8 Z) 23)).setRow q5 (vs .u8 KT) = W3 at *
  go_upto_region 9 with (fail)
  go_loopw [6] (fun u6 wr => ∃ i : Nat, u6 = .int .i64 (16 + i) ∧ i ≤ 16 ∧ Hid (Ar wr q5 23 .u8 (WK i)) ∧ Hid (Fr (fun j => j = q5) W3 wr)) (fun u6 _ => 32 - (intOf u6).toNat)
  case atStart => exact ⟨0, rfl, by omega, Y5, Fr.refl _ _⟩
  case round =>
  clear Y5
  obtain ⟨i, rfl, hi, hA, hF⟩ := hrel
  by_cases hil : i < 16
  · have ck := hA.out.cell (getD_some (l := WK i) (i := 16 + i) (by rw [W2'.out i hi]; omega))
    have fk := hA.out.frozen (16 + i)
    have A9 := Lib.hid (hA.out.set (16 + i) 255)
    rw [W3'.out i hil] at A9
    have j1 : (16 + (i : Int)).toNat = 16 + i := by omega
    have j2 : 0 ≤ 16 + (i : Int) := by omega
    have j3 : 16 + (i : Int) < 32 := by omega
    have j4 : (i : Int) < 16 := by omega
    clear hA
    go_wp2
    go_roundw
    case rel => exact ⟨i + 1, by go_num, by omega, A9, hF.out.setCell _ (.inl rfl)⟩
    case measure => simp [intOf]; omega
  obtain rfl : i = 16 := by omega
  obtain ⟨W4, rfl⟩ : ∃ wo : World, wo = wr := ⟨_, rfl⟩
  have X8 : Hid (Ar W4 q5 23 .u8 KW) := by have h := hA.out; rwa [W1'.out] at h
  have Xf := Lib.hid (Ar.fr X5.out hF.out (show ¬ gf = q5 by omega))
  have Xt := Lib.hid (Ar.fr X6.out hF.out (show ¬ q3 = q5 by omega))
  have Xo := Lib.hid (Ar.fr X7.out hF.out (show ¬ q3 + 1 = q5 by omega))
  have hq5w : w.heap.size ≤ q5 := by omega
  have F4 : Hid (Fr (fun _ => False) w W4) := F5.out.trans' hF.out (fun i hi e => absurd e (by omega))
  clear X5 X6 X7 F5 hF hA hi hil W1' W2' W3'
  have SF : ∀ V, Fr (fun _ => False) W4 V → ∀ m c, m ≤ 64 → m ≤ c → c ≤ 64 → Sl V gf (.slice (some ⟨gf, 0, none⟩) m c) (FU m) := fun V h m c h1 h2 h3 => by
    have := Ar.sl (Ar.fr Xf.out h (fun x => x)) m c lD.out.2 (by rw [lD.out.1]; exact h1) h2 (by unfold maxLen; omega)
    rwa [D3.out m h1] at this
  have LG : gf < W4.heap.size := Xf.out.lt
  have HSF := Lib.hid SF
  clear SF
  go_upto_region 12 with (fail)
  have CT7 : ∀ V, Calm W4 V → Calls Try.prog 15 #[.agg (vs .u8 KT), .slice (some ⟨gf, 0, none⟩) 16 64] V fun e w' => e = .returned (.agg (vs .u8 T3)) ∧ Calm W4 w' := fun V h => by
    rw [← E7.out]
    exact (tag_is KT gf (some ⟨gf, 0, none⟩) 16 64 (FU 16) V NKT.out.1 NKT.out.2 (HSF.out V h 16 64 (by omega) (by omega) (by omega)) (fun _ => Nat.lt_of_lt_of_le LG h.size)).mono fun _ _ ⟨he, hf⟩ => ⟨he, Fr.trans h hf⟩
  refine wp_region_quiet (C := Calm W4) (by kernel_rfl) (by kernel_rfl) (Calm.start _ _ (Fr.refl _ _)) ?_
  refine BigFrame.wpQuiet_want rfl fun K hK => quiet_load 23 (.tmp 3) rfl (q3) rfl 23 _ (0, 0) _ (fun _ h => Calm.at Xt.out h) Try.underlying23 rfl sKT.out (hK _ ?_)
  refine BigFrame.wpQuiet_want rfl fun K hK => ?_
  try simp only [Act.put, List.setIfInBounds_toArray, List.set_cons_succ, List.set_cons_zero]
  go_big_quiet_op
  refine hK _ ?_
  refine BigFrame.wpQuiet_want rfl fun K hK => ?_
  try simp only [Act.put, List.setIfInBounds_toArray, List.set_cons_succ, List.set_cons_zero]
  go_big_quiet_op
  first
    | refine ⟨_, fun _ _ => rfl, hK _ ?_⟩
    | refine hK _ ?_
  refine BigFrame.wpQuiet_want rfl fun K hK => ?_
  try simp only [Act.put, List.setIfInBounds_toArray, List.set_cons_succ, List.set_cons_zero]
  go_big_quiet_op
  refine ⟨_, CT7, hK _ ?_⟩
  refine BigFrame.wpQuiet_want rfl fun K hK => quiet_run (.agg (vs .u8 T3)) (fun W _ => by rw [UT3.out]; kernel_rfl) (hK _ ?_)
  refine BigFrame.wpQuiet_want rfl fun K hK => ?_
  try simp only [Act.put, List.setIfInBounds_toArray, List.set_cons_succ, List.set_cons_zero]
  go_big_quiet_op
  first
    | refine ⟨_, fun _ _ => rfl, hK _ ?_⟩
    | refine hK _ ?_
  refine BigFrame.wpQuiet_want rfl fun K hK => ?_
  try simp only [Act.put, List.setIfInBounds_toArray, List.set_cons_succ, List.set_cons_zero]
  go_big_quiet_op
  refine hK _ ?_
  refine wpQuiet_nil ?_
  intro w5 hw5
  have F5 : Hid (Fr (fun _ => False) w w5) := F4.out.trans hw5
  have G5 := Lib.hid hw5
  clear hw5
  try simp only [Act.put, List.setIfInBounds_toArray, List.set_cons_succ, List.set_cons_zero]
  go_upto_region 13 with (fail)
  refine wp_region_list ?_
  refine wpList_load_row rfl 23 (.tmp 5) rfl q5 rfl 23 (vs .u8 KW) (0, 0) _ (Ar.fr X8.out G5.out (fun x => x)) Try.underlying23 rfl sKW.out ?_
  refine wpList_buildFlat rfl 24 5 16 _ rfl .u8 bEight Try.underlying24 size5 (by kernel_rfl) rfl (by decide) (by decide) (by kernel_rfl) ?_
  change wpList _ _ _ _ _ (w5.alloc (.cells (vs .u8 bEight) 5))
  have S6 : Sl (w5.alloc (.cells (vs .u8 bEight) 5)) w5.heap.size (.slice (some ⟨w5.heap.size, 0, none⟩) 16 16) bEight := Sl.block bEight_by (heap_alloc_new w5 _) (fun j _ => by rw [vs_bs]; simp) (by decide) (by decide)
  have CT8 := tag_is KW w5.heap.size (some ⟨w5.heap.size, 0, none⟩) 16 16 bEight (w5.alloc (.cells (vs .u8 bEight) 5)) NKW.out.1 NKW.out.2 S6 (fun _ => by simp)
  rw [E8.out] at CT8
  have G6 : Fr (fun _ => False) W4 (w5.alloc (.cells (vs .u8 bEight) 5)) := G5.out.alloc _
  generalize w5.alloc (.cells (vs .u8 bEight) 5) = w6 at *
  try simp only [Act.put, List.setIfInBounds_toArray, List.set_cons_succ, List.set_cons_zero]
  refine wpList_plain rfl fun _ hK1 => wp_enter 15 #[.agg (vs .u8 KW), .slice (some ⟨w5.heap.size, 0, none⟩) 16 16] (by kernel_rfl) (CT8.mono ?_)
  rintro e w7 ⟨rfl, hf⟩
  refine hK1 _ _ ?_
  refine wpList_plain rfl fun K hK => wp_value (.agg (vs .u8 T3)) w7 (by rw [UT3.out]; kernel_rfl) (hK _ _ ?_)
  have G7 := Lib.hid (G6.trans hf)
  clear S6 CT8 G6 hf G5 F5 CT7
  try simp only [Act.put, List.setIfInBounds_toArray, List.set_cons_succ, List.set_cons_zero]
  go_upto_region 14 with (fail)
  obtain ⟨A14, N14, c14, v14, R14, O14, f14, B14⟩ := run_grow' (HSF.out _ (G7.out.alloc (.cells #[.int .u8 240] 5)) 16 16 (by omega) (by omega) (by omega)) (lit_sl w7 240 (by omega)) (by omega) (by omega)
  have H14 := Lib.hid O14
  have G14 := Lib.hid ((G7.out.alloc (.cells #[.int .u8 240] 5)).trans f14)
  have D14 : Hid (∀ j, (Value.slice A14 N14 c14).ownBlock = some j → W4.heap.size ≤ j) := fun j hj => Nat.le_trans (G7.out.alloc (.cells #[.int .u8 240] 5)).size (B14 j hj)
  clear O14 f14 B14
  go_upto_region 15 with (at_builtin; refine Lib.wpList_append_run _ rfl (.tmp 49) (.tmp 50) 24 24 rfl _ _ rfl rfl _ _ R14 ?_)
  clear R14 G7
  have M14 : FU 16 = FU 16 := rfl
  go_upto_region 16 with (at_builtin; refine wpList_own rfl (.tmp 52) (.tmp 54) rfl H14.out rfl rfl (HSF.out _ G14.out 15 64 (by omega) (by omega) (by omega)) (by rw [List.length_append, (LF.out 16).1]; simp) ?_; intro A15 N15 c15 w15 hap hN15; have HA := Lib.hid hap; clear hap hN15)
  obtain ⟨r1, r2, r3⟩ := HA.out.next G14.out D14.out
  have H15 := Lib.hid r1
  have G15 := Lib.hid r2
  have D15 := Lib.hid r3
  clear r1 r2 r3 HA H14 G14 D14 M14
  go_upto_region 17 with (at_builtin; refine wpList_own rfl (.tmp 56) (.tmp 57) rfl (H15.out.keep (S := fun _ => False) ((Fr.refl _ _).alloc (.cells #[.int .u8 17] 5)) (fun _ _ x => x)) rfl rfl (lit_sl w15 17 (by omega)) (by simp [(LF.out 16).1, (LF.out 15).1]) ?_; intro A16 N16 c16 w16 hap hN16; have HA := Lib.hid hap; clear hap hN16)
  obtain ⟨r1, r2, r3⟩ := HA.out.next (G15.out.alloc _) D15.out
  have H16 := Lib.hid r1
  have G16 := Lib.hid r2
  have D16 := Lib.hid r3
  clear r1 r2 r3 HA H15 G15 D15
  obtain ⟨A17, N17, c17, w17, R17, P17, hN17⟩ := run_own_zeros 24 H16.out 15 (by omega) (by simp only [List.length_append, (LF.out 16).1, (LF.out 15).1, List.length_singleton]; omega) (by simp only [List.length_append, List.length_singleton]; omega)
  obtain ⟨r1, r2, r3⟩ := P17.next G16.out D16.out
  have H17 := Lib.hid r1
  have G17 := Lib.hid r2
  clear r1 r2 r3 P17 hN17
  have R17' : (Builtin.append_ #[24, 3] 24 #[.slice A16 N16 c16, .int .i64 15]).run Try.prog w16 = .ok (.slice A17 N17 c17) w17 := by
    have h := R17
    rw [show ((15 : Nat) : Int) = 15 from rfl] at h
    exact h
  clear R17
  go_upto_region 18 with (at_builtin; refine Lib.wpList_append_run _ rfl (.tmp 59) (.const (.int .i64 15)) 24 3 rfl _ _ rfl rfl _ _ R17' ?_)
  clear R17' H16 G16 D16
  have CT9 : ∀ V, Calm w17 V → Calls Try.prog 15 #[.agg (vs .u8 KO), .slice A17 N17 c17] V fun e w' => e = .returned (.agg (vs .u8 T5)) ∧ Calm w17 w' := fun V h => by
    rw [← E9.out]
    have hs := H17.out.sl.fr h (fun _ x => x)
    exact (tag_is KO _ A17 N17 c17 _ V NKO.out.1 NKO.out.2 hs (fun e => hs.lt e)).mono fun _ _ ⟨he, hf⟩ => ⟨he, Fr.trans h hf⟩
  have Xo17 := Lib.hid (Ar.fr Xo.out G17.out (fun x => x))
  have F17 := Lib.hid (F4.out.trans G17.out)
  refine wp_region_head (C := Calm w17) 6 (Fr.refl _ _) ?_
  simp only [List.take_succ_cons, List.take_zero, List.drop_succ_cons, List.drop_zero]
  refine BigFrame.wpQuiet_want rfl fun K hK => quiet_load 23 (.tmp 4) rfl (q3 + 1) rfl 23 _ (0, 0) _ (fun _ h => Calm.at Xo17.out h) Try.underlying23 rfl sKO.out (hK _ ?_)
  refine BigFrame.wpQuiet_want rfl fun K hK => ?_
  try simp only [Act.put, List.setIfInBounds_toArray, List.set_cons_succ, List.set_cons_zero]
  go_big_quiet_op
  refine hK _ ?_
  refine BigFrame.wpQuiet_want rfl fun K hK => ?_
  try simp only [Act.put, List.setIfInBounds_toArray, List.set_cons_succ, List.set_cons_zero]
  go_big_quiet_op
  refine ⟨_, CT9, hK _ ?_⟩
  refine BigFrame.wpQuiet_want rfl fun K hK => quiet_run (.agg (vs .u8 T5)) (fun W _ => by rw [UT5.out]; kernel_rfl) (hK _ ?_)
  refine BigFrame.wpQuiet_want rfl fun K hK => ?_
  try simp only [Act.put, List.setIfInBounds_toArray, List.set_cons_succ, List.set_cons_zero]
  go_big_quiet_op
  first
    | refine ⟨_, fun _ _ => rfl, hK _ ?_⟩
    | refine hK _ ?_
  refine BigFrame.wpQuiet_want rfl fun K hK => ?_
  try simp only [Act.put, List.setIfInBounds_toArray, List.set_cons_succ, List.set_cons_zero]
  go_big_quiet_op
  refine hK _ ?_
  refine wpQuiet_nil ?_
  intro w6 hw6
  have F6 : Hid (Fr (fun _ => False) w w6) := F17.out.trans hw6
  have G6 := Lib.hid hw6
  clear hw6
  try simp only [Act.put, List.setIfInBounds_toArray, List.set_cons_succ, List.set_cons_zero]
  have G18 := Lib.hid (G17.out.trans G6.out)
  clear CT9 Xo17 F17 F6 G6 G17 H17
  go_upto_region 19 with (fail)
  obtain ⟨A19, N19, c19, v19, R19, O19, f19, B19⟩ := run_grow' (HSF.out _ (G18.out.alloc (.cells #[.int .u8 251] 5)) 16 16 (by omega) (by omega) (by omega)) (lit_sl w6 251 (by omega)) (by omega) (by omega)
  have H19 := Lib.hid O19
  have G19 := Lib.hid ((G18.out.alloc (.cells #[.int .u8 251] 5)).trans f19)
  have D19 : Hid (∀ j, (Value.slice A19 N19 c19).ownBlock = some j → W4.heap.size ≤ j) := fun j hj => Nat.le_trans (G18.out.alloc (.cells #[.int .u8 251] 5)).size (B19 j hj)
  clear O19 f19 B19
  go_upto_region 20 with (at_builtin; refine Lib.wpList_append_run _ rfl (.tmp 67) (.tmp 68) 24 24 rfl _ _ rfl rfl _ _ R19 ?_)
  clear R19 G18
  go_upto_region 21 with (fail)
  go_loopw [11, 12] (fun u11 u12 wr => ∃ (i n c : Nat) (A : Option Addr), u12 = .int .i64 i ∧ i ≤ 15 ∧ u11 = .slice A n c ∧ Hid (Ow wr (.slice A n c) ((FU 16 ++ [251]) ++ List.replicate i 254)) ∧ Hid (∀ j, (Value.slice A n c).ownBlock = some j → W4.heap.size ≤ j) ∧ Hid (Fr (fun _ => False) W4 wr)) (fun _ u12 _ => 15 - (intOf u12).toNat)
  case atStart => exact ⟨0, _, _, _, rfl, by omega, rfl, (by show Ow _ _ _; rw [List.replicate_zero, List.append_nil]; exact H19.out), D19, G19⟩
  case round =>
  clear H19 G19 D19
  obtain ⟨i, n, c, A, rfl, hi, rfl, hO, hB, hG⟩ := hrel
  by_cases hil : i < 15
  · have j3 : (i : Int) < 15 := by omega
    go_wp2_with (at_builtin; refine wpList_own rfl (.tmp 74) (.tmp 75) rfl (hO.out.keep (S := fun _ => False) ((Fr.refl _ _).alloc (.cells #[.int .u8 254] 5)) (fun _ _ x => x)) rfl rfl (lit_sl wr 254 (by omega)) (by simp only [List.length_append, (LF.out 16).1, List.length_replicate, List.length_singleton]; omega) ?_; intro A2 N2 c2 w2 hap hN; have HA := Lib.hid hap; clear hap hN)
    obtain ⟨r1, r2, r3⟩ := HA.out.next (hG.out.alloc _) hB.out
    rw [List.append_assoc _ (List.replicate i 254), ← List.replicate_succ'] at r1
    have R1 := Lib.hid r1
    clear r1 HA
    go_roundw
    case rel => exact ⟨i + 1, N2, c2, A2, by go_num, by omega, rfl, R1, r3, r2⟩
    case measure => simp [intOf]; omega
  obtain rfl : i = 15 := by omega
  obtain ⟨V1, rfl⟩ : ∃ wo : World, wo = wr := ⟨_, rfl⟩
  have H20 := hO
  have G20 := hG
  have D20 := hB
  clear hO hG hB hi hil
  go_upto_region 25 with (fail)
  try simp only [show ((15 : Nat) : Int) = 15 from rfl]
  go_loopw [11, 13] (fun u11 u13 wr => ∃ (i n c : Nat) (A : Option Addr), u13 = .int .i64 i ∧ i ≤ 16 ∧ u11 = .slice A n c ∧ Hid (Ow wr (.slice A n c) (((FU 16 ++ [251]) ++ List.replicate 15 254) ++ List.replicate i 1)) ∧ Hid (∀ j, (Value.slice A n c).ownBlock = some j → W4.heap.size ≤ j) ∧ Hid (Fr (fun _ => False) W4 wr)) (fun _ u13 _ => 16 - (intOf u13).toNat)
  case atStart => exact ⟨0, _, _, _, rfl, by omega, rfl, (by show Ow _ _ _; rw [List.replicate_zero, List.append_nil]; exact H20.out), D20, G20⟩
  case round =>
  clear H20 G20 D20
  obtain ⟨i, n, c, A, rfl, hi, rfl, hO, hB, hG⟩ := hrel
  by_cases hil : i < 16
  · have j3 : (i : Int) < 16 := by omega
    go_wp2_with (at_builtin; refine wpList_own rfl (.tmp 81) (.tmp 82) rfl (hO.out.keep (S := fun _ => False) ((Fr.refl _ _).alloc (.cells #[.int .u8 1] 5)) (fun _ _ x => x)) rfl rfl (lit_sl wr 1 (by omega)) (by simp only [List.length_append, (LF.out 16).1, List.length_replicate, List.length_singleton]; omega) ?_; intro A2 N2 c2 w2 hap hN; have HA := Lib.hid hap; clear hap hN)
    obtain ⟨r1, r2, r3⟩ := HA.out.next (hG.out.alloc _) hB.out
    rw [List.append_assoc _ (List.replicate i 1), ← List.replicate_succ'] at r1
    have R1 := Lib.hid r1
    clear r1 HA
    go_roundw
    case rel => exact ⟨i + 1, N2, c2, A2, by go_num, by omega, rfl, R1, r3, r2⟩
    case measure => simp [intOf]; omega
  obtain rfl : i = 16 := by omega
  obtain ⟨V2, rfl⟩ : ∃ wo : World, wo = wr := ⟨_, rfl⟩
  clear hi hil hB
  go_upto_region 28 with (fail)
  try simp only [show ((16 : Nat) : Int) = 16 from rfl]
  have CT10 : ∀ V, Calm V2 V → Calls Try.prog 15 #[.agg (vs .u8 KO), .slice A n c] V fun e w' => e = .returned (.agg (vs .u8 T0)) ∧ Calm V2 w' := fun V h => by
    rw [← E10.out]
    have hs := hO.out.sl.fr h (fun _ x => x)
    exact (tag_is KO _ A n c _ V NKO.out.1 NKO.out.2 hs (fun e => hs.lt e)).mono fun _ _ ⟨he, hf⟩ => ⟨he, Fr.trans h hf⟩
  have Xo20 := Lib.hid (Ar.fr Xo.out hG.out (fun x => x))
  have F20 := Lib.hid (F4.out.trans hG.out)
  refine wp_region_head (C := Calm V2) 6 (Fr.refl _ _) ?_
  simp only [List.take_succ_cons, List.take_zero, List.drop_succ_cons, List.drop_zero]
  refine BigFrame.wpQuiet_want rfl fun K hK => quiet_load 23 (.tmp 4) rfl (q3 + 1) rfl 23 _ (0, 0) _ (fun _ h => Calm.at Xo20.out h) Try.underlying23 rfl sKO.out (hK _ ?_)
  refine BigFrame.wpQuiet_want rfl fun K hK => ?_
  try simp only [Act.put, List.setIfInBounds_toArray, List.set_cons_succ, List.set_cons_zero]
  go_big_quiet_op
  refine hK _ ?_
  refine BigFrame.wpQuiet_want rfl fun K hK => ?_
  try simp only [Act.put, List.setIfInBounds_toArray, List.set_cons_succ, List.set_cons_zero]
  go_big_quiet_op
  refine ⟨_, CT10, hK _ ?_⟩
  refine BigFrame.wpQuiet_want rfl fun K hK => quiet_run (.agg (vs .u8 T0)) (fun W _ => by rw [UT0.out]; kernel_rfl) (hK _ ?_)
  refine BigFrame.wpQuiet_want rfl fun K hK => ?_
  try simp only [Act.put, List.setIfInBounds_toArray, List.set_cons_succ, List.set_cons_zero]
  go_big_quiet_op
  first
    | refine ⟨_, fun _ _ => rfl, hK _ ?_⟩
    | refine hK _ ?_
  refine BigFrame.wpQuiet_want rfl fun K hK => ?_
  try simp only [Act.put, List.setIfInBounds_toArray, List.set_cons_succ, List.set_cons_zero]
  go_big_quiet_op
  refine hK _ ?_
  refine wpQuiet_nil ?_
  intro w7 hw7
  have F7 : Hid (Fr (fun _ => False) w w7) := F20.out.trans hw7
  have G7 := Lib.hid hw7
  clear hw7
  try simp only [Act.put, List.setIfInBounds_toArray, List.set_cons_succ, List.set_cons_zero]
  have G28 := Lib.hid (hG.out.trans G7.out)
  clear CT10 Xo20 F20 F7 G7 hG hO
  go_upto_region 29 with (fail)
  have B28 : ∀ j, (Value.slice (some ⟨w7.heap.size, 0, none⟩) 1 1).ownBlock = some j → W4.heap.size ≤ j := fun j hj => by
    injection hj with hj
    rw [← hj]
    exact G28.out.size
  have HB28 := Lib.hid B28
  clear B28
  go_upto_region 30 with (at_builtin; refine wpList_own rfl (.tmp 89) (.tmp 91) rfl (lit_ow w7 253 (by omega)) rfl rfl (HSF.out _ (G28.out.alloc _) 15 64 (by omega) (by omega) (by omega)) (by simp) ?_; intro A29 N29 c29 w29 hap hN; have HA := Lib.hid hap; clear hap hN)
  obtain ⟨r1, r2, r3⟩ := HA.out.next (G28.out.alloc _) HB28.out
  have H29 := Lib.hid r1
  have G29 := Lib.hid r2
  clear r1 r2 r3 HA HB28 G28
  have CT11 : ∀ V, Calm w29 V → Calls Try.prog 15 #[.agg (vs .u8 KT), .slice A29 N29 c29] V fun e w' => e = .returned (.agg (vs .u8 TE)) ∧ Calm w29 w' := fun V h => by
    rw [← E11.out]
    have hs := H29.out.sl.fr h (fun _ x => x)
    exact (tag_is KT _ A29 N29 c29 _ V NKT.out.1 NKT.out.2 hs (fun e => hs.lt e)).mono fun _ _ ⟨he, hf⟩ => ⟨he, Fr.trans h hf⟩
  have Xt29 := Lib.hid (Ar.fr Xt.out G29.out (fun x => x))
  have F29 := Lib.hid (F4.out.trans G29.out)
  refine wp_region_head (C := Calm w29) 6 (Fr.refl _ _) ?_
  simp only [List.take_succ_cons, List.take_zero, List.drop_succ_cons, List.drop_zero]
  refine BigFrame.wpQuiet_want rfl fun K hK => quiet_load 23 (.tmp 3) rfl (q3) rfl 23 _ (0, 0) _ (fun _ h => Calm.at Xt29.out h) Try.underlying23 rfl sKT.out (hK _ ?_)
  refine BigFrame.wpQuiet_want rfl fun K hK => ?_
  try simp only [Act.put, List.setIfInBounds_toArray, List.set_cons_succ, List.set_cons_zero]
  go_big_quiet_op
  refine hK _ ?_
  refine BigFrame.wpQuiet_want rfl fun K hK => ?_
  try simp only [Act.put, List.setIfInBounds_toArray, List.set_cons_succ, List.set_cons_zero]
  go_big_quiet_op
  refine ⟨_, CT11, hK _ ?_⟩
  refine BigFrame.wpQuiet_want rfl fun K hK => quiet_run (.agg (vs .u8 TE)) (fun W _ => by rw [UTE.out]; kernel_rfl) (hK _ ?_)
  refine BigFrame.wpQuiet_want rfl fun K hK => ?_
  try simp only [Act.put, List.setIfInBounds_toArray, List.set_cons_succ, List.set_cons_zero]
  go_big_quiet_op
  first
    | refine ⟨_, fun _ _ => rfl, hK _ ?_⟩
    | refine hK _ ?_
  refine BigFrame.wpQuiet_want rfl fun K hK => ?_
  try simp only [Act.put, List.setIfInBounds_toArray, List.set_cons_succ, List.set_cons_zero]
  go_big_quiet_op
  refine hK _ ?_
  refine wpQuiet_nil ?_
  intro w8 hw8
  have F8 : Hid (Fr (fun _ => False) w w8) := F29.out.trans hw8
  have G8 := Lib.hid hw8
  clear hw8
  try simp only [Act.put, List.setIfInBounds_toArray, List.set_cons_succ, List.set_cons_zero]
  have G30 := Lib.hid (G29.out.trans G8.out)
  clear CT11 Xt29 F29 F8 G8 G29 H29
  go_upto_region 32 with (fail)
  go_loopw [17] (fun u17 wr => ∃ i : Nat, u17 = .int .i64 i ∧ i ≤ 64 ∧ Hid (Fr (fun _ => False) W4 wr)) (fun u17 _ => 64 - (intOf u17).toNat)
  case atStart => exact ⟨0, rfl, by omega, G30⟩
  case round =>
  clear G30
  obtain ⟨i, rfl, hi, hG⟩ := hrel
  by_cases hil : i < 64
  · have j1 : ((i : Int)).toNat = i := by omega
    have j2 : 0 ≤ (i : Int) := by omega
    have j3 : (i : Int) < 64 := by omega
    have j4 : (i : Int) ≤ 64 := by omega
    have CS : ∀ (kk : List Int) (x : Int), kk.length = 32 → Bys kk → (-9223372036854775808 ≤ x ∧ x ≤ 9223372036854775807) → ∀ V, Calm wr V → Calls Try.prog 6 #[.agg (vs .u8 kk), .slice (some ⟨gf, 0, none⟩) i 64, .int .i64 x] V fun e w' => e = .returned (.bool true) ∧ Calm wr w' := fun kk x h1 h2 h3 V h =>
      (law_split_any kk gf (some ⟨gf, 0, none⟩) i 64 (FU i) x V h1 h2 (HSF.out V (hG.out.trans h) i 64 (by omega) (by omega) (by omega)) (by omega) (fun _ => Nat.lt_of_lt_of_le LG (hG.out.trans h).size) h3).mono fun _ _ ⟨he, hf⟩ => ⟨he, Fr.trans h hf⟩
    have HCS := Lib.hid CS
    clear CS
    have Xw := Lib.hid (Ar.fr X8.out hG.out (fun x => x))
    have FF := Lib.hid (F4.out.trans hG.out)
    go_upto_region 34 with (fail)
    refine wp_region_quiet (C := Calm wr) (by kernel_rfl) (by kernel_rfl) (Calm.start _ _ (Fr.refl _ _)) ?_
    refine BigFrame.wpQuiet_want rfl fun K hK => quiet_load 23 (.tmp 5) rfl (q5) rfl 23 _ (0, 0) _ (fun _ h => Calm.at Xw.out h) Try.underlying23 rfl sKW.out (hK _ ?_)
    refine BigFrame.wpQuiet_want rfl fun K hK => ?_
    try simp only [Act.put, List.setIfInBounds_toArray, List.set_cons_succ, List.set_cons_zero]
    go_big_quiet_op
    refine hK _ ?_
    refine BigFrame.wpQuiet_want rfl fun K hK => ?_
    try simp only [Act.put, List.setIfInBounds_toArray, List.set_cons_succ, List.set_cons_zero]
    go_big_quiet_op
    refine hK _ ?_
    refine BigFrame.wpQuiet_want rfl fun K hK => ?_
    try simp only [Act.put, List.setIfInBounds_toArray, List.set_cons_succ, List.set_cons_zero]
    go_big_quiet_op
    first
      | refine ⟨_, fun _ _ => rfl, hK _ ?_⟩
      | refine hK _ ?_
    refine BigFrame.wpQuiet_want rfl fun K hK => ?_
    try simp only [Act.put, List.setIfInBounds_toArray, List.set_cons_succ, List.set_cons_zero]
    go_big_quiet_op
    refine hK _ ?_
    refine BigFrame.wpQuiet_want rfl fun K hK => ?_
    try simp only [Act.put, List.setIfInBounds_toArray, List.set_cons_succ, List.set_cons_zero]
    go_big_quiet_op
    first
      | refine ⟨_, fun _ _ => rfl, hK _ ?_⟩
      | refine hK _ ?_
    refine BigFrame.wpQuiet_want rfl fun K hK => ?_
    try simp only [Act.put, List.setIfInBounds_toArray, List.set_cons_succ, List.set_cons_zero]
    go_big_quiet_op
    refine ⟨_, HCS.out KW _ NKW.out.1 NKW.out.2 ?_, hK _ ?_⟩
    rotate_left
    refine BigFrame.wpQuiet_want rfl fun K hK => ?_
    try simp only [Act.put, List.setIfInBounds_toArray, List.set_cons_succ, List.set_cons_zero]
    go_big_quiet_op
    first
      | refine ⟨_, fun _ _ => rfl, hK _ ?_⟩
      | refine hK _ ?_
    refine BigFrame.wpQuiet_want rfl fun K hK => ?_
    try simp only [Act.put, List.setIfInBounds_toArray, List.set_cons_succ, List.set_cons_zero]
    go_big_quiet_op
    refine hK _ ?_
    refine BigFrame.wpQuiet_want rfl fun K hK => quiet_run (.agg (vs .u8 KF)) (fun W _ => by rw [UKF.out]; kernel_rfl) (hK _ ?_)
    refine BigFrame.wpQuiet_want rfl fun K hK => ?_
    try simp only [Act.put, List.setIfInBounds_toArray, List.set_cons_succ, List.set_cons_zero]
    go_big_quiet_op
    refine hK _ ?_
    refine BigFrame.wpQuiet_want rfl fun K hK => ?_
    try simp only [Act.put, List.setIfInBounds_toArray, List.set_cons_succ, List.set_cons_zero]
    go_big_quiet_op
    refine hK _ ?_
    refine BigFrame.wpQuiet_want rfl fun K hK => ?_
    try simp only [Act.put, List.setIfInBounds_toArray, List.set_cons_succ, List.set_cons_zero]
    go_big_quiet_op
    first
      | refine ⟨_, fun _ _ => rfl, hK _ ?_⟩
      | refine hK _ ?_
    refine BigFrame.wpQuiet_want rfl fun K hK => ?_
    try simp only [Act.put, List.setIfInBounds_toArray, List.set_cons_succ, List.set_cons_zero]
    go_big_quiet_op
    refine ⟨_, HCS.out KF _ NKF.out.1 NKF.out.2 (by omega), hK _ ?_⟩
    refine BigFrame.wpQuiet_want rfl fun K hK => ?_
    try simp only [Act.put, List.setIfInBounds_toArray, List.set_cons_succ, List.set_cons_zero]
    go_big_quiet_op
    first
      | refine ⟨_, fun _ _ => rfl, hK _ ?_⟩
      | refine hK _ ?_
    refine BigFrame.wpQuiet_want rfl fun K hK => ?_
    try simp only [Act.put, List.setIfInBounds_toArray, List.set_cons_succ, List.set_cons_zero]
    go_big_quiet_op
    first
      | refine ⟨_, fun _ _ => rfl, hK _ ?_⟩
      | refine hK _ ?_
    refine wpQuiet_nil ?_
    intro w9 hw9
    have F9 : Hid (Fr (fun _ => False) w w9) := FF.out.trans hw9
    have G9 := Lib.hid hw9
    clear hw9
    try simp only [Act.put, List.setIfInBounds_toArray, List.set_cons_succ, List.set_cons_zero]
    go_wp2
    go_roundw
    case rel => exact ⟨i + 1, by go_num, by omega, hG.out.trans G9.out⟩
    case measure => simp [intOf]; omega
    all_goals try omega
    all_goals trace_state
    all_goals sorry
  obtain rfl : i = 64 := by omega
  obtain ⟨V3, rfl⟩ : ∃ wo : World, wo = wr := ⟨_, rfl⟩
  go_upto_region 38 with (fail)
  try simp only [show ((64 : Nat) : Int) = 64 from rfl]
  go_loopw [18, 19] (fun u18 u19 wr => ∃ i : Nat, u19 = .int .i64 i ∧ i ≤ 2 ∧ Hid (Fr (fun _ => False) V3 wr) ∧ ((u18 = .pointer none ∧ i = 0) ∨ ∃ g, u18 = .pointer (some ⟨g, 0, none⟩) ∧ Hid (wr.cell? ⟨g, 0, none⟩ = some (.bool false)))) (fun _ u19 _ => 2 - (intOf u19).toNat)
  case atStart => exact ⟨0, rfl, by omega, Fr.refl _ _, .inl ⟨rfl, rfl⟩⟩
  case round =>
  obtain ⟨i, rfl, hi2, hV, hP⟩ := hrel
  by_cases hil2 : i < 2
  · have j3 : (i : Int) < 2 := by omega
    rcases hP with ⟨rfl, h0⟩ | ⟨g, rfl, hc⟩
    · have h1 : True := trivial
      go_upto_region 40 with (fail)
      go_upto_region 41 with (go_at_call 20; refine (write_none _ 1 1 _).mono ?_; rintro e wA ⟨rfl, hfA⟩)
      have FA : Hid (Fr (fun _ => False) V3 wA) := (hV.out.alloc _).trans hfA
      clear hfA
      have CN : ∀ V, Calm wA V → Calls Try.prog 21 #[.pointer none] V fun e w' => e = .returned (.agg (vs .u8 T0)) ∧ Calm wA w' := fun V h => by
        rw [UT0.out]
        exact (sum_none V).mono fun _ _ ⟨he, hf⟩ => ⟨he, Fr.trans h hf⟩
      refine wp_region_head (C := Calm wA) 4 (Fr.refl _ _) ?_
      simp only [List.take_succ_cons, List.take_zero, List.drop_succ_cons, List.drop_zero]
      refine BigFrame.wpQuiet_want rfl fun K hK => ?_
      try simp only [Act.put, List.setIfInBounds_toArray, List.set_cons_succ, List.set_cons_zero]
      go_big_quiet_op
      refine hK _ ?_
      refine BigFrame.wpQuiet_want rfl fun K hK => ?_
      try simp only [Act.put, List.setIfInBounds_toArray, List.set_cons_succ, List.set_cons_zero]
      go_big_quiet_op
      refine ⟨_, CN, hK _ ?_⟩
      refine BigFrame.wpQuiet_want rfl fun K hK => quiet_run (.agg (vs .u8 T0)) (fun W _ => by rw [UT0.out]; kernel_rfl) (hK _ ?_)
      refine BigFrame.wpQuiet_want rfl fun K hK => ?_
      try simp only [Act.put, List.setIfInBounds_toArray, List.set_cons_succ, List.set_cons_zero]
      go_big_quiet_op
      first
        | refine ⟨_, fun _ _ => rfl, hK _ ?_⟩
        | refine hK _ ?_
      refine wpQuiet_nil ?_
      intro wb hwb
      have Fb : Hid (Fr (fun _ => False) V3 wb) := FA.out.trans hwb
      have Gb := Lib.hid hwb
      clear hwb
      try simp only [Act.put, List.setIfInBounds_toArray, List.set_cons_succ, List.set_cons_zero]
      go_upto_region 43 with (fail)
      go_wp2
      go_roundw
      case rel => exact ⟨1, by go_num, by omega, Fb.out.alloc _, .inr ⟨_, rfl, (cell_of_row _ _ 0 _ _ _ (heap_alloc_new wb _)).trans rfl⟩⟩
      case measure => rw [h0]; simp [intOf]
    · have hlg := World.block_lt_of_cell? _ _ hc.out
      have hcl : (wr.alloc (.cells #[.int .u8 1] 5)).cell? ⟨g, 0, none⟩ = some (.bool false) := (World.cell?_of_block (w := wr) (((Fr.refl (fun _ => False) _).alloc _).block g hlg (fun x => x))).trans hc.out
      go_upto_region 40 with (fail)
      go_upto_region 41 with (go_at_call 20; refine (write_bare g _ 1 1 _ hcl).mono ?_; rintro e wA ⟨rfl, hfA⟩)
      have FA : Hid (Fr (fun _ => False) V3 wA) := (hV.out.alloc _).trans hfA
      have hcA : Hid (wA.cell? ⟨g, 0, none⟩ = some (.bool false)) := (World.cell?_of_block (w := wr) ((((Fr.refl (fun _ => False) wr).alloc _).trans hfA).block g hlg (fun x => x))).trans hc.out
      clear hfA
      have CN : ∀ V, Calm wA V → Calls Try.prog 21 #[.pointer (some ⟨g, 0, none⟩)] V fun e w' => e = .returned (.agg (vs .u8 T0)) ∧ Calm wA w' := fun V h => by
        rw [UT0.out]
        exact (sum_bare g V ((World.cell?_of_block (w := wA) (Fr.block h g (World.block_lt_of_cell? _ _ hcA.out) (fun x => x))).trans hcA.out)).mono fun _ _ ⟨he, hf⟩ => ⟨he, Fr.trans h hf⟩
      refine wp_region_head (C := Calm wA) 4 (Fr.refl _ _) ?_
      simp only [List.take_succ_cons, List.take_zero, List.drop_succ_cons, List.drop_zero]
      refine BigFrame.wpQuiet_want rfl fun K hK => ?_
      try simp only [Act.put, List.setIfInBounds_toArray, List.set_cons_succ, List.set_cons_zero]
      go_big_quiet_op
      refine hK _ ?_
      refine BigFrame.wpQuiet_want rfl fun K hK => ?_
      try simp only [Act.put, List.setIfInBounds_toArray, List.set_cons_succ, List.set_cons_zero]
      go_big_quiet_op
      refine ⟨_, CN, hK _ ?_⟩
      refine BigFrame.wpQuiet_want rfl fun K hK => quiet_run (.agg (vs .u8 T0)) (fun W _ => by rw [UT0.out]; kernel_rfl) (hK _ ?_)
      refine BigFrame.wpQuiet_want rfl fun K hK => ?_
      try simp only [Act.put, List.setIfInBounds_toArray, List.set_cons_succ, List.set_cons_zero]
      go_big_quiet_op
      first
        | refine ⟨_, fun _ _ => rfl, hK _ ?_⟩
        | refine hK _ ?_
      refine wpQuiet_nil ?_
      intro wb hwb
      have Fb : Hid (Fr (fun _ => False) V3 wb) := FA.out.trans hwb
      have Gb := Lib.hid hwb
      clear hwb
      try simp only [Act.put, List.setIfInBounds_toArray, List.set_cons_succ, List.set_cons_zero]
      go_upto_region 43 with (fail)
      go_wp2
      go_roundw
      case rel => exact ⟨i + 1, by go_num, by omega, Fb.out.alloc _, .inr ⟨_, rfl, (cell_of_row _ _ 0 _ _ _ (heap_alloc_new wb _)).trans rfl⟩⟩
      case measure => simp [intOf]; omega
  obtain rfl : i = 2 := by omega
  have FZ := Lib.hid (F4.out.trans (hG.out.trans hV.out))
  clear hP hV hG
  have S1 : ∀ V, Calls Try.prog 22 #[.slice none 0 0, .slice none 0 0] V fun e w' => e = .returned (.bool true) ∧ Fr (fun _ => False) V w' := fun V =>
    (same_is 0 0 none none 0 0 0 0 [] [] V (Sl.nil _ _) (Sl.nil _ _)).mono fun e w' ⟨he, q, hq⟩ => ⟨by rw [he]; simp, by rw [hq]; exact Fr.drewN (Fr.refl _ _) q⟩
  have S2 : ∀ V : World, Calls Try.prog 22 #[.slice none 0 0, .slice (some ⟨V.heap.size, 0, none⟩) 1 1] (V.alloc (.cells #[.int .u8 0] 5)) fun e w' => e = .returned (.bool false) ∧ Fr (fun _ => False) V w' := fun V =>
    (same_is 0 V.heap.size none (some ⟨V.heap.size, 0, none⟩) 0 1 0 1 [] [0] _ (Sl.nil _ _) (lit_sl V 0 (by omega))).mono fun e w' ⟨he, q, hq⟩ => ⟨by rw [he]; simp, by rw [hq]; exact Fr.drewN ((Fr.refl _ _).alloc _) q⟩
  have HS1 := Lib.hid S1
  have HS2 := Lib.hid S2
  clear S1 S2
  have tk1 : True := trivial
  go_wp2_with (first
    | (go_at_call 18; refine (works_is _).mono ?_; rintro e wc ⟨rfl, hfc⟩; have FC := Lib.hid (FZ.out.trans hfc); clear hfc)
    | (go_at_call 22; clear tk1; refine (HS1.out _).mono ?_; rintro e wd ⟨rfl, hfd⟩; have FD := Lib.hid (FC.out.trans hfd); clear hfd)
    | (go_at_call 22; refine (HS2.out wd).mono ?_; rintro e we ⟨rfl, hfe⟩; have FE := Lib.hid (FD.out.trans hfe); clear hfe))
  go_ret
  exact ⟨rfl, FE.out⟩

set_option maxRecDepth 100000 in
theorem law_known_lifted (os : Os) (started : os.Started) (H : Type) (enc : TypeId × Value → H) :
    ReturnsInHanded {} Try.checked os 13 .any (Rows.polyKnownSpec.pre6 enc Try.prog Try.f13 Rows.polyKnownRow.domain false) (Rows.polyKnownSpec.post enc Try.prog Try.f13 false true false false) := by
  refine returnsInHanded_of_change (C := Try.checked) own started (by kernel_rfl) Try.func13
    (ChangeSpec.witness6 (enc := enc) (C := Try.checked) false ⟨#[], #[], []⟩ 8 (by kernel_rfl) (by kernel_rfl) (by kernel_rfl) (by kernel_rfl)) ?_
  intro W base args ds gs before hval0 hW hcnd _
  have hval : ∀ (j : Nat) t v, Try.f13.params[j]? = some t → args[j]? = some v → Value.okWide Try.prog W .any base t v := hval0
  have hW' := hW
  obtain ⟨p, q, hA0, hV, rfl, hfz, hnd⟩ := hW
  have hA : DataW.TrodAll enc Try.prog W 0 (fun _ => true) true Try.f13.params.toList args.toList ds p := hA0
  rw [Try.params13] at hA hval
  obtain ⟨hargs, rfl, rfl⟩ := trodAll_nil hA
  obtain rfl : args = #[] := by cases args; simp_all
  obtain ⟨rfl, rfl⟩ := trodVars_none hV
  clear hA0 hval0
  refine (law_known_any  W ).mono fun e W' ⟨he, hg⟩ => ?_
  subst he
  exact ⟨_, rfl, post_true rfl hW' (by kernel_rfl) rfl rfl hg⟩

theorem polyKnown_holds : Rows.PolyKnownSaid :=
  OpenClaim.holds_of_wide 13 Try.f13 rfl rfl rfl rfl rfl rfl rfl ⟨rfl, rfl, rfl, rfl, rfl⟩ rfl rfl rfl rfl rfl (by kernel_rfl) Try.func13 (by kernel_rfl)
    (of_decide_eq_true (by kernel_rfl)) (by unfold Func.isWrapper; first | (rw [if_pos (by decide +kernel)]; kernel_rfl) | (rw [if_neg (by decide +kernel)]; exact ⟨rfl, rfl⟩))
    (fun os started H enc _ => law_known_lifted os started H enc)
#print axioms polyKnown_holds
end Go.Proofs.Ytcoggpedpclkaaa
