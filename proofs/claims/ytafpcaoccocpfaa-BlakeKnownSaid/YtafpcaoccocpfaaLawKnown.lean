/- BlakeKnown answers true: the given statement BlakeKnownSaid. No condition. -/
import Derived.Test.YtafpcaoccocpfaaZz
import Derived.Test.YtafpcaoccocpfaaZx
namespace Go.Proofs.Ytafpcaoccocpfaa
set_option linter.unusedSimpArgs false
set_option linter.unusedVariables false
open Go.ChangeShapes Go.WideShapes Go.ChangeAt Go.RowKit

set_option maxRecDepth 100000 in
set_option maxHeartbeats 32000000 in
theorem law_known_any (w : World) : Calls Try.prog 10 #[] w fun e w' => e = .returned (.bool true) ∧ Fr (fun _ => False) w w' := by
  obtain ⟨KL, hKL⟩ : ∃ k, k = keyN := ⟨_, rfl⟩
  have lK : Hid (KL.length = 32) := by show _ = _; rw [hKL]; rfl
  have gK : Hid (∀ i : Nat, i < 32 → KL[i]? = some (i : Int)) := by rw [hKL]; exact keyN_get
  obtain ⟨R0, hR0⟩ : ∃ R, R = dig 32 [] [] := ⟨_, rfl⟩
  obtain ⟨R1, hR1⟩ : ∃ R, R = dig 32 KL [] := ⟨_, rfl⟩
  have lR : Hid (R0.length = 32 ∧ Bys R0 ∧ R1.length = 32 ∧ Bys R1) := by rw [hR0, hR1]; exact ⟨dig_length (by decide) _ _, dig_bys _ _ _, dig_length (by decide) _ _, dig_bys _ _ _⟩
  obtain ⟨X0, hX0⟩ : ∃ X, X = hexT R0 32 := ⟨_, rfl⟩
  obtain ⟨X1, hX1⟩ : ∃ X, X = hexT R1 32 := ⟨_, rfl⟩
  have eX0 : (X0.toList == [54, 57, 50, 49, 55, 97, 51, 48, 55, 57, 57, 48, 56, 48, 57, 52, 101, 49, 49, 49, 50, 49, 100, 48, 52, 50, 51, 53, 52, 97, 55, 99, 49, 102, 53, 53, 98, 54, 52, 56, 50, 99, 97, 49, 97, 53, 49, 101, 49, 98, 50, 53, 48, 100, 102, 100, 49, 101, 100, 48, 101, 101, 102, 57]) = true := by rw [hX0, hR0, empty_hex]; decide +kernel
  have eX1 : (X1.toList == [52, 56, 97, 56, 57, 57, 55, 100, 97, 52, 48, 55, 56, 55, 54, 98, 51, 100, 55, 57, 99, 48, 100, 57, 50, 51, 50, 53, 97, 100, 51, 98, 56, 57, 99, 98, 98, 55, 53, 52, 100, 56, 54, 97, 98, 55, 49, 97, 101, 101, 48, 52, 55, 97, 100, 51, 52, 53, 102, 100, 50, 99, 52, 57]) = true := by rw [hX1, hR1, hKL, keyed_hex]; decide +kernel
  have CU : ∀ W, Calls Try.prog 16 #[.slice none 0 0] W fun e w' => e = .returned (.agg (vs .u8 R0)) ∧ Fr (fun _ => False) W w' := fun W => by rw [hR0]; exact sum_is 0 none 0 0 [] W (Sl.nil _ _) (by decide)
  have CK : ∀ W g A m c, Sl W g (.slice A m c) KL → Calls Try.prog 12 #[.int .i64 32, .slice A m c, .slice none 0 0] W fun e w' => ∃ v, e = .returned (.tuple #[v, .int .i64 0]) ∧ Nw W w' v R1 ∧ Fr (fun _ => False) W w' := fun W g A m c h => by
    have hh := of_is 32 g A m c KL 0 none 0 0 [] W (by omega) h (Sl.nil _ _) (by have := h.len; have := lK.out; omega) (by decide)
    rw [ofv, if_neg (by have := lK.out; omega)] at hh
    rw [hR1]
    exact hh
  have CB : ∀ (z : Int) W g A m c k, Sl W g (.slice A m c) k → m ≤ 33 → -5 ≤ z ∧ z ≤ 40 → (z < 1 ∨ 32 < z ∨ 32 < m) → Calls Try.prog 12 #[.int .i64 z, .slice A m c, .slice none 0 0] W fun e w' => ∃ v, e = .returned (.tuple #[v, .int .i64 2]) ∧ Fr (fun _ => False) W w' := fun z W g A m c k h hm hz hb => by
    have hh := of_is z g A m c k 0 none 0 0 [] W (by omega) h (Sl.nil _ _) (by omega) (by decide)
    rw [ofv, if_pos (by have := h.len; omega)] at hh
    exact hh.mono fun e w' ⟨v, h1, h2, h3⟩ => ⟨v, h1, h3⟩
  have CX0 : ∀ W g, Sl W g (.slice (some ⟨g, 0, none⟩) 32 32) R0 → Calls Try.prog 23 #[.slice (some ⟨g, 0, none⟩) 32 32] W fun e w' => e = .returned (.string X0) ∧ Fr (fun _ => False) W w' := fun W g h => by rw [hX0]; exact hex_is g _ 32 32 R0 W h (by decide)
  have CX1 : ∀ W g A c, Sl W g (.slice A 32 c) R1 → Calls Try.prog 23 #[.slice A 32 c] W fun e w' => e = .returned (.string X1) ∧ Fr (fun _ => False) W w' := fun W g A c h => by rw [hX1]; exact hex_is g _ 32 c R1 W h (by decide)
  obtain ⟨Z, hZ⟩ : ∃ Z, Z = List.replicate 32 (0 : Int) := ⟨_, rfl⟩
  have hz : ∀ W : World, (zeroValue 30).run Try.prog W = .ok (.agg (vs .u8 Z)) W := fun W => by rw [hZ]; exact zeroA32 W
  have s1 : Hid ((Try.prog.info? 30).map (·.size) = some (vs .u8 R0).size) := by show _ = _; rw [szA32, vs_size, lR.out.1]
  have e1 : Hid ((vs .u8 Z).size = (vs .u8 R0).size) := by show _ = _; rw [vs_size, vs_size, lR.out.1, hZ]; rfl
  clear hKL hR0 hR1 hX0 hX1 hZ
  go_enter Try.func10, Try.ntmps10
  go_upto_region 3 with (fail)
  have O0 : Hid (Nw w w (.slice none 0 0) (KL.take 0)) := by rw [List.take_zero]; exact Nw.nil _ _
  go_loopw [1, 2] (fun u1 u2 wr => ∃ (i n cc : Nat) (B : Option Addr), u1 = .slice B n cc ∧ u2 = .int .i64 i ∧ i ≤ 32 ∧ Hid (Nw w wr (.slice B n cc) (KL.take i)) ∧ Hid (Fr (fun _ => False) w wr)) (fun _ u2 _ => 32 - (intOf u2).toNat)
  case atStart => exact ⟨0, 0, 0, none, rfl, rfl, by omega, O0, Lib.hid (Fr.refl _ _)⟩
  case round =>
  clear O0
  obtain ⟨i, n, cc, B, rfl, rfl, hi, hO, hF⟩ := hrel
  by_cases hil : i < 32
  · have j3 : (i : Int) < 32 := by omega
    have j4 : IntKind.u8.wrap (i : Int) = (i : Int) := by rw [IntKind.wrap_u8]; omega
    have HT := Lib.hid (take_snoc (gK.out i hil))
    have lT : Hid ((KL.take i).length = i) := by show _ = _; rw [List.length_take, lK.out]; omega
    go_upto_region 4 with (at_builtin; refine wpList_own rfl (.tmp 27) (.tmp 30) rfl (hO.out.1.keep (S := fun _ => False) ((Fr.refl _ _).alloc (.cells #[.int .u8 (i : Int)] 5)) (fun _ _ x => x)) rfl rfl (lit_sl wr (i : Int) (by omega)) (by rw [lT.out]; omega) ?_; intro A4 N4 c4 w4 hap hN; have HA := Lib.hid hap; clear hap hN)
    obtain ⟨r1, r2⟩ := hO.out.app hF.out ((Fr.refl _ _).alloc _) HA.out
    rw [HT.out] at r1
    have R1' := Lib.hid r1
    have R2' := Lib.hid r2
    clear r1 r2 HA j4
    go_wp2
    go_roundw
    case rel => exact ⟨i + 1, N4, c4, A4, rfl, by go_num, by omega, R1', R2'⟩
    case measure => simp [intOf]; omega
  obtain rfl : i = 32 := by omega
  have hN : Nw w wr (.slice B n cc) KL := by
    have h := hO.out
    rwa [List.take_of_length_le (by rw [lK.out]; exact Nat.le_refl 32)] at h
  obtain ⟨gk, ck, hv, hgk, hck, hsk⟩ := hN.open (by rw [lK.out]; decide)
  rw [lK.out] at hv hck hsk
  injection hv with hv1 hv2 hv3
  subst hv1 hv2 hv3
  have NK : Hid (Nw w wr (.slice (some ⟨gk, 0, none⟩) 32 cc) KL) := hN
  have GK : Hid (w.heap.size ≤ gk ∧ 32 ≤ cc) := ⟨hgk, hck⟩
  have F0 := hF
  clear hN hgk hck hsk hO hF hil hi
  obtain ⟨w0, rfl⟩ : ∃ W : World, W = wr := ⟨_, rfl⟩
  go_upto_region 7 with (first
    | (go_at_call 16; refine (CU _).mono ?_; rintro e w1 ⟨rfl, hf⟩; have F1 := Lib.hid hf; clear hf)
    | refine wpList_store_row rfl 30 (.tmp 3) (.tmp 32) rfl w1.heap.size (vs .u8 R0) rfl rfl 30 (vs .u8 Z) (heap_alloc_new w1 (.cells (vs .u8 Z) 30)) s1.out e1.out (vs_all _ _) ?_)
  obtain ⟨b3, hb3⟩ : ∃ q, q = w1.heap.size := ⟨_, rfl⟩
  have FQ : Fr (fun _ => False) w1 ((w1.alloc (.cells (vs .u8 Z) 30)).setRow w1.heap.size (vs .u8 R0)) := ((Fr.refl _ w1).alloc _).setRow _ (.inr (Nat.le_refl _))
  have B2 : Hid (Ar ((w1.alloc (.cells (vs .u8 Z) 30)).setRow w1.heap.size (vs .u8 R0)) b3 30 .u8 R0) := by rw [hb3]; exact (Ar.new w1 30 .u8 Z).row R0
  have NB : Hid (gk < b3) := by
    have h1 := NK.out.1.lt gk rfl
    have h2 := F1.out.size
    show gk < b3
    omega
  have NK2 := Lib.hid (NK.out.fr (F1.out.trans FQ) (fun _ x => x))
  have F2 := Lib.hid ((F0.out.trans F1.out).trans FQ)
  rw [← hb3] at B2 NK2 F2 ⊢
  generalize (w1.alloc (.cells (vs .u8 Z) 30)).setRow b3 (vs .u8 R0) = w2 at *
  clear FQ hb3 NK F0 F1 CU hz
  try simp only [Act.put, List.setIfInBounds_toArray, List.set_cons_succ, List.set_cons_zero]
  go_upto_region 8 with (go_at_call 12; refine (CK _ _ _ _ _ NK2.out.1.sl).mono ?_; rintro e w3 ⟨v3, rfl, hn, hf⟩; have V3 := Lib.hid hn; have F3 := Lib.hid hf; clear hn hf)
  obtain ⟨A3, c3, rfl⟩ := V3.out.shape
  rw [lR.out.2.2.1] at V3 ⊢
  go_upto_region 9 with (go_at_call 12; refine (CB 0 _ 0 none 0 0 [] (Sl.nil _ _) (by decide) (by decide) (.inl (by decide))).mono ?_; rintro e w4 ⟨v4, rfl, hf⟩; have F4 := Lib.hid hf; clear hf)
  go_upto_region 10 with (go_at_call 12; refine (CB 33 _ 0 none 0 0 [] (Sl.nil _ _) (by decide) (by decide) (.inr (.inl (by decide)))).mono ?_; rintro e w5 ⟨v5, rfl, hf⟩; have F5 := Lib.hid hf; clear hf)
  have G5 := Lib.hid ((F3.out.trans F4.out).trans F5.out)
  have NK5 := Lib.hid (NK2.out.fr G5.out (fun _ x => x))
  have V5 := Lib.hid (V3.out.fr (F4.out.trans F5.out) (fun _ x => x))
  have B5' := Lib.hid (B2.out.fr G5.out (fun x => x))
  have H5 := Lib.hid (F2.out.trans G5.out)
  have KV : Hid (∀ j, (Value.slice A3 32 c3).ownBlock = some j → j ≠ gk) := fun j hj e => by
    have h1 := V3.out.2 j hj
    have h2 := NK2.out.1.lt gk rfl
    omega
  clear F3 F4 F5 G5 NK2 V3 B2 F2 CK
  have HL1 : Hid (Sl (w5.alloc (.cells #[.int .u8 1] 5)) w5.heap.size (.slice (some ⟨w5.heap.size, 0, none⟩) 1 1) [1]) := lit_sl w5 1 (by decide)
  have FL1 : Hid (Fr (fun _ => False) w5 (w5.alloc (.cells #[.int .u8 1] 5))) := (Fr.refl _ _).alloc _
  have OK1 := Lib.hid (NK5.out.1.keep FL1.out (fun _ _ x => x))
  go_upto_region 11 with (first
    | (at_builtin; refine wpList_own_keep rfl (.tmp 47) (.tmp 48) rfl OK1.out rfl rfl HL1.out (by decide) ?_; intro A6 c6 w6 ho hs hf; have O6 := Lib.hid ho; have S6 := Lib.hid hs; have F6 := Lib.hid hf; clear ho hs hf)
    | (go_at_call 12; refine (CB 32 _ _ _ _ _ _ O6.out.sl (by decide) (by decide) (.inr (.inr (by decide)))).mono ?_; rintro e w7 ⟨v7, rfl, hf⟩; have F7 := Lib.hid hf; clear hf))
  have S7 := Lib.hid (S6.out.fr F7.out (fun _ x => x))
  have V7 : Hid (Ow w7 (.slice A3 32 c3) R1) := ((V5.out.1.keep FL1.out (fun _ _ x => x)).keep F6.out (fun j hj e => KV.out j hj e)).keep F7.out (fun _ _ x => x)
  have B7 : Hid (Ar w7 b3 30 .u8 R0) := ((B5'.out.fr FL1.out (fun x => x)).fr F6.out (show ¬ b3 = gk by have := NB.out; omega)).fr F7.out (fun x => x)
  have H7 : Hid (Fr (fun _ => False) w w7) := ((H5.out.trans FL1.out).trans' F6.out (fun j hj e => by have := GK.out; omega)).trans F7.out
  clear HL1 FL1 OK1 O6 S6 F6 F7 NK5 V5 B5' H5 KV CB
  have CN0 : ∀ W, Calls Try.prog 18 #[.int .i64 0, .slice none 0 0] W fun e w' => e = .returned (.tuple #[.pointer none, .int .i64 2]) ∧ Fr (fun _ => False) W w' := fun W => new_no 0 none 0 0 W (.inl (by decide))
  have CN1 : ∀ W A c, Calls Try.prog 18 #[.int .i64 1, .slice A 33 c] W fun e w' => e = .returned (.tuple #[.pointer none, .int .i64 2]) ∧ Fr (fun _ => False) W w' := fun W A c => new_no 1 A 33 c W (.inr (.inr (by decide)))
  go_upto_region 12 with (go_at_call 18; refine (CN0 _).mono ?_; rintro e w8 ⟨rfl, hf⟩; have F8 := Lib.hid hf; clear hf)
  obtain ⟨Z33, hZ33⟩ : ∃ Z, Z = List.replicate 33 (0 : Int) := ⟨_, rfl⟩
  have E33 : Hid (Z33 = List.replicate 33 0) := hZ33
  clear hZ33
  go_upto_region 13 with (first
    | refine wpList_make rfl _ _ rfl 33 (by decide) rfl rfl Z33 E33.out ?_
    | (go_at_call 18; refine (CN1 _ _ _).mono ?_; rintro e w9 ⟨rfl, hf⟩; have F9 : Hid (Fr (fun _ => False) w8 w9) := ((Fr.refl _ _).alloc _).trans hf; clear hf))
  have G9 := Lib.hid (F8.out.trans F9.out)
  have S9 := Lib.hid (S7.out.fr G9.out (fun _ x => x))
  have V9 := Lib.hid (V7.out.keep G9.out (fun _ _ x => x))
  have B9 := Lib.hid (B7.out.fr G9.out (fun x => x))
  have H9 := Lib.hid (H7.out.trans G9.out)
  have X9 : Hid (Sl w9 b3 (.slice (some ⟨b3, 0, none⟩) 32 32) R0) := B9.out.slt lR.out.2.1 lR.out.1 (by decide)
  clear F8 F9 G9 S7 V7 B7 H7 CN0 CN1 B9
  have tk1 : True := trivial
  go_upto_region 15 with (first
    | (go_at_call 23; clear tk1; refine (CX0 _ _ X9.out).mono ?_; rintro e w10 ⟨rfl, hf⟩; have F10 := Lib.hid hf; clear hf)
    | (go_at_call 23; refine (CX1 _ _ _ _ (V9.out.keep F10.out (fun _ _ x => x)).sl).mono ?_; rintro e w11 ⟨rfl, hf⟩; have F11 := Lib.hid (F10.out.trans hf); clear hf))
  have S11 := Lib.hid (S9.out.fr F11.out (fun _ x => x))
  have H11 := Lib.hid (H9.out.trans F11.out)
  clear F10 F11 S9 V9 X9 H9 CX0 CX1 eX0 eX1
  have k5 : (5 : Int) ≤ (cc : Int) := by have := GK.out; omega
  go_loopw [17, 18, 19, 20] (fun u17 _ _ _ wr => ∃ n : Nat, u17 = .int .i64 n ∧ n ≤ 196 ∧ Hid (Sl wr gk (.slice (some ⟨gk, 0, none⟩) 32 cc) KL) ∧ Hid (Fr (fun _ => False) w wr)) (fun u17 _ _ _ _ => 196 - (intOf u17).toNat)
  case atStart => exact ⟨62, rfl, by decide, S11, H11⟩
  case round =>
  clear S11 H11
  obtain ⟨n, rfl, hn, hS, hF⟩ := hrel
  by_cases hnl : n < 196
  · have j1 : (n : Int) < 196 := by omega
    obtain ⟨Zn, hZn⟩ : ∃ Z, Z = List.replicate n (0 : Int) := ⟨_, rfl⟩
    have EN : Hid (Zn = List.replicate n 0) := hZn
    have N0 : Hid (Zn.length = n ∧ Bys Zn) := by rw [hZn]; exact ⟨List.length_replicate .., noughts6' _⟩
    clear hZn
    have nb : n ≤ 140737488355328 := by omega
    go_upto_region 18 with (refine wpList_make rfl _ _ rfl n nb rfl rfl Zn EN.out ?_)
    obtain ⟨q, hq⟩ : ∃ q, q = wr.heap.size := ⟨_, rfl⟩
    have A1 : Hid (Ar (wr.alloc (.cells (vs .u8 Zn) 5)) q 5 .u8 Zn) := by rw [hq]; exact Ar.new wr 5 .u8 Zn
    have FA : Fr (fun _ => False) wr (wr.alloc (.cells (vs .u8 Zn) 5)) := (Fr.refl _ _).alloc _
    have Q1 : Hid (gk < q ∧ w.heap.size ≤ q) := by
      have h1 := hS.out.lt6 (fun e => by have h := lK.out; rw [e] at h; cases h)
      have h2 := hF.out.size
      show gk < q ∧ w.heap.size ≤ q
      omega
    have S1 := Lib.hid (hS.out.fr FA (fun _ x => x))
    have F1 := Lib.hid (hF.out.trans FA)
    rw [← hq]
    generalize wr.alloc (.cells (vs .u8 Zn) 5) = w1 at *
    clear FA hq hS hF EN nb
    go_upto_region 19 with (fail)
    obtain ⟨V, rfl⟩ : ∃ W : World, W = wr := ⟨_, rfl⟩
    go_loopw [19] (fun u19 wr => ∃ (i : Nat) (Lx : List Int), u19 = .int .i64 i ∧ i ≤ n ∧ Hid (Ar wr q 5 .u8 Lx) ∧ Hid (Lx.length = n ∧ Bys Lx) ∧ Hid (Fr (fun j => j = q) w1 wr)) (fun u19 _ => n - (intOf u19).toNat)
    case atStart => exact ⟨0, Zn, rfl, by omega, A1, N0, Lib.hid (Fr.refl _ _)⟩
    case round =>
      clear A1 N0
      obtain ⟨i, Lx, rfl, hi, hA, hL, hG⟩ := hrel
      by_cases hil : i < n
      · obtain ⟨y, hy⟩ : ∃ y, IntKind.u8.wrap (i : Int) = y := ⟨_, rfl⟩
        have hyb : 0 ≤ y ∧ y ≤ 255 := by rw [← hy, IntKind.wrap_u8]; omega
        obtain ⟨x, hx⟩ : ∃ x, Lx[i]? = some x := ⟨_, getD_some (by rw [hL.out.1]; exact hil)⟩
        have c1 := hA.out.cell hx
        have f1 := hA.out.frozen i
        have A2 := Lib.hid (hA.out.set i y)
        have L2 : Hid ((Lx.set i y).length = n ∧ Bys (Lx.set i y)) := ⟨by rw [List.length_set]; exact hL.out.1, fun b hb => by
          rcases List.mem_or_eq_of_mem_set hb with h | rfl
          · exact hL.out.2 b h
          · exact hyb⟩
        have t1 : ((i : Int)).toNat = i := by omega
        have t2 : 0 ≤ (i : Int) := by omega
        have t3 : (i : Int) < n := by omega
        clear hx hyb hA
        go_wp2
        go_roundw
        case rel => exact ⟨i + 1, Lx.set i y, by go_num, by omega, A2, L2, hG.out.setCell _ (.inl rfl)⟩
        case measure => simp [intOf]; omega
      obtain rfl : i = n := by omega
      have S2 := Lib.hid (S1.out.fr hG.out (fun _ e => by have := Q1.out; omega))
      have SL : Hid (Sl wr q (.slice (some ⟨q, 0, none⟩) i i) Lx) := hA.out.sl hL.out.2 hL.out.1 (by unfold maxLen; omega)
      have F2 : Hid (Fr (fun _ => False) w wr) := F1.out.trans' hG.out (fun j hj e => by have := Q1.out; omega)
      obtain ⟨w2, rfl⟩ : ∃ W : World, W = wr := ⟨_, rfl⟩
      have C2a : ∀ W (x : Nat), x ≤ 1000 → Fr (fun _ => False) w2 W → Calls Try.prog 21 #[.int .i64 32, .slice none 0 0, .slice (some ⟨q, 0, none⟩) i i, .int .i64 (x : Int)] W fun e w' => e = .returned (.bool true) ∧ Fr (fun _ => False) W w' := fun W x hx hf =>
        split2_is 32 0 none 0 0 [] q _ i i Lx (x : Int) W (by omega) (Sl.nil _ _) (by decide) (fun e => absurd rfl e) (SL.out.fr hf (fun _ x => x)) (by omega) (SL.out.fr hf (fun _ x => x)).lt6 (by omega)
      have C2b : ∀ W (x : Nat), x ≤ 1000 → Fr (fun _ => False) w2 W → Calls Try.prog 21 #[.int .i64 7, .slice (some ⟨gk, 0, none⟩) 5 cc, .slice (some ⟨q, 0, none⟩) i i, .int .i64 (x : Int)] W fun e w' => e = .returned (.bool true) ∧ Fr (fun _ => False) W w' := fun W x hx hf => by
        have hs := (S2.out.fr hf (fun _ x => x)).take 5 (by rw [lK.out]; decide)
        exact split2_is 7 gk _ 5 cc (KL.take 5) q _ i i Lx (x : Int) W (by omega) hs (by decide) hs.lt6 (SL.out.fr hf (fun _ x => x)) (by omega) (SL.out.fr hf (fun _ x => x)).lt6 (by omega)
      clear hA hL hG SL F1 S1 hi hil
      go_upto_region 23 with (fail)
      go_loopw [20] (fun u20 wr => ∃ k : Nat, u20 = .int .i64 k ∧ k ≤ i + 31 ∧ Hid (Fr (fun _ => False) w2 wr)) (fun u20 _ => i + 31 - (intOf u20).toNat)
      case atStart => exact ⟨0, rfl, by omega, Lib.hid (Fr.refl _ _)⟩
      case round =>
        obtain ⟨k, rfl, hk, hG⟩ := hrel
        by_cases hkl : k ≤ i
        · have j5 : (k : Int) ≤ (i : Int) := by omega
          have j6 : IntKind.i64.wrap ((k : Int) + 31) = ((k + 31 : Nat) : Int) := by rw [IntKind.wrap_i64]; omega
          have hk1 : k ≤ 1000 := by omega
          have tk1 : True := trivial
          go_upto_region 24 with (first
            | (go_at_call 21; clear tk1; refine (C2a _ k hk1 hG.out).mono ?_; rintro e w3 ⟨rfl, hf⟩; have G3 := Lib.hid (hG.out.trans hf); clear hf)
            | (go_at_call 21; refine (C2b _ k hk1 G3.out).mono ?_; rintro e w4 ⟨rfl, hf⟩; have G4 := Lib.hid (G3.out.trans hf); clear hf))
          go_wp2
          go_roundw
          case rel => exact ⟨k + 31, by first | rfl | go_num, by omega, G4⟩
          case measure => simp [intOf]; omega
        have j5 : ¬ (k : Int) ≤ (i : Int) := by omega
        have S3 := Lib.hid (S2.out.fr hG.out (fun _ x => x))
        have F3 := Lib.hid (F2.out.trans hG.out)
        clear S2 F2 hG C2a C2b
        go_wp2
        go_roundw
        case rel =>
          first
          | exact ⟨i + 1, by go_num, by omega, S3, F3⟩
          | (trace_state; sorry)
        case measure => simp [intOf]; omega
  obtain rfl : n = 196 := by omega
  clear hS hnl hn
  have hzh := hashZ_run
  go_upto_region 29 with (fail)
  go_loopw [21, 22] (fun u21 u22 wr => ∃ i : Nat, u22 = .int .i64 i ∧ i ≤ 2 ∧ (u21 = .pointer none ∨ ∃ g, u21 = .pointer (some ⟨g, 0, none⟩) ∧ Hid (wr.heap[g]? = some (.cells hashZ 53 (0, 0)))) ∧ Hid (Fr (fun _ => False) w wr)) (fun _ u22 _ => 2 - (intOf u22).toNat)
  case atStart => exact ⟨0, rfl, by omega, .inl rfl, hF⟩
  case round =>
  clear hF
  obtain ⟨i, rfl, hi, hu, hF⟩ := hrel
  by_cases hil : i < 2
  · have j1 : (i : Int) < 2 := by omega
    have SX : Hid (Sl (wr.alloc (.cells #[.int .u8 1] 5)) wr.heap.size (.slice (some ⟨wr.heap.size, 0, none⟩) 1 1) [1]) := lit_sl wr 1 (by decide)
    have FX : Hid (Fr (fun _ => False) wr (wr.alloc (.cells #[.int .u8 1] 5))) := (Fr.refl _ _).alloc _
    rcases hu with rfl | ⟨g, rfl, hg⟩
    · go_upto_region 34 with (first
        | (go_at_call 19; refine (hwrite_none _ _ _ _).mono ?_; rintro e w3 ⟨rfl, hf⟩; have F3 := Lib.hid (FX.out.trans hf); clear hf)
        | (go_at_call 20; refine (hsum_none _).mono ?_; rintro e w4 ⟨rfl, hf⟩; have F4 := Lib.hid (F3.out.trans hf); clear hf))
      go_upto_region 30 with (refine wpList_hash0 rfl rfl ?_)
      have HZ : Hid ((w4.alloc (.cells hashZ 53)).heap[w4.heap.size]? = some (.cells hashZ 53 (0, 0))) := heap_alloc_new w4 _
      have F5 : Hid (Fr (fun _ => False) w (w4.alloc (.cells hashZ 53))) := (hF.out.trans F4.out).alloc _
      go_wp2
      go_roundw
      case rel =>
        first
        | (refine ⟨_, _, _, _, _, _, _, _, _, _, _, _, _, _, _, ?_, rfl⟩; exact ⟨i + 1, by first | rfl | go_num, by omega, .inr ⟨_, rfl, HZ⟩, F5⟩)
        | (refine ⟨_, _, _, _, _, _, _, _, _, _, _, _, _, _, ?_, rfl⟩; exact ⟨i + 1, by first | rfl | go_num, by omega, .inr ⟨_, rfl, HZ⟩, F5⟩)
        | (refine ⟨_, _, _, _, _, _, _, _, _, _, _, _, _, _, _, _, ?_, rfl⟩; exact ⟨i + 1, by first | rfl | go_num, by omega, .inr ⟨_, rfl, HZ⟩, F5⟩)
        | (refine ⟨_, _, _, _, _, _, _, _, _, _, _, _, _, ?_, rfl⟩; exact ⟨i + 1, by first | rfl | go_num, by omega, .inr ⟨_, rfl, HZ⟩, F5⟩)
        | (refine ⟨_, _, _, _, _, _, _, _, _, _, _, _, ?_, rfl⟩; exact ⟨i + 1, by first | rfl | go_num, by omega, .inr ⟨_, rfl, HZ⟩, F5⟩)
        | (refine ⟨_, _, _, _, _, _, _, _, _, _, _, _, _, _, _, _, _, ?_, rfl⟩; exact ⟨i + 1, by first | rfl | go_num, by omega, .inr ⟨_, rfl, HZ⟩, F5⟩)
      case measure => simp [intOf]; omega
    · go_upto_region 34 with (first
        | (go_at_call 19; refine (hwrite_bare g _ _ _ _ (Calm.at hg.out FX.out)).mono ?_; rintro e w3 ⟨rfl, hf⟩; have F3 := Lib.hid (FX.out.trans hf); clear hf)
        | (go_at_call 20; refine (hsum_bare g _ (Calm.at hg.out F3.out)).mono ?_; rintro e w4 ⟨rfl, hf⟩; have F4 := Lib.hid (F3.out.trans hf); clear hf))
      go_upto_region 30 with (refine wpList_hash0 rfl rfl ?_)
      have HZ : Hid ((w4.alloc (.cells hashZ 53)).heap[w4.heap.size]? = some (.cells hashZ 53 (0, 0))) := heap_alloc_new w4 _
      have F5 : Hid (Fr (fun _ => False) w (w4.alloc (.cells hashZ 53))) := (hF.out.trans F4.out).alloc _
      go_wp2
      go_roundw
      case rel =>
        first
        | (refine ⟨_, _, _, _, _, _, _, _, _, _, _, _, _, _, _, ?_, rfl⟩; exact ⟨i + 1, by first | rfl | go_num, by omega, .inr ⟨_, rfl, HZ⟩, F5⟩)
        | (refine ⟨_, _, _, _, _, _, _, _, _, _, _, _, _, _, ?_, rfl⟩; exact ⟨i + 1, by first | rfl | go_num, by omega, .inr ⟨_, rfl, HZ⟩, F5⟩)
        | (refine ⟨_, _, _, _, _, _, _, _, _, _, _, _, _, _, _, _, ?_, rfl⟩; exact ⟨i + 1, by first | rfl | go_num, by omega, .inr ⟨_, rfl, HZ⟩, F5⟩)
        | (refine ⟨_, _, _, _, _, _, _, _, _, _, _, _, _, ?_, rfl⟩; exact ⟨i + 1, by first | rfl | go_num, by omega, .inr ⟨_, rfl, HZ⟩, F5⟩)
        | (refine ⟨_, _, _, _, _, _, _, _, _, _, _, _, ?_, rfl⟩; exact ⟨i + 1, by first | rfl | go_num, by omega, .inr ⟨_, rfl, HZ⟩, F5⟩)
        | (refine ⟨_, _, _, _, _, _, _, _, _, _, _, _, _, _, _, _, _, ?_, rfl⟩; exact ⟨i + 1, by first | rfl | go_num, by omega, .inr ⟨_, rfl, HZ⟩, F5⟩)
      case measure => simp [intOf]; omega
  have j1 : ¬ (i : Int) < 2 := by omega
  go_wp2_with (go_at_call 15; refine (works_is _).mono ?_; rintro e w5 ⟨rfl, hf⟩; have F5 := Lib.hid (hF.out.trans hf); clear hf)
  go_ret
  exact ⟨rfl, F5.out⟩

set_option maxRecDepth 100000 in
theorem law_known_lifted (os : Os) (started : os.Started) (H : Type) (enc : TypeId × Value → H) :
    ReturnsInHanded {} Try.checked os 10 .any (Rows.blakeKnownSpec.pre6 enc Try.prog Try.f10 Rows.blakeKnownRow.domain false) (Rows.blakeKnownSpec.post enc Try.prog Try.f10 false true false false) := by
  refine returnsInHanded_of_change (C := Try.checked) own started (by kernel_rfl) Try.func10
    (ChangeSpec.witness6 (enc := enc) (C := Try.checked) false ⟨#[], #[], []⟩ 8 (by kernel_rfl) (by kernel_rfl) (by kernel_rfl) (by kernel_rfl)) ?_
  intro W base args ds gs before hval0 hW hcnd _
  have hval : ∀ (j : Nat) t v, Try.f10.params[j]? = some t → args[j]? = some v → Value.okWide Try.prog W .any base t v := hval0
  have hW' := hW
  obtain ⟨p, q, hA0, hV, rfl, hfz, hnd⟩ := hW
  have hA : DataW.TrodAll enc Try.prog W 0 (fun _ => true) true Try.f10.params.toList args.toList ds p := hA0
  rw [Try.params10] at hA hval
  obtain ⟨hargs, rfl, rfl⟩ := trodAll_nil hA
  obtain rfl : args = #[] := by cases args; simp_all
  obtain ⟨rfl, rfl⟩ := trodVars_none hV
  clear hA0 hval0
  refine (law_known_any  W ).mono fun e W' ⟨he, hg⟩ => ?_
  subst he
  exact ⟨_, rfl, post_true rfl hW' (by kernel_rfl) rfl rfl hg⟩

theorem blakeKnown_holds : Rows.BlakeKnownSaid :=
  OpenClaim.holds_of_wide 10 Try.f10 rfl rfl rfl rfl rfl rfl rfl ⟨rfl, rfl, rfl, rfl, rfl⟩ rfl rfl rfl rfl rfl (by kernel_rfl) Try.func10 (by kernel_rfl)
    (of_decide_eq_true (by kernel_rfl)) (by unfold Func.isWrapper; first | (rw [if_pos (by decide +kernel)]; kernel_rfl) | (rw [if_neg (by decide +kernel)]; exact ⟨rfl, rfl⟩))
    (fun os started H enc _ => law_known_lifted os started H enc)
#print axioms blakeKnown_holds
end Go.Proofs.Ytafpcaoccocpfaa
