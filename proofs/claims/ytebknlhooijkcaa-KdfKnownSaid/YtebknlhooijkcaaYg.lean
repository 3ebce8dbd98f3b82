/- The reference's Expand: contract. Conditions: a key of 32 bytes, slices that lie in memory, lengths below 2^47. -/
import Derived.Test.YtebknlhooijkcaaYa
import Derived.Test.YtebknlhooijkcaaYy
namespace Go.Proofs.Ytebknlhooijkcaa
set_option linter.unusedSimpArgs false
set_option linter.unusedVariables false
open Go.ChangeShapes Go.WideShapes Go.ChangeAt Go.RowKit


/-- What the loop keeps: the bytes so far and the last tag. -/
structure Ys (W1 wr : World) (k info : List Int) (i : Nat) (out last : Value) : Prop where
  fr : Fr (fun _ => False) W1 wr
  out : Nw W1 wr out (exs k info i)
  last : ∃ A m c gl, last = .slice A m c ∧ Sl wr gl (.slice A m c) (ex k info i)
set_option maxRecDepth 100000 in
set_option maxHeartbeats 16000000 in
theorem rexpand_yes (k : List Int) (g2 : Nat) (A2 : Option Addr) (m2 c2 : Nat) (b : List Int) (n : Nat) (w : World) (lk : k.length = 32) (bk : Bys k) (h2 : Sl w g2 (.slice A2 m2 c2) b) (hm2 : m2 ≤ 140737488351232) (hn : n ≤ 8160) :
    Calls Try.prog 19 #[.agg (vs .u8 k), .slice A2 m2 c2, .int .i64 (n : Int)] w fun e w' => ∃ A c g, e = .returned (.tuple #[.slice A n c, .int .i64 0]) ∧ w.heap.size ≤ g ∧ Sl w' g (.slice A n c) ((exs k b ((n + 31) / 32)).take n) ∧ Fr (fun _ => False) w w' := by
  have LK : Hid (k.length = 32) := lk
  have BK : Hid (Bys k) := bk
  have H2 := Lib.hid h2
  have L2 := Lib.hid h2.len
  have HM := Lib.hid hm2
  obtain ⟨N, hN⟩ : ∃ N, N = (n + 31) / 32 := ⟨_, rfl⟩
  have BN : Hid (N ≤ 255 ∧ (∀ i, 32 * i < n → i < N) ∧ n ≤ 32 * N ∧ ∀ i, i < N → 32 * i < n) := ⟨by omega, fun i hi => by omega, by omega, fun i hi => by omega⟩
  have lx : ∀ i, (ex k b i).length ≤ 32 := fun i => by
    cases i with
    | zero => simp [ex]
    | succ i => rw [ex_length]; exact Nat.le_refl _
  have CT : ∀ W bx (A : Option Addr) (m c gy i : Nat), Ar W bx 24 .u8 k → i < 255 → Sl W gy (.slice A m c) ((ex k b i ++ b) ++ [(i : Int) + 1]) → Calls Try.prog 13 #[.slice (some ⟨bx, 0, none⟩) 32 32, .slice A m c] W fun e w' => e = .returned (.agg (vs .u8 (ex k b (i + 1)))) ∧ Fr (fun _ => False) W w' := fun W bx A m c gy i a1 a2 a3 => by
    have e := rhmac_is bx (some ⟨bx, 0, none⟩) 32 32 k gy A m c _ W (a1.slt BK.out LK.out (by decide)) (by decide) a3 (by
      have e1 := lx i
      have e2 := a3.len
      simp only [List.length_append, List.length_cons, List.length_nil] at e2
      have := L2.out
      have := HM.out
      omega)
    rw [ex, show ((i + 1 : Nat) : Int) % 256 = (i : Int) + 1 by omega]
    exact e
  have LX := Lib.hid lx
  obtain ⟨Z, hZ⟩ : ∃ Z, Z = List.replicate 32 (0 : Int) := ⟨_, rfl⟩
  have hz : ∀ W : World, (zeroValue 24).run Try.prog W = .ok (.agg (vs .u8 Z)) W := fun W => by rw [hZ]; exact zeroA32 W
  have sX : ∀ i, Hid ((Try.prog.info? 24).map (·.size) = some (vs .u8 (ex k b (i + 1))).size) := fun i => by show _ = _; rw [szA32, vs_size, ex_length]
  have eX : ∀ i, Hid ((vs .u8 Z).size = (vs .u8 (ex k b (i + 1))).size) := fun i => by show _ = _; rw [vs_size, vs_size, ex_length, hZ]; rfl
  rw [← hN]
  have j1 : ¬ (n : Int) < 0 := by omega
  have j2 : ¬ 8160 < (n : Int) := by omega
  have j5 : N ≤ 255 := BN.out.1
  clear hN hZ h2 hm2 lk bk lx
  go_enter Try.func19, Try.ntmps19
  go_upto_region 1 with (fail)
  obtain ⟨bx, hbx⟩ : ∃ x, x = w.heap.size := ⟨_, rfl⟩
  have K0 : Hid (Ar (w.alloc (.cells (vs .u8 k) 24)) bx 24 .u8 k) := by rw [hbx]; exact Ar.new w 24 .u8 k
  have F0 : Hid (Fr (fun _ => False) w (w.alloc (.cells (vs .u8 k) 24))) := (Fr.refl _ _).alloc _
  rw [← hbx]
  generalize w.alloc (.cells (vs .u8 k) 24) = W0 at *
  clear hbx
  try simp only [Act.put, List.setIfInBounds_toArray, List.set_cons_succ, List.set_cons_zero]
  have X1 : Hid (Ys W0 W0 k b 0 (.slice none 0 0) (.slice none 0 0)) := ⟨Fr.refl _ _, Nw.nil _ _, none, 0, 0, 0, rfl, Sl.nil _ _⟩
  go_upto_region 7 with (fail)
  go_loopw [8, 9, 10] (fun u8 u9 u10 wr => ∃ i : Nat, u10 = .int .i64 ((i : Int) + 1) ∧ i ≤ N ∧ Hid (Ys W0 wr k b i u8 u9)) (fun _ _ u10 _ => 256 - (intOf u10).toNat)
  case atStart => exact ⟨0, rfl, Nat.zero_le _, X1⟩
  case round =>
  clear X1
  obtain ⟨i, rfl, hi, hX⟩ := hrel
  obtain ⟨hF, hO, A, m, c, gl, rfl, hS⟩ := hX.out
  obtain ⟨Ao, co, ho⟩ := hO.shape
  rw [exs_length k b i] at ho
  subst ho
  have FF := Lib.hid hF
  have OO := Lib.hid hO
  have SS := Lib.hid hS
  clear hF hO hS hX
  by_cases hlo : 32 * i < n
  · have hil := BN.out.2.1 i hlo
    have t0 : 32 * (i : Int) < n := by omega
    have t5 : i + 1 ≤ 255 := by omega
    have LL := Lib.hid (LX.out i)
    go_upto_region 11 with (at_builtin; refine wpList_own rfl (.tmp 23) (.tmp 24) rfl (Ow.nil wr) rfl rfl SS.out (by have := LL.out; have := SS.out.len; simp; omega) ?_; intro A3 N3 c3 w3 hap hN; have HA := Lib.hid hap; clear hap hN)
    obtain ⟨r1, r2⟩ := Nw.app (Nw.nil wr wr) (Fr.refl _ _) (Fr.refl _ _) HA.out
    rw [List.nil_append] at r1
    have N1 := Lib.hid r1
    have F1 := Lib.hid r2
    clear r1 r2 HA
    go_upto_region 12 with (at_builtin; refine wpList_own rfl (.tmp 26) (.tmp 27) rfl N1.out.1 rfl rfl (H2.out.fr ((F0.out.trans FF.out).trans F1.out) (fun _ x => x)) (by have := LL.out; have := HM.out; omega) ?_; intro A4 N4 c4 w4 hap hN; have HA := Lib.hid hap; clear hap hN)
    obtain ⟨r1, r2⟩ := Nw.app N1.out F1.out (Fr.refl _ _) HA.out
    have N2 := Lib.hid r1
    have F2 := Lib.hid r2
    clear r1 r2 HA N1 F1
    go_upto_region 13 with (at_builtin; refine wpList_own rfl (.tmp 29) (.tmp 32) rfl (N2.out.fr ((Fr.refl (fun _ => False) w4).alloc _) (fun _ x => x)).1 rfl rfl (lit_sl w4 ((i : Int) + 1) (by omega)) (by have := LL.out; have := HM.out; have := L2.out; rw [List.length_append]; omega) ?_; intro A5 N5 c5 w5 hap hN; have HA := Lib.hid hap; clear hap hN)
    obtain ⟨r1, r2⟩ := Nw.app N2.out F2.out ((Fr.refl _ _).alloc _) HA.out
    have N3' := Lib.hid r1
    have F3 := Lib.hid r2
    clear r1 r2 HA N2 F2
    go_upto_region 14 with (first
      | (go_at_call 13; refine (CT _ bx A5 N5 c5 _ i (K0.out.fr (FF.out.trans F3.out) (fun x => x)) (by omega) N3'.out.1.sl).mono ?_; rintro e w6 ⟨rfl, hf⟩; have F6 := Lib.hid (F3.out.trans hf); clear hf)
      | refine wpList_store_row rfl 24 (.tmp 12) (.tmp 36) rfl w6.heap.size (vs .u8 (ex k b (i + 1))) rfl rfl 24 (vs .u8 Z) (heap_alloc_new w6 (.cells (vs .u8 Z) 24)) (sX i).out (eX i).out (vs_all _ _) ?_)
    obtain ⟨E, hE⟩ : ∃ E, E = ex k b (i + 1) := ⟨_, rfl⟩
    have lE : Hid (E.length = 32 ∧ Bys E) := by rw [hE]; exact ⟨ex_length _ _ _, ex_bys _ _ _⟩
    have UE : Unit → ex k b (i + 1) = E := fun _ => hE.symm
    obtain ⟨q, hq⟩ : ∃ q, q = w6.heap.size := ⟨_, rfl⟩
    have FQ : Fr (fun _ => False) w6 ((w6.alloc (.cells (vs .u8 Z) 24)).setRow w6.heap.size (vs .u8 E)) := ((Fr.refl _ w6).alloc _).setRow _ (.inr (Nat.le_refl _))
    have T7 : Hid (Ar ((w6.alloc (.cells (vs .u8 Z) 24)).setRow w6.heap.size (vs .u8 E)) q 24 .u8 E) := by rw [hq]; exact (Ar.new w6 24 .u8 Z).row E
    have F7 := Lib.hid (F6.out.trans FQ)
    have NQ : Hid (wr.heap.size ≤ q) := by rw [hq]; exact F6.out.size
    rw [← hE]
    rw [← hq] at T7 F7 ⊢
    generalize (w6.alloc (.cells (vs .u8 Z) 24)).setRow q (vs .u8 E) = W7 at *
    clear FQ hq F6 F3 N3' hE
    try simp only [Act.put, List.setIfInBounds_toArray, List.set_cons_succ, List.set_cons_zero]
    have O7 := Lib.hid (OO.out.fr F7.out (fun _ x => x))
    have G7 := Lib.hid (FF.out.trans F7.out)
    have S7 : Hid (Sl W7 q (.slice (some ⟨q, 0, none⟩) 32 32) E) := T7.out.slt lE.out.2 lE.out.1 (by decide)
    have LO : Hid (∀ j, (Value.slice Ao (32 * i) co).ownBlock = some j → j ≠ q) := by
      show ∀ _, _ → _
      intro j hj
      have h1 := OO.out.1.lt j hj
      have h2 := NQ.out
      omega
    have HL : Hid ((exs k b i).length + 32 ≤ 140737488355328) := by
      show _ ≤ _
      rw [exs_length]; omega
    clear OO FF SS T7 F7 CT LL
    go_upto_region 15 with (fail)
    go_upto_region 8 with (at_builtin; refine wpList_own rfl (.tmp 38) (.tmp 39) rfl O7.out.1 rfl rfl S7.out HL.out ?_; intro A8 N8 c8 w8 hap hN; have HA := Lib.hid hap; clear hap hN)
    obtain ⟨r1, r2⟩ := Nw.app O7.out G7.out (Fr.refl _ _) HA.out
    have X8 : Hid (Ys W0 w8 k b (i + 1) (.slice A8 N8 c8) (.slice (some ⟨q, 0, none⟩) 32 32)) := ⟨r2, by rw [exs, UE ()]; exact r1, _, _, _, q, rfl, by rw [UE ()]; exact S7.out.fr ((Fr.refl (fun j => (Value.slice Ao (32 * i) co).ownBlock = some j) W7).grown HA.out.grown (fun j hj => .inl hj)) (fun _ hj => LO.out q hj rfl)⟩
    clear r1 r2 HA O7 G7 S7 LO HL UE
    go_wp2
    go_roundw
    case rel => exact ⟨i + 1, by go_num, by omega, X8⟩
    case measure => simp [intOf]; omega
  obtain rfl : i = N := by
    rcases Nat.lt_or_ge i N with h | h
    · exact absurd (BN.out.2.2.2 i h) hlo
    · omega
  clear CT
  have cap := OO.out.1.sl.cap
  have HC : Hid (n ≤ 32 * i ∧ n ≤ co) := by show _ ∧ _; omega
  have t0 : ¬ 32 * (i : Int) < n := by omega
  have t1 : (n : Int) ≤ co := by omega
  have t2 : ((n : Int)).toNat = n := by omega
  clear cap SS
  go_wp2_with (refine wpList_plain rfl fun K' hK' => wp_value _ _ (run_slice_hi (.tmp 41) _ rfl Ao (32 * i) co n (n : Int) rfl HC.out.2 rfl rfl wr) (hK' _ _ ?_))
  go_ret2
  have hs := OO.out.1.sl.take n (by rw [exs_length]; exact HC.out.1)
  by_cases hl : (exs k b i).take n = []
  · rw [hl] at hs
    exact ⟨_, _, rfl, w.heap.size, Nat.le_refl _, by rw [hl]; exact hs.empty _, F0.out.trans FF.out⟩
  · obtain ⟨j, hj⟩ : ∃ j, (Value.slice Ao (32 * i) co).ownBlock = some j := by
      rcases Ao with _ | a
      · exfalso
        have h0 := OO.out.1.sl
        obtain ⟨_, A', c', e, _, _, hx⟩ := h0
        injection e with e1
        obtain ⟨o, e2, _⟩ := hx (by intro h; rw [h] at hl; simp at hl)
        rw [← e1] at e2; cases e2
      · exact ⟨_, rfl⟩
    have hw := OO.out.2 j hj
    refine ⟨_, _, rfl, _, ?_, hs, F0.out.trans FF.out⟩
    rw [hj]
    exact Nat.le_trans F0.out.size hw
theorem rexpand_is (k : List Int) (g2 : Nat) (A2 : Option Addr) (m2 c2 : Nat) (b : List Int) (x : Int) (w : World) (lk : k.length = 32) (bk : Bys k) (h2 : Sl w g2 (.slice A2 m2 c2) b) (hm2 : m2 ≤ 140737488351232) :
    Calls Try.prog 19 #[.agg (vs .u8 k), .slice A2 m2 c2, .int .i64 x] w fun e w' => ∃ A n c g, e = .returned (.tuple #[.slice A n c, .int .i64 (expv k b x).2]) ∧ w.heap.size ≤ g ∧ Sl w' g (.slice A n c) (expv k b x).1 ∧ Fr (fun _ => False) w w' := by
  have hc : (x < 0 ∧ expv k b x = ([], 2)) ∨ (¬ x < 0 ∧ 8160 < x ∧ expv k b x = ([], 5)) ∨ ∃ n : Nat, x = n ∧ n ≤ 8160 ∧ expv k b x = ((exs k b ((n + 31) / 32)).take n, 0) := by
    by_cases h1 : x < 0
    · exact .inl ⟨h1, by rw [expv, if_pos h1]⟩
    · by_cases h2 : 8160 < x
      · exact .inr (.inl ⟨h1, h2, by rw [expv, if_neg h1, if_pos h2]⟩)
      · refine .inr (.inr ⟨x.toNat, by omega, by omega, by rw [expv, if_neg h1, if_neg h2]⟩)
  rcases hc with ⟨j1, e⟩ | ⟨j1, j2, e⟩ | ⟨n, rfl, hn, e⟩
  · rw [e]
    clear e lk bk h2 hm2
    go_enter Try.func19, Try.ntmps19
    go_wp2
    go_ret2
    first
      | exact ⟨_, _, _, rfl, _, Nat.le_refl _, Sl.nil _ _, (Fr.refl _ _).alloc _⟩
      | exact ⟨_, _, _, _, rfl, Nat.le_refl _, Sl.nil _ _, (Fr.refl _ _).alloc _⟩
  · rw [e]
    clear e lk bk h2 hm2
    go_enter Try.func19, Try.ntmps19
    go_wp2
    go_ret2
    first
      | exact ⟨_, _, _, rfl, _, Nat.le_refl _, Sl.nil _ _, (Fr.refl _ _).alloc _⟩
      | exact ⟨_, _, _, _, rfl, Nat.le_refl _, Sl.nil _ _, (Fr.refl _ _).alloc _⟩
  · rw [e]
    exact (rexpand_yes k g2 A2 m2 c2 b n w lk bk h2 hm2 hn).mono fun e w' ⟨A, c, g, he, hg, hs, hf⟩ => ⟨A, n, c, g, he, hg, hs, hf⟩
end Go.Proofs.Ytebknlhooijkcaa
