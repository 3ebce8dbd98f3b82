/- BlakeNothing answers true for all bytes and numbers: the given statement BlakeNothingSaid. No condition. -/
import Derived.Test.YtafpcaoccocpfaaLawTwice
namespace Go.Proofs.Ytafpcaoccocpfaa
set_option linter.unusedSimpArgs false
set_option linter.unusedVariables false
open Go.ChangeShapes Go.WideShapes Go.ChangeAt Go.RowKit

set_option maxHeartbeats 2000000 in
theorem bring_fix (n : Int) (k : Nat) (h1 : -9223372036854775808 ≤ n) (h2 : n ≤ 9223372036854775807) (hk : 1 ≤ k) (hk2 : k ≤ 140737488355328) :
    ∃ r : Nat, r < k ∧ ∀ w, Calls Try.prog 22 #[.int .i64 n, .int .i64 k] w fun e w' => e = .returned (.int .i64 r) ∧ w = w' := by
  have hd : decide ((k : Int) ≤ 0) = false := decide_eq_false (by omega)
  have hk0 : ¬ ((k : Int) = 0) := by omega
  have hb1 : -(k : Int) < n.tmod k := by
    rcases Int.le_total 0 n with h | h
    · rw [Int.tmod_eq_emod_of_nonneg h]; have := Int.emod_nonneg n hk0; omega
    · have e : n.tmod k = -((-n).tmod k) := by rw [← Int.neg_tmod, Int.neg_neg]
      rw [e, Int.tmod_eq_emod_of_nonneg (by omega)]
      have := Int.emod_lt_of_pos (-n) (show (0 : Int) < k by omega)
      omega
  have hb2 : n.tmod k < k := by
    rcases Int.le_total 0 n with h | h
    · rw [Int.tmod_eq_emod_of_nonneg h]; exact Int.emod_lt_of_pos n (by omega)
    · have e : n.tmod k = -((-n).tmod k) := by rw [← Int.neg_tmod, Int.neg_neg]
      rw [e, Int.tmod_eq_emod_of_nonneg (by omega)]
      have := Int.emod_nonneg (-n) hk0
      omega
  obtain ⟨t, ht⟩ : ∃ t, n.tmod (k : Int) = t := ⟨_, rfl⟩
  rw [ht] at hb1 hb2
  have v1 : IntKind.i64.wrap t = t := by rw [IntKind.wrap_i64]; omega
  have v2 : IntKind.i64.wrap (t + k) = t + k := by rw [IntKind.wrap_i64]; omega
  by_cases h0 : t < 0
  · have hd2 : decide (t < 0) = true := decide_eq_true h0
    obtain ⟨m, hm⟩ : ∃ m : Nat, t + k = m := ⟨(t + k).toNat, by omega⟩
    refine ⟨m, by omega, fun w => ?_⟩
    go_enter Try.func22, Try.ntmps22
    go_wp2
    go_ret
    exact ⟨by rw [← hm]; rfl, rfl⟩
  · have hd2 : decide (t < 0) = false := decide_eq_false h0
    obtain ⟨m, hm⟩ : ∃ m : Nat, t = m := ⟨t.toNat, by omega⟩
    refine ⟨m, by omega, fun w => ?_⟩
    go_enter Try.func22, Try.ntmps22
    go_wp2
    go_ret
    exact ⟨by rw [← hm]; rfl, rfl⟩
theorem eqv_yes {W0 w : World} {v : Value} {l : List Int} {g2 : Nat} {B : Option Addr} {m d : Nat} (h1 : Nw W0 w v l) (h2 : Sl w g2 (.slice B m d) l) :
    Calls Try.prog 14 #[v, .slice B m d] w fun e w' => e = .returned (.bool true) ∧ Fr (fun _ => False) w w' := by
  obtain ⟨A, c, rfl⟩ := h1.shape
  exact eq_yes w h1.1.sl h2 rfl
set_option maxRecDepth 100000 in
set_option maxHeartbeats 16000000 in
theorem law_nothing_any (g0 : Nat) (A0 : Option Addr) (m0 s0 : Nat) (l0 : List Int) (a1 : Int) (w : World) (hs0 : Sl w g0 (.slice A0 m0 s0) l0) (hn0 : m0 ≤ 140737488351232) (hg0 : l0 ≠ [] → g0 < w.heap.size) (ha : -9223372036854775808 ≤ a1 ∧ a1 ≤ 9223372036854775807) :
    Calls Try.prog 9 #[.slice A0 m0 s0, .int .i64 a1] w fun e w' => e = .returned (.bool true) ∧ Fr (fun _ => False) w w' := by
  obtain ⟨R, hR⟩ : ∃ D, D = dig 32 [] l0 := ⟨_, rfl⟩
  have lR : Hid (R.length = 32 ∧ Bys R) := by rw [hR]; exact ⟨dig_length (by decide) _ _, dig_bys _ _ _⟩
  have CS : ∀ W g, HashAt W g 32 [] l0 → Calls Try.prog 20 #[.pointer (some ⟨g, 0, none⟩)] W fun e w' => ∃ v, e = .returned v ∧ Nw W w' v R ∧ Fr (fun _ => False) W w' := fun W g h => by rw [hR]; exact hsum_is g 32 [] l0 W h
  have CU : ∀ W, Fr (fun _ => False) w W → Calls Try.prog 16 #[.slice A0 m0 s0] W fun e w' => e = .returned (.agg (vs .u8 R)) ∧ Fr (fun _ => False) W w' := fun W hf => by rw [hR]; exact sum_is g0 A0 m0 s0 l0 W (hs0.fr hf (fun _ x => x)) hn0
  have HN : ∀ W, Calls Try.prog 18 #[.int .i64 32, .slice none 0 0] W fun e w' => ∃ g, W.heap.size ≤ g ∧ e = .returned (.tuple #[.pointer (some ⟨g, 0, none⟩), .int .i64 0]) ∧ HashAt w' g 32 [] [] ∧ Fr (fun _ => False) W w' := fun W => new_yes 32 0 none 0 0 [] W (Sl.nil _ _) (by decide) (by decide) (by decide)
  obtain ⟨r, hr, CB⟩ : ∃ r : Nat, r < 9 ∧ ∀ W, Calls Try.prog 22 #[.int .i64 a1, .int .i64 9] W fun e w' => e = .returned (.int .i64 r) ∧ W = w' := bring_fix a1 9 ha.1 ha.2 (by omega) (by omega)
  have HA := Lib.hid hs0
  have HM : Hid (m0 ≤ 140737488351232 ∧ l0.length = m0) := ⟨hn0, hs0.len⟩
  obtain ⟨Z, hZ⟩ : ∃ Z, Z = List.replicate 32 (0 : Int) := ⟨_, rfl⟩
  have hz : ∀ W : World, (zeroValue 30).run Try.prog W = .ok (.agg (vs .u8 Z)) W := fun W => by rw [hZ]; exact zeroA32 W
  have s1 : Hid ((Try.prog.info? 30).map (·.size) = some (vs .u8 R).size) := by show _ = _; rw [szA32, vs_size, lR.out.1]
  have e1 : Hid ((vs .u8 Z).size = (vs .u8 R).size) := by show _ = _; rw [vs_size, vs_size, lR.out.1, hZ]; rfl
  clear hR hs0 hn0 hg0 ha hZ
  go_enter Try.func9, Try.ntmps9
  go_upto_region 3 with (go_at_call 15; refine (works_is _).mono ?_; rintro e w1 ⟨rfl, hf⟩; have F1 := Lib.hid hf; clear hf)
  go_upto_region 4 with (go_at_call 18; refine (HN _).mono ?_; rintro e w2 ⟨ga, hg, rfl, hp, hf⟩; have GA := Lib.hid hg; have P2 := Lib.hid hp; have G2 := Lib.hid hf; clear hg hp hf)
  have F2 := Lib.hid (F1.out.trans G2.out)
  have LA : Hid (w.heap.size ≤ ga) := Nat.le_trans F1.out.size GA.out
  clear G2 GA F1 HN
  obtain ⟨ca, hca, hsa⟩ := (HA.out.fr (Fr.refl (fun _ => False) w) (fun _ x => x)).far (ga + 1)
  have NC : Hid (ca ≠ ga) := by have h := LA.out; show ca ≠ ga; omega
  have S2 := Lib.hid (hsa.fr F2.out (fun _ x => x))
  clear hca hsa HA
  go_upto_region 7 with (go_at_call 19; refine (hwrite_is ga 32 [] [] (ga + 1) none 0 0 [] w2 P2.out (Sl.nil _ _) (by omega) (by simp)).mono ?_; rintro e w3 ⟨rfl, hp, hf⟩; rw [List.nil_append] at hp; have P3 := Lib.hid hp; have G3 := Lib.hid hf; clear hp hf)
  have S3 := Lib.hid (S2.out.fr G3.out (fun _ e => NC.out e))
  have F3 : Hid (Fr (fun _ => False) w w3) := F2.out.trans' G3.out (fun j hj e => by have := LA.out; omega)
  clear P2 S2 F2 G3
  go_upto_region 8 with (go_at_call 19; refine (hwrite_is ga 32 [] [] ca A0 m0 s0 l0 w3 P3.out S3.out NC.out (by have := HM.out; simp; omega)).mono ?_; rintro e w4 ⟨rfl, hp, hf⟩; rw [List.nil_append] at hp; have P4 := Lib.hid hp; have G4 := Lib.hid hf; clear hp hf)
  have F4 : Hid (Fr (fun _ => False) w w4) := F3.out.trans' G4.out (fun j hj e => by have := LA.out; omega)
  clear P3 S3 F3 G4
  go_upto_region 9 with (fail)
  go_loopw [7] (fun u7 wr => ∃ i : Nat, u7 = .int .i64 i ∧ i ≤ r ∧ Hid (HashAt wr ga 32 [] l0) ∧ Hid (Fr (fun _ => False) w wr)) (fun u7 _ => r - (intOf u7).toNat)
  case atStart => exact ⟨0, rfl, by omega, P4, F4⟩
  case round =>
  clear P4 F4
  obtain ⟨i, rfl, hi, hP, hF⟩ := hrel
  by_cases hil : i < r
  · have j1 : (i : Int) < r := by omega
    go_upto_region 11 with (go_at_call 22; refine (CB _).mono ?_; rintro e w5 ⟨rfl, rfl⟩)
    have SN : Hid (Sl (wr.alloc (.cells #[] 5)) (ga + 1) (.slice (some ⟨wr.heap.size, 0, none⟩) 0 0) []) := ⟨Bys.nil, _, 0, rfl, by simp, by simp [maxLen], fun h => absurd rfl h⟩
    have FA : Hid (Fr (fun _ => False) wr (wr.alloc (.cells #[] 5))) := (Fr.refl _ _).alloc _
    go_upto_region 10 with (go_at_call 19; refine (hwrite_is ga 32 [] l0 (ga + 1) _ 0 0 [] _ (hP.out.fr FA.out (fun x => x)) SN.out (by omega) (by have := HM.out; omega)).mono ?_; rintro e w6 ⟨rfl, hp, hf⟩; rw [List.append_nil] at hp; have P6 := Lib.hid hp; have G6 := Lib.hid hf; clear hp hf)
    have F6 : Hid (Fr (fun _ => False) w w6) := (hF.out.trans FA.out).trans' G6.out (fun j hj e => by have := LA.out; omega)
    clear hP hF G6 SN FA
    go_wp2
    go_roundw
    case rel => exact ⟨i + 1, by go_num, by omega, P6, F6⟩
    case measure => simp [intOf]; omega
  obtain rfl : i = r := by omega
  go_upto_region 13 with (first
    | (go_at_call 22; refine (CB _).mono ?_; rintro e w5 ⟨rfl, rfl⟩)
    | (go_at_call 16; refine (CU _ hF.out).mono ?_; rintro e w6 ⟨rfl, hf⟩; have F6 := Lib.hid hf; clear hf)
    | refine wpList_store_row rfl 30 (.tmp 8) (.tmp 32) rfl w6.heap.size (vs .u8 R) rfl rfl 30 (vs .u8 Z) (heap_alloc_new w6 (.cells (vs .u8 Z) 30)) s1.out e1.out (vs_all _ _) ?_)
  obtain ⟨bq, hbq⟩ : ∃ q, q = w6.heap.size := ⟨_, rfl⟩
  have FQ : Fr (fun _ => False) w6 ((w6.alloc (.cells (vs .u8 Z) 30)).setRow w6.heap.size (vs .u8 R)) := ((Fr.refl _ w6).alloc _).setRow _ (.inr (Nat.le_refl _))
  have T7 : Hid (Ar ((w6.alloc (.cells (vs .u8 Z) 30)).setRow w6.heap.size (vs .u8 R)) bq 30 .u8 R) := by rw [hbq]; exact (Ar.new w6 30 .u8 Z).row R
  have P7 := Lib.hid (hP.out.fr (F6.out.trans FQ) (fun x => x))
  have F7 := Lib.hid ((hF.out.trans F6.out).trans FQ)
  rw [← hbq] at T7 P7 F7 ⊢
  generalize (w6.alloc (.cells (vs .u8 Z) 30)).setRow bq (vs .u8 R) = W7 at *
  clear FQ hbq hP hF F6 CU hz CB
  try simp only [Act.put, List.setIfInBounds_toArray, List.set_cons_succ, List.set_cons_zero]
  have S7 : Hid (Sl W7 bq (.slice (some ⟨bq, 0, none⟩) 32 32) R) := T7.out.slt lR.out.2 lR.out.1 (by decide)
  have CS7 : ∀ W, Fr (fun _ => False) W7 W → Calls Try.prog 20 #[.pointer (some ⟨ga, 0, none⟩)] W fun e w' => ∃ v, e = .returned v ∧ Nw W7 w' v R ∧ Fr (fun _ => False) W w' := fun W hf => (CS W ga (P7.out.fr hf (fun x => x))).mono fun e w' ⟨v, h1, h2, h3⟩ => ⟨v, h1, h2.of hf, h3⟩
  refine wp_region_inv2 (fun b a w' => ∃ vx : Value, Fr (fun _ => False) W7 w' ∧ (b 1 = true → Nw W7 w' vx R) ∧ a = ⟨#[Value.slice A0 m0 s0, Value.int IntKind.i64 a1, undef, undef, if b 4 = true then .bool true else Value.bool false, Value.pointer (some { block := ga, off := 0 }), Value.int IntKind.i64 0, Value.int IntKind.i64 ↑i, Value.pointer (some { block := bq, off := 0 }), Value.bool true, Value.bool false, Value.tuple #[Value.pointer (some { block := ga, off := 0 }), Value.int IntKind.i64 0], Value.tuple #[Value.pointer (some { block := ga, off := 0 }), Value.int IntKind.i64 0], Value.pointer (some { block := ga, off := 0 }), Value.int IntKind.i64 0, Value.int IntKind.i64 0, Value.bool false, Value.pointer (some { block := ga, off := 0 }), Value.tuple #[], Value.pointer (some { block := ga, off := 0 }), Value.slice A0 m0 s0, Value.tuple #[], Value.int IntKind.i64 ↑i, Value.int IntKind.i64 a1, Value.int IntKind.i64 ↑i, Value.bool false, u26, u27, u28, u29, u30, Value.slice A0 m0 s0, Value.agg (vs IntKind.u8 R), if b 0 = true then Value.pointer (some { block := ga, off := 0 }) else undef, if b 1 = true then vx else undef, if b 2 = true then .slice (some ⟨bq, 0, none⟩) 32 32 else undef, if b 3 = true then .bool true else undef], []⟩) (by kernel_rfl) (by kernel_rfl) ?start13 ?step13 ?done13
  case start13 => exact ⟨undef, ⟨rfl, rfl, rfl, Nat.le_refl _, fun _ _ _ => rfl⟩, fun h => by simp at h, by simp⟩
  case step13 =>
    intro i5 o5 b a w1 ho hI hb hr hcl
    obtain ⟨vx, hF, h1, rfl⟩ := hI
    match i5, ho with
    | 0, ho =>
      injection ho with ho
      subst ho
      refine wp_quiet_here (Value.pointer (some { block := ga, off := 0 })) (BigFrame.quiet_move _ rfl rfl) (fun w2 hw2 => ?_)
      refine ⟨vx, hF.trans hw2, ?_, ?_⟩
      · intro hx
        have hy := h1 (by simpa [upd] using hx)
        exact hy.fr hw2 (fun _ x => x)
      · simp [upd, Act.put]
    | 1, ho =>
      injection ho with ho
      subst ho
      simp [Region.binds] at hr
      have d0 : b 0 = true := by simp only [hr]
      simp only [hr, if_true]
      refine wp_enter 20 #[.pointer (some ⟨ga, 0, none⟩)] (by kernel_rfl) ((CS7 _ hF).mono ?_)
      rintro e w2 ⟨gN, rfl, hfact, hfN⟩
      refine ⟨gN, hF.trans hfN, ?_, ?_⟩
      · exact fun _ => hfact
      · simp [upd, Act.put, hr]
    | 2, ho =>
      injection ho with ho
      subst ho
      refine wp_quiet_here (.slice (some ⟨bq, 0, none⟩) 32 32) ?_ (fun w2 hw2 => ?_)
      · simp only [Bool.false_eq_true] 
        go_big_quiet_op
        first
          | (simp [Act.put]; done)
          | exact ⟨_, fun _ _ => rfl, by simp [Act.put] <;> assumption⟩
      refine ⟨vx, hF.trans hw2, ?_, ?_⟩
      · intro hx
        have hy := h1 (by simpa [upd] using hx)
        exact hy.fr hw2 (fun _ x => x)
      · simp [upd, Act.put]
    | 3, ho =>
      injection ho with ho
      subst ho
      simp [Region.binds] at hr
      have d1 : b 1 = true := by simp only [hr]
      have d2 : b 2 = true := by simp only [hr]
      simp only [hr, if_true]
      refine wp_quiet_here (.bool true) (quiet_call 14 #[vx, .slice (some ⟨bq, 0, none⟩) 32 32] (.bool true) (fun _ => by kernel_rfl) (fun V hV => (eqv_yes ((h1 d1).fr hV (fun _ x => x)) ((S7.out.fr hF (fun _ x => x)).fr hV (fun _ x => x))).mono fun _ _ ⟨he, hf⟩ => ⟨he, Fr.trans hV hf⟩) rfl) (fun w2 hw2 => ?_)
      refine ⟨vx, hF.trans hw2, ?_, ?_⟩
      · intro hx
        have hy := h1 (by simpa [upd] using hx)
        exact hy.fr hw2 (fun _ x => x)
      · simp [upd, Act.put, hr]
    | 4, ho =>
      injection ho with ho
      subst ho
      simp [Region.binds] at hr
      have d0 : b 0 = true := by simp only [hr]
      have d1 : b 1 = true := by simp only [hr]
      have d2 : b 2 = true := by simp only [hr]
      have d3 : b 3 = true := by simp only [hr]
      simp only [hr, if_true]
      refine wp_quiet_here (.bool true) (BigFrame.quiet_assign _ rfl rfl) (fun w2 hw2 => ?_)
      refine ⟨vx, hF.trans hw2, ?_, ?_⟩
      · intro hx
        have hy := h1 (by simpa [upd] using hx)
        exact hy.fr hw2 (fun _ x => x)
      · simp [upd, Act.put, hr]
    | j + 5, ho => exact absurd ho (by simp)
  intro b a w9 hall hI
  obtain ⟨vx, hF, h1, rfl⟩ := hI
  have t0 : b 0 = true := hall 0 (by simp)
  have t1 : b 1 = true := hall 1 (by simp)
  have t2 : b 2 = true := hall 2 (by simp)
  have t3 : b 3 = true := hall 3 (by simp)
  have t4 : b 4 = true := hall 4 (by simp)
  simp only [t0, t1, t2, t3, t4, if_true]
  have Pvx := Lib.hid (h1 t1)
  have F9 : Hid (Fr (fun _ => False) w w9) := F7.out.trans hF
  have G9 := Lib.hid hF
  clear hall hF h1 t0 t1 t2 t3 t4
  try simp only [Act.put, List.setIfInBounds_toArray, List.set_cons_succ, List.set_cons_zero]
  go_wp2
  go_ret
  exact ⟨rfl, F9.out⟩

set_option maxRecDepth 100000 in
theorem law_nothing_lifted (os : Os) (started : os.Started) (H : Type) (enc : TypeId × Value → H) :
    ReturnsInHanded {} Try.checked os 9 .any (Rows.blakeNothingSpec.pre6 enc Try.prog Try.f9 Rows.blakeNothingRow.domain false) (Rows.blakeNothingSpec.post enc Try.prog Try.f9 false true false false) := by
  refine returnsInHanded_of_change_sized (C := Try.checked) own started (by kernel_rfl) Try.func9
    (ChangeSpec.witness6 (enc := enc) (C := Try.checked) false ⟨#[], #[.slice none 0 0, .int .i64 0], []⟩ 8 (by kernel_rfl) (by kernel_rfl) (by kernel_rfl) (by kernel_rfl)) ?_
  intro W base args ds gs before hval0 hW hcnd hsz0 _
  have hsz : (DataW.weightsEach Try.prog (Try.f9.params.toList ++ Rows.blakeNothingSpec.plain.varTypes Try.prog) (ds ++ gs)).all (· ≤ reachBytes) = true := hsz0
  clear hsz0
  have hval : ∀ (j : Nat) t v, Try.f9.params[j]? = some t → args[j]? = some v → Value.okWide Try.prog W .any base t v := hval0
  have hW' := hW
  obtain ⟨p, q, hA0, hV, rfl, hfz, hnd⟩ := hW
  have hA : DataW.TrodAll enc Try.prog W 0 (fun _ => true) true Try.f9.params.toList args.toList ds p := hA0
  rw [Try.params9] at hA hval hsz
  obtain ⟨v0, vs0, d0, ds0, p0, q0, hargs, rfl, rfl, h0, r0⟩ := trodAll_cons hA
  obtain ⟨v1, vs1, d1, ds1, p1, q1, rfl, rfl, rfl, h1, r1⟩ := trodAll_cons r0
  obtain ⟨rfl, rfl, rfl⟩ := trodAll_nil r1
  obtain rfl : args = #[v0, v1] := by cases args; simp_all
  obtain ⟨rfl, rfl⟩ := trodVars_none hV
  have hlt0 : ∀ x ∈ p0, x.block < W.heap.size := fun x hx => hW'.lt x (by simp [hx])
  obtain ⟨A0, m0, s0, g0, l0, rfl, hs0, hg0⟩ := open_sl (hval 0 22 v0 rfl rfl) h0 hlt0
  have hn0 : m0 ≤ 140737488351232 := by
    rcases open_len h0 with e | ⟨el, sp, rfl, hle⟩
    · omega
    · have := sized_slice hsz (j := 0) (t := 22) (e := 5) rfl rfl Try.underlying22
      rw [Try.bytes5] at this
      simp only [reachBytes] at this
      omega
  obtain ⟨a1, rfl, rfl, rfl, w1⟩ := open_int Try.underlying3 (hval 1 3 v1 rfl rfl) h1
  clear hA0 hval0
  refine (law_nothing_any g0 A0 m0 s0 l0 a1 W hs0 hn0 hg0 (wf_i64 w1)).mono fun e W' ⟨he, hg⟩ => ?_
  subst he
  exact ⟨_, rfl, post_true rfl hW' (by kernel_rfl) rfl rfl hg⟩

theorem blakeNothing_holds : Rows.BlakeNothingSaid :=
  OpenClaim.holds_of_wide 9 Try.f9 rfl rfl rfl rfl rfl rfl rfl ⟨rfl, rfl, rfl, rfl, rfl⟩ rfl rfl rfl rfl rfl (by kernel_rfl) Try.func9 (by kernel_rfl)
    (of_decide_eq_true (by kernel_rfl)) (by unfold Func.isWrapper; first | (rw [if_pos (by decide +kernel)]; kernel_rfl) | (rw [if_neg (by decide +kernel)]; exact ⟨rfl, rfl⟩))
    (fun os started H enc _ => law_nothing_lifted os started H enc)
#print axioms blakeNothing_holds
end Go.Proofs.Ytafpcaoccocpfaa
