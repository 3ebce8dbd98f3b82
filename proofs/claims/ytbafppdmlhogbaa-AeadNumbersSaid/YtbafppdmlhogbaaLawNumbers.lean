/- AeadNumbers answers true for all two numbers: the given statement AeadNumbersSaid. No condition. -/
import Derived.Test.YtbafppdmlhogbaaLawNonce
import Derived.Test.YtbafppdmlhogbaaAw
import Derived.Test.YtbafppdmlhogbaaSm
namespace Go.Proofs.Ytbafppdmlhogbaa
set_option linter.unusedSimpArgs false
set_option linter.unusedVariables false
open Go.ChangeShapes Go.WideShapes Go.ChangeAt Go.RowKit

/-- What stands in front of a number's lowest bytes. -/
def top (x : Int) (j : Nat) : Int := x / 256 ^ (8 - j)
theorem top_zero (x : Int) (h : 0 ≤ x ∧ x ≤ 9007199254740991) : top x 0 = 0 := by
  unfold top
  exact Int.ediv_eq_zero_of_lt h.1 (by show x < 256 ^ 8; omega)
theorem top_all (x : Int) : top x 8 = x := by simp [top]
theorem top_next (x : Int) (h : 0 ≤ x ∧ x ≤ 9007199254740991) (j : Nat) (hj : j < 8) :
    0 ≤ top x j ∧ top x j * 256 ≤ 9007199254740991 ∧ ∃ y, (nonce x)[11 - j]? = some y ∧ 0 ≤ y ∧ y ≤ 255 ∧ top x (j + 1) = top x j * 256 + y := by
  have h1 : top x j = top x (j + 1) / 256 := by
    unfold top
    rw [show 8 - j = (8 - (j + 1)) + 1 by omega, Int.pow_succ, Int.ediv_ediv_of_nonneg (Int.le_of_lt (Int.pow_pos (by decide)))]
  have h0 : 0 ≤ top x (j + 1) ∧ top x (j + 1) ≤ x := by
    unfold top
    exact ⟨Int.ediv_nonneg h.1 (Int.le_of_lt (Int.pow_pos (by decide))), Int.ediv_le_self _ h.1⟩
  refine ⟨by omega, by omega, top x (j + 1) % 256, ?_, by omega, by omega, by omega⟩
  rw [nonce, List.getElem?_append_right (by simp; omega), show 11 - j - [0, 0, 0, (0 : Int)].length = 7 - j by simp; omega, les_get 8 x (7 - j) (by omega)]
  unfold top
  rw [show 8 - (j + 1) = 7 - j by omega]
theorem or_byte (v y : Int) (h : 0 ≤ v) (h2 : v * 256 ≤ 9007199254740991) (y0 : 0 ≤ y) (y1 : y ≤ 255) : bits .or .i64 (v * 256) y = v * 256 + y := by
  obtain ⟨v, rfl⟩ := Int.eq_ofNat_of_zero_le h
  obtain ⟨y, rfl⟩ := Int.eq_ofNat_of_zero_le y0
  have e : ((v : Int) * 256) = ((v * 2 ^ 8 : Nat) : Int) := by omega
  rw [e, i64_or (v * 2 ^ 8) y (by omega) (by omega), nat_join 8 (v * 2 ^ 8) y (Nat.mul_mod_left _ _) (by omega)]
  omega
theorem nonce_inj {x y : Int} (hx : 0 ≤ x ∧ x ≤ 9007199254740991) (hy : 0 ≤ y ∧ y ≤ 9007199254740991) : nonce x = nonce y ↔ x = y := by
  constructor
  · intro h
    refine les_inj 8 x y ⟨hx.1, by show x < 256 ^ 8; omega⟩ ⟨hy.1, by show y < 256 ^ 8; omega⟩ ?_
    unfold nonce at h
    exact List.append_cancel_left h
  · rintro rfl
    rfl
set_option maxRecDepth 100000 in
set_option maxHeartbeats 32000000 in
theorem law_numbers_any (a0 a1 : Int) (w : World) (ha : -9223372036854775808 ≤ a0 ∧ a0 ≤ 9223372036854775807) (hb : -9223372036854775808 ≤ a1 ∧ a1 ≤ 9223372036854775807) :
    Calls Try.prog 11 #[.int .i64 a0, .int .i64 a1] w fun e w' => e = .returned (.bool true) ∧ Fr (fun _ => False) w w' := by
  obtain ⟨V, hV⟩ : ∃ V, V = (noncev a0).1 := ⟨_, rfl⟩
  obtain ⟨U, hU⟩ : ∃ V, V = (noncev a1).1 := ⟨_, rfl⟩
  have lV : Hid (V.length = 12) := by show _ = _; rw [hV]; exact noncev_length a0
  have lU : Hid (U.length = 12) := by show _ = _; rw [hU]; exact noncev_length a1
  have sV : Hid ((Try.prog.info? 22).map (·.size) = some (vs .u8 V).size) := by show _ = _; rw [size29, vs_size, lV.out]
  have sU : Hid ((Try.prog.info? 22).map (·.size) = some (vs .u8 U).size) := by show _ = _; rw [size29, vs_size, lU.out]
  obtain ⟨Z, hZ⟩ : ∃ Z, Z = List.replicate 12 (0 : Int) := ⟨_, rfl⟩
  have hz : ∀ W : World, (zeroValue 22).run Try.prog W = .ok (.agg (vs .u8 Z)) W := fun W => by rw [hZ]; exact zero12 W
  have eZ : Hid ((vs .u8 Z).size = (vs .u8 V).size) := by show _ = _; rw [vs_size, vs_size, hZ, lV.out]; rfl
  have eU : Hid ((vs .u8 Z).size = (vs .u8 U).size) := by show _ = _; rw [vs_size, vs_size, hZ, lU.out]; rfl
  clear hZ
  have C1 : ∀ W, Calls Try.prog 13 #[.int .i64 a0] W fun e w' => e = .returned (.tuple #[.agg (vs .u8 V), .int .i64 (noncev a0).2]) ∧ Fr (fun _ => False) W w' := fun W => by rw [hV]; exact nonce_is a0 W ha
  have C2 : ∀ W, Calls Try.prog 13 #[.int .i64 a1] W fun e w' => e = .returned (.tuple #[.agg (vs .u8 U), .int .i64 (noncev a1).2]) ∧ Fr (fun _ => False) W w' := fun W => by rw [hU]; exact nonce_is a1 W hb
  by_cases hin0 : 0 ≤ a0 ∧ a0 ≤ 9007199254740991
  · have e0 : (noncev a0).2 = 0 := by rw [noncev, if_pos hin0]
    rw [e0] at C1
    have j1 : ¬ a0 < 0 := by omega
    have j2 : ¬ 9007199254740991 < a0 := by omega
    by_cases hin1 : 0 ≤ a1 ∧ a1 ≤ 9007199254740991
    · have e1 : (noncev a1).2 = 0 := by rw [noncev, if_pos hin1]
      rw [e1] at C2
      have j3 : ¬ a1 < 0 := by omega
      have j4 : ¬ 9007199254740991 < a1 := by omega
      have HV : V = nonce a0 := by rw [hV, noncev, if_pos hin0]
      have HU : U = nonce a1 := by rw [hU, noncev, if_pos hin1]
      have HEQ : ∀ W, (Op.equalIn 10000 22 (.agg (vs .u8 V)) (.agg (vs .u8 U))).run Try.prog W = .ok (decide (a0 = a1)) W := fun W => by
        rw [eq12 V U lV.out lU.out W]
        congr 1
        rw [decide_eq_decide, HV, HU]
        exact nonce_inj hin0 hin1
      obtain ⟨D, hD⟩ : ∃ D, D = top a0 := ⟨_, rfl⟩
      have D0 : Hid (D 0 = 0) := by show _ = _; rw [hD]; exact top_zero a0 hin0
      have D8 : Hid (D 8 = a0) := by show _ = _; rw [hD]; exact top_all a0
      have DN : Hid (∀ j, j < 8 → 0 ≤ D j ∧ D j * 256 ≤ 9007199254740991 ∧ ∃ y, V[11 - j]? = some y ∧ 0 ≤ y ∧ y ≤ 255 ∧ D (j + 1) = D j * 256 + y) := by show ∀ _, _; rw [hD, HV]; exact top_next a0 hin0
      clear hD HV HU e0 e1 hin0 hin1 hV hU ha hb
      go_enter Try.func11, Try.ntmps11
      go_upto_region 2 with (first
        | (go_at_call 13; refine (C1 _).mono ?_; rintro e w1 ⟨rfl, hf⟩; have F1 := Lib.hid hf; clear hf)
        | refine wpList_store_row rfl 22 (.tmp 5) (.tmp 14) rfl w1.heap.size (vs .u8 V) rfl rfl 22 (vs .u8 Z) (heap_alloc_new w1 _) sV.out eZ.out (vs_all _ _) ?_)
      obtain ⟨q, hq⟩ : ∃ q, q = w1.heap.size := ⟨_, rfl⟩
      have X2 : Hid (Ar ((w1.alloc (.cells (vs .u8 Z) 22)).setRow w1.heap.size (vs .u8 V)) q 22 .u8 V) := by rw [hq]; exact (Ar.new w1 22 .u8 Z).row V
      have F2 : Hid (Fr (fun _ => False) w ((w1.alloc (.cells (vs .u8 Z) 22)).setRow w1.heap.size (vs .u8 V))) := (F1.out.alloc _).setRow _ (.inr F1.out.size)
      rw [← hq] at X2 F2 ⊢
      generalize (w1.alloc (.cells (vs .u8 Z) 22)).setRow q (vs .u8 V) = W2 at *
      clear hq F1 C1
      try simp only [Act.put, List.setIfInBounds_toArray, List.set_cons_succ, List.set_cons_zero]
      go_upto_region 3 with (first
        | (go_at_call 13; refine (C2 _).mono ?_; rintro e w3 ⟨rfl, hf⟩; have F3 := Lib.hid hf; clear hf)
        | refine wpList_store_row rfl 22 (.tmp 7) (.tmp 19) rfl w3.heap.size (vs .u8 U) rfl rfl 22 (vs .u8 Z) (heap_alloc_new w3 _) sU.out eU.out (vs_all _ _) ?_)
      obtain ⟨q2, hq2⟩ : ∃ q, q = w3.heap.size := ⟨_, rfl⟩
      have FQ : Fr (fun _ => False) w3 ((w3.alloc (.cells (vs .u8 Z) 22)).setRow w3.heap.size (vs .u8 U)) := ((Fr.refl _ _).alloc _).setRow _ (.inr (Nat.le_refl _))
      have Y4 : Hid (Ar ((w3.alloc (.cells (vs .u8 Z) 22)).setRow w3.heap.size (vs .u8 U)) q2 22 .u8 U) := by rw [hq2]; exact (Ar.new w3 22 .u8 Z).row U
      have X4 := Lib.hid (X2.out.fr (F3.out.trans FQ) (fun x => x))
      have F4 := Lib.hid (F2.out.trans (F3.out.trans FQ))
      rw [← hq2] at X4 Y4 F4 ⊢
      generalize (w3.alloc (.cells (vs .u8 Z) 22)).setRow q2 (vs .u8 U) = W4 at *
      clear hq2 X2 F2 F3 FQ C2 hz
      try simp only [Act.put, List.setIfInBounds_toArray, List.set_cons_succ, List.set_cons_zero]
      go_upto_region 7 with (fail)
      clear j1 j2 j3 j4
      go_loopw [9, 10] (fun u9 u10 wr => ∃ j : Nat, u10 = .int .i64 (11 - (j : Int)) ∧ j ≤ 8 ∧ u9 = .int .i64 (D j) ∧ Hid (Ar wr q 22 .u8 V) ∧ Hid (Ar wr q2 22 .u8 U) ∧ Hid (Fr (fun _ => False) w wr)) (fun _ u10 _ => (intOf u10).toNat)
      case atStart => exact ⟨0, rfl, by omega, by rw [D0.out], X4, Y4, F4⟩
      case round =>
      clear X4 Y4 F4
      obtain ⟨j, rfl, hj, rfl, hX, hY, hF⟩ := hrel
      by_cases hjl : j < 8
      · obtain ⟨d0, d1, y, gy, y0, y1, dn⟩ := DN.out j hjl
        have cX := hX.out.cell gy
        obtain ⟨v, hv⟩ : ∃ v, v = D j := ⟨_, rfl⟩
        rw [← hv] at d0 d1 dn ⊢
        obtain ⟨v2, hv2⟩ : ∃ x, x = D (j + 1) := ⟨_, rfl⟩
        rw [← hv2] at dn
        have HV2 : Hid (v2 = D (j + 1)) := hv2
        have j5 : IntKind.i64.wrap (v * 256) = v * 256 := by rw [IntKind.wrap_i64]; omega
        have j6 : bits .or .i64 (v * 256) y = v2 := by rw [or_byte v y d0 d1 y0 y1, dn]
        have j7 : (11 - (j : Int)).toNat = 11 - j := by omega
        have j8 : 0 ≤ 11 - (j : Int) := by omega
        have j9 : 11 - (j : Int) < 12 := by omega
        have j10 : IntKind.i64.wrap y = y := by rw [IntKind.wrap_i64]; omega
        have j11 : IntKind.i64.wrap (11 - (j : Int) - 1) = 11 - ((j + 1 : Nat) : Int) := by rw [IntKind.wrap_i64]; omega
        have j12 : (3 : Int) < 11 - (j : Int) := by omega
        clear gy d0 d1 y0 y1 dn hv hv2
        go_wp2
        go_roundw
        case rel => exact ⟨j + 1, by first | rfl | (simp; omega) | go_num, by omega, by rw [HV2.out], hX, hY, hF⟩
        case measure => simp [intOf]; omega
      obtain rfl : j = 8 := by omega
      rw [D8.out]
      clear DN D8 D0
      go_wp2_with (first
        | refine wpList_load_row_w rfl 22 (.tmp 5) rfl q rfl 22 (vs .u8 V) (0, 0) _ hX.out Try.underlying22 rfl sV.out ?_
        | refine wpList_load_row_w rfl 22 (.tmp 7) rfl q2 rfl 22 (vs .u8 U) (0, 0) _ hY.out Try.underlying22 rfl sU.out ?_
        | (go_at_call 21; refine (awake_is _).mono ?_; rintro e w5 ⟨rfl, hf⟩; have F5 := Lib.hid (hF.out.trans hf); clear hf))
      go_ret
      exact ⟨rfl, F5.out⟩
    · have e1 : (noncev a1).2 = 9 := by rw [noncev, if_neg hin1]
      rw [e1] at C2
      have hcase : a1 < 0 ∨ (¬ a1 < 0 ∧ 9007199254740991 < a1) := by omega
      clear e0 e1 hin0 hin1 hV hU ha hb
      rcases hcase with j3 | ⟨j3, j4⟩
      all_goals
        go_enter Try.func11, Try.ntmps11
        go_upto_region 2 with (first
          | (go_at_call 13; refine (C1 _).mono ?_; rintro e w1 ⟨rfl, hf⟩; have F1 := Lib.hid hf; clear hf)
          | refine wpList_store_row rfl 22 (.tmp 5) (.tmp 14) rfl w1.heap.size (vs .u8 V) rfl rfl 22 (vs .u8 Z) (heap_alloc_new w1 _) sV.out eZ.out (vs_all _ _) ?_)
        obtain ⟨q, hq⟩ : ∃ q, q = w1.heap.size := ⟨_, rfl⟩
        have X2 : Hid (Ar ((w1.alloc (.cells (vs .u8 Z) 22)).setRow w1.heap.size (vs .u8 V)) q 22 .u8 V) := by rw [hq]; exact (Ar.new w1 22 .u8 Z).row V
        have F2 : Hid (Fr (fun _ => False) w ((w1.alloc (.cells (vs .u8 Z) 22)).setRow w1.heap.size (vs .u8 V))) := (F1.out.alloc _).setRow _ (.inr F1.out.size)
        rw [← hq] at X2 F2 ⊢
        generalize (w1.alloc (.cells (vs .u8 Z) 22)).setRow q (vs .u8 V) = W2 at *
        clear hq F1 C1
        try simp only [Act.put, List.setIfInBounds_toArray, List.set_cons_succ, List.set_cons_zero]
        go_upto_region 3 with (first
          | (go_at_call 13; refine (C2 _).mono ?_; rintro e w3 ⟨rfl, hf⟩; have F3 := Lib.hid hf; clear hf)
          | refine wpList_store_row rfl 22 (.tmp 7) (.tmp 19) rfl w3.heap.size (vs .u8 U) rfl rfl 22 (vs .u8 Z) (heap_alloc_new w3 _) sU.out eU.out (vs_all _ _) ?_)
        obtain ⟨q2, hq2⟩ : ∃ q, q = w3.heap.size := ⟨_, rfl⟩
        have FQ : Fr (fun _ => False) w3 ((w3.alloc (.cells (vs .u8 Z) 22)).setRow w3.heap.size (vs .u8 U)) := ((Fr.refl _ _).alloc _).setRow _ (.inr (Nat.le_refl _))
        have Y4 : Hid (Ar ((w3.alloc (.cells (vs .u8 Z) 22)).setRow w3.heap.size (vs .u8 U)) q2 22 .u8 U) := by rw [hq2]; exact (Ar.new w3 22 .u8 Z).row U
        have X4 := Lib.hid (X2.out.fr (F3.out.trans FQ) (fun x => x))
        have F4 := Lib.hid (F2.out.trans (F3.out.trans FQ))
        rw [← hq2] at X4 Y4 F4 ⊢
        generalize (w3.alloc (.cells (vs .u8 Z) 22)).setRow q2 (vs .u8 U) = W4 at *
        clear hq2 X2 F2 F3 FQ C2 hz
        try simp only [Act.put, List.setIfInBounds_toArray, List.set_cons_succ, List.set_cons_zero]
        go_wp2_with (go_at_call 21; refine (awake_is _).mono ?_; rintro e w5 ⟨rfl, hf⟩; have F5 := Lib.hid (F4.out.trans hf); clear hf)
        go_ret
        exact ⟨rfl, F5.out⟩
  · have e0 : (noncev a0).2 = 9 := by rw [noncev, if_neg hin0]
    rw [e0] at C1
    obtain ⟨er, hE⟩ : ∃ x, x = (noncev a1).2 := ⟨_, rfl⟩
    rw [← hE] at C2
    have hcase : a0 < 0 ∨ (¬ a0 < 0 ∧ 9007199254740991 < a0) := by omega
    clear e0 hin0 hE hV hU ha hb
    rcases hcase with j1 | ⟨j1, j2⟩
    all_goals
      go_enter Try.func11, Try.ntmps11
      go_upto_region 2 with (first
        | (go_at_call 13; refine (C1 _).mono ?_; rintro e w1 ⟨rfl, hf⟩; have F1 := Lib.hid hf; clear hf)
        | refine wpList_store_row rfl 22 (.tmp 5) (.tmp 14) rfl w1.heap.size (vs .u8 V) rfl rfl 22 (vs .u8 Z) (heap_alloc_new w1 _) sV.out eZ.out (vs_all _ _) ?_)
      obtain ⟨q, hq⟩ : ∃ q, q = w1.heap.size := ⟨_, rfl⟩
      have X2 : Hid (Ar ((w1.alloc (.cells (vs .u8 Z) 22)).setRow w1.heap.size (vs .u8 V)) q 22 .u8 V) := by rw [hq]; exact (Ar.new w1 22 .u8 Z).row V
      have F2 : Hid (Fr (fun _ => False) w ((w1.alloc (.cells (vs .u8 Z) 22)).setRow w1.heap.size (vs .u8 V))) := (F1.out.alloc _).setRow _ (.inr F1.out.size)
      rw [← hq] at X2 F2 ⊢
      generalize (w1.alloc (.cells (vs .u8 Z) 22)).setRow q (vs .u8 V) = W2 at *
      clear hq F1 C1
      try simp only [Act.put, List.setIfInBounds_toArray, List.set_cons_succ, List.set_cons_zero]
      go_upto_region 3 with (first
        | (go_at_call 13; refine (C2 _).mono ?_; rintro e w3 ⟨rfl, hf⟩; have F3 := Lib.hid hf; clear hf)
        | refine wpList_store_row rfl 22 (.tmp 7) (.tmp 19) rfl w3.heap.size (vs .u8 U) rfl rfl 22 (vs .u8 Z) (heap_alloc_new w3 _) sU.out eU.out (vs_all _ _) ?_)
      obtain ⟨q2, hq2⟩ : ∃ q, q = w3.heap.size := ⟨_, rfl⟩
      have FQ : Fr (fun _ => False) w3 ((w3.alloc (.cells (vs .u8 Z) 22)).setRow w3.heap.size (vs .u8 U)) := ((Fr.refl _ _).alloc _).setRow _ (.inr (Nat.le_refl _))
      have Y4 : Hid (Ar ((w3.alloc (.cells (vs .u8 Z) 22)).setRow w3.heap.size (vs .u8 U)) q2 22 .u8 U) := by rw [hq2]; exact (Ar.new w3 22 .u8 Z).row U
      have X4 := Lib.hid (X2.out.fr (F3.out.trans FQ) (fun x => x))
      have F4 := Lib.hid (F2.out.trans (F3.out.trans FQ))
      rw [← hq2] at X4 Y4 F4 ⊢
      generalize (w3.alloc (.cells (vs .u8 Z) 22)).setRow q2 (vs .u8 U) = W4 at *
      clear hq2 X2 F2 F3 FQ C2 hz
      try simp only [Act.put, List.setIfInBounds_toArray, List.set_cons_succ, List.set_cons_zero]
      go_wp2_with (go_at_call 21; refine (awake_is _).mono ?_; rintro e w5 ⟨rfl, hf⟩; have F5 := Lib.hid (F4.out.trans hf); clear hf)
      go_ret
      exact ⟨rfl, F5.out⟩

set_option maxRecDepth 100000 in
theorem law_numbers_lifted (os : Os) (started : os.Started) (H : Type) (enc : TypeId × Value → H) :
    ReturnsInHanded {} Try.checked os 11 .any (Rows.aeadNumbersSpec.pre6 enc Try.prog Try.f11 Rows.aeadNumbersRow.domain false) (Rows.aeadNumbersSpec.post enc Try.prog Try.f11 false true false false) := by
  refine returnsInHanded_of_change (C := Try.checked) own started (by kernel_rfl) Try.func11
    (ChangeSpec.witness6 (enc := enc) (C := Try.checked) false ⟨#[], #[.int .i64 0, .int .i64 0], []⟩ 8 (by kernel_rfl) (by kernel_rfl) (by kernel_rfl) (by kernel_rfl)) ?_
  intro W base args ds gs before hval0 hW hcnd _
  have hval : ∀ (j : Nat) t v, Try.f11.params[j]? = some t → args[j]? = some v → Value.okWide Try.prog W .any base t v := hval0
  have hW' := hW
  obtain ⟨p, q, hA0, hV, rfl, hfz, hnd⟩ := hW
  have hA : DataW.TrodAll enc Try.prog W 0 (fun _ => true) true Try.f11.params.toList args.toList ds p := hA0
  rw [Try.params11] at hA hval
  obtain ⟨v0, vs0, d0, ds0, p0, q0, hargs, rfl, rfl, h0, r0⟩ := trodAll_cons hA
  obtain ⟨v1, vs1, d1, ds1, p1, q1, rfl, rfl, rfl, h1, r1⟩ := trodAll_cons r0
  obtain ⟨rfl, rfl, rfl⟩ := trodAll_nil r1
  obtain rfl : args = #[v0, v1] := by cases args; simp_all
  obtain ⟨rfl, rfl⟩ := trodVars_none hV
  obtain ⟨a0, rfl, rfl, rfl, w0⟩ := open_int Try.underlying3 (hval 0 3 v0 rfl rfl) h0
  obtain ⟨a1, rfl, rfl, rfl, w1⟩ := open_int Try.underlying3 (hval 1 3 v1 rfl rfl) h1
  clear hA0 hval0
  refine (law_numbers_any a0 a1 W (wf_i64 w0) (wf_i64 w1)).mono fun e W' ⟨he, hg⟩ => ?_
  subst he
  exact ⟨_, rfl, post_true rfl hW' (by kernel_rfl) rfl rfl hg⟩

theorem aeadNumbers_holds : Rows.AeadNumbersSaid :=
  OpenClaim.holds_of_wide 11 Try.f11 rfl rfl rfl rfl rfl rfl rfl ⟨rfl, rfl, rfl, rfl, rfl⟩ rfl rfl rfl rfl rfl (by kernel_rfl) Try.func11 (by kernel_rfl)
    (of_decide_eq_true (by kernel_rfl)) (by unfold Func.isWrapper; first | (rw [if_pos (by decide +kernel)]; kernel_rfl) | (rw [if_neg (by decide +kernel)]; exact ⟨rfl, rfl⟩))
    (fun os started H enc _ => law_numbers_lifted os started H enc)
#print axioms aeadNumbers_holds
end Go.Proofs.Ytbafppdmlhogbaa
