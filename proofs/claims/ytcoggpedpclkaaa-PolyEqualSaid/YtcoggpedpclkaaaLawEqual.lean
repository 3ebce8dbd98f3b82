/- PolyEqual answers true for all bytes, places and numbers, and its arguments read behind the call as they did: the given statement PolyEqualSaid. No condition. -/
import Derived.Test.YtcoggpedpclkaaaLi
import Derived.Test.YtcoggpedpclkaaaSm
namespace Go.Proofs.Ytcoggpedpclkaaa
set_option linter.unusedSimpArgs false
set_option linter.unusedVariables false
open Go.ChangeShapes Go.WideShapes Go.ChangeAt Go.RowKit

theorem xor_self_iff (x b : Int) (hx : 0 ≤ x ∧ x ≤ 255) (hb : 0 ≤ b ∧ b ≤ 255) : bits .xor .u8 x b = x ↔ b = 0 := by
  obtain ⟨x, rfl⟩ := Int.eq_ofNat_of_zero_le hx.1
  obtain ⟨b, rfl⟩ := Int.eq_ofNat_of_zero_le hb.1
  rw [u8_xor_nat x b (by omega) (by omega)]
  constructor
  · intro h
    have h2 : x ^^^ b = x := by omega
    have h3 : x ^^^ (x ^^^ b) = x ^^^ x := by rw [h2]
    rw [← Nat.xor_assoc, Nat.xor_self, Nat.zero_xor] at h3
    omega
  · intro h
    have : b = 0 := by omega
    subst this
    simp
theorem xor_byte (x b : Int) (hx : 0 ≤ x ∧ x ≤ 255) (hb : 0 ≤ b ∧ b ≤ 255) : 0 ≤ bits .xor .u8 x b ∧ bits .xor .u8 x b ≤ 255 := by
  obtain ⟨x, rfl⟩ := Int.eq_ofNat_of_zero_le hx.1
  obtain ⟨b, rfl⟩ := Int.eq_ofNat_of_zero_le hb.1
  rw [u8_xor_nat x b (by omega) (by omega)]
  have : x ^^^ b < 2 ^ 8 := Nat.xor_lt_two_pow (by omega) (by omega)
  omega
/-- One byte of a row of the call's own is written. -/
theorem Ow.setSl {w : World} {v : Value} {l : List Int} (h : Ow w v l) (i : Nat) (hi : i < l.length) (y : Int) (hy : 0 ≤ y ∧ y ≤ 255) :
    ∃ g c, v = .slice (some ⟨g, 0, none⟩) l.length c ∧ w.cell? ⟨g, i, none⟩ = some (.int .u8 (l.getD i 0)) ∧ w.frozen? ⟨g, i, none⟩ = false ∧ g < w.heap.size ∧ Sl (w.setCell ⟨g, i, none⟩ (.int .u8 y)) g v (l.set i y) := by
  obtain ⟨⟨hx, hz⟩, hb⟩ := h
  rcases hz with ⟨_, h0⟩ | ⟨g, cap, cur, hv, _, hh, hn, hm, hs, ht⟩
  · rw [h0] at hi; omega
  · rw [Nat.mul_one] at ht hs
    have hcur : ∀ j, j < l.length → cur[j]? = (bs l)[j]? := fun j hj => by
      rw [← ht, List.getElem?_take, if_pos hj]
      simp
    have hc : cur[i]? = some (.int .u8 (l.getD i 0)) := by rw [hcur i hi, bs_get, getD_some hi]; rfl
    refine ⟨g, cap, hv, (cell_of_row _ _ _ _ _ _ hh).trans hc, frozen_of_row _ _ _ _ _ hh, heap_lt hh, ?_⟩
    subst hv
    have hh2 := heap_setCell_same w g i _ _ (.int .u8 y) hh
    have hb2 : Bys (l.set i y) := fun b hb' => by
      rcases List.mem_or_eq_of_mem_set hb' with h | rfl
      · exact hb b h
      · exact hy
    have hS := Sl.block (c := cap) hb2 hh2 (fun j hj => by
      rw [List.length_set] at hj
      rw [Array.getElem?_setIfInBounds]
      split
      · rename_i e
        subst e
        have hsz : i < cur.size := by omega
        rw [if_pos hsz, bs_get, List.getElem?_set_self hj]
        rfl
      · rename_i e
        rw [hcur j hj, bs_get, bs_get, List.getElem?_set_ne e]) (by rw [List.length_set]; exact hn) hm
    rwa [List.length_set] at hS
set_option maxRecDepth 100000 in
set_option maxHeartbeats 16000000 in
theorem law_equal_any (g0 : Nat) (A0 : Option Addr) (m0 s0 : Nat) (l0 : List Int) (a1 a2 : Int) (w : World) (hs0 : Sl w g0 (.slice A0 m0 s0) l0) (hn0 : m0 ≤ 140737488351232) (hg0 : l0 ≠ [] → g0 < w.heap.size) (hi1 : -9223372036854775808 ≤ a1 ∧ a1 ≤ 9223372036854775807) (hi2 : 0 ≤ a2 ∧ a2 ≤ 255) :
    Calls Try.prog 12 #[.slice A0 m0 s0, .int .i64 a1, .int .u8 a2] w fun e w' => e = .returned (.bool true) ∧ Fr (fun _ => False) w w' := by
  have HS := Lib.hid (And.intro hs0 hg0)
  have hml := Lib.hid hs0.len
  have hml2 := hs0.len
  have hn1 : m0 ≤ 140737488351232 := hn0
  clear hs0 hg0 hn0
  go_enter Try.func12, Try.ntmps12
  go_upto_region 3 with (go_at_call 18; refine (works_is _).mono ?_; rintro e w1 ⟨rfl, hf⟩)
  have F1 := Lib.hid hf
  clear hf
  go_upto_region 5 with (at_builtin; refine wpList_own rfl (.tmp 12) (.tmp 13) rfl (Ow.nil w1) rfl rfl (HS.out.1.fr F1.out (fun _ x => x)) (by simp; omega) ?_; intro A2 N2 c2 w2 hap hN2; have HN2 := Lib.hid hN2; have HA := Lib.hid hap; clear hN2 hap)
  have O2 : Hid (Ow w2 (.slice A2 N2 c2) l0) := by have h := HA.out.own; rwa [List.nil_append] at h
  have F2 : Hid (Fr (fun _ => False) w w2) := F1.out.trans ((Fr.refl _ _).grown HA.out.grown (fun k hk => by cases hk))
  have B2 := Lib.hid HA.out.at_
  clear HA
  have O3 : Hid (Ow (w2.alloc (.cells #[.int .u8 0] 5)) (.slice A2 N2 c2) l0) := O2.out.keep (S := fun _ => False) ((Fr.refl _ _).alloc _) (fun _ _ x => x)
  have F3 : Hid (Fr (fun _ => False) w (w2.alloc (.cells #[.int .u8 0] 5))) := F2.out.alloc _
  have S3 : Hid (Sl (w2.alloc (.cells #[.int .u8 0] 5)) w2.heap.size (.slice (some ⟨w2.heap.size, 0, none⟩) 1 1) [0]) := Sl.block (by intro b hb; simp at hb; omega) (heap_alloc_new w2 _) (fun j _ => by simp [bs]) (by decide) (by decide)
  have hO2b : ∀ k, (Value.slice A2 N2 c2).ownBlock = some k → w.heap.size ≤ k := fun k hk => by
    rcases B2.out with e | e
    · rw [e] at hk; cases hk
    · rw [e] at hk
      injection hk with hk
      rw [← hk]
      exact F1.out.size
  go_upto_region 6 with (at_builtin; refine wpList_own rfl (.tmp 15) (.tmp 16) rfl O3.out rfl rfl S3.out (by rw [hml.out]; omega) ?_; intro A3 N3 c3 w3 hap hN3; have HN3 := Lib.hid hN3; have HA := Lib.hid hap; clear hN3 hap)
  have O4 := Lib.hid HA.out.own
  have F4 : Hid (Fr (fun _ => False) w w3) := F3.out.grown HA.out.grown (fun k hk => .inr (hO2b k hk))
  have hN : N3 = m0 + 1 := by
    have := O4.out.shape
    obtain ⟨_, _, _, e1, e2⟩ := this
    injection e1 with _ e1 _
    rw [e1, e2, List.length_append, hml.out]
    rfl
  subst hN
  have hc3 : m0 + 1 ≤ c3 := by
    obtain ⟨_, A', c', e, h3, _⟩ := O4.out.sl
    injection e with _ e2 e3
    omega
  have SM := Lib.hid O4.out.sl
  clear HA HN3 O3 O2 F2 F3 S3 hO2b B2
  obtain ⟨gm, hgm⟩ : ∃ g, g = (Value.slice A3 (m0 + 1) c3).ownBlock.getD 0 := ⟨_, rfl⟩
  rw [← hgm] at SM
  have S0 : Hid (Sl w3 g0 (.slice A0 m0 s0) l0) := HS.out.1.fr F4.out (fun _ x => x)
  have hne : l0 ≠ l0 ++ [0] := fun e => by
    have := congrArg List.length e
    simp at this
  have dr : ∀ {V W : World} {q : Nat}, Calm w3 V → W = V.drewN q → Calm w3 W := fun h e => by rw [e]; exact Fr.drewN h _
  have C1 : ∀ V, Calm w3 V → Calls Try.prog 22 #[.slice A0 m0 s0, .slice A3 m0 c3] V fun e w' => e = .returned (.bool true) ∧ Calm w3 w' := fun V h => by
    have hT := (SM.out.fr h (fun _ x => x)).take m0 (by rw [List.length_append, hml.out]; exact Nat.le_add_right _ _)
    rw [List.take_append_of_le_length (by rw [hml.out]; exact Nat.le_refl _), List.take_of_length_le (by rw [hml.out]; exact Nat.le_refl _)] at hT
    exact (same_is g0 gm A0 A3 m0 m0 s0 c3 l0 l0 V (S0.out.fr h (fun _ x => x)) hT).mono fun _ _ ⟨he, q, hw⟩ => ⟨by rw [he, decide_eq_true rfl], dr h hw⟩
  have C2 : ∀ V, Calm w3 V → Calls Try.prog 22 #[.slice A0 m0 s0, .slice A3 (m0 + 1) c3] V fun e w' => e = .returned (.bool false) ∧ Calm w3 w' := fun V h =>
    (same_is g0 gm A0 A3 m0 (m0 + 1) s0 c3 l0 (l0 ++ [0]) V (S0.out.fr h (fun _ x => x)) (SM.out.fr h (fun _ x => x))).mono fun _ _ ⟨he, q, hw⟩ => ⟨by rw [he, decide_eq_false hne], dr h hw⟩
  have C3 : ∀ V, Calm w3 V → Calls Try.prog 22 #[.slice A3 (m0 + 1) c3, .slice A0 m0 s0] V fun e w' => e = .returned (.bool false) ∧ Calm w3 w' := fun V h =>
    (same_is gm g0 A3 A0 (m0 + 1) m0 c3 s0 (l0 ++ [0]) l0 V (SM.out.fr h (fun _ x => x)) (S0.out.fr h (fun _ x => x))).mono fun _ _ ⟨he, q, hw⟩ => ⟨by rw [he, decide_eq_false (Ne.symm hne)], dr h hw⟩
  have j1 : ((m0 : Int)).toNat = m0 := by omega
  have j2 : 0 ≤ (m0 : Int) := by omega
  have j3 : (m0 : Int) ≤ c3 := by omega
  clear hgm hne dr O4
  refine wp_region_head (C := Calm w3) 17 (Fr.refl _ _) ?_
  simp only [List.take_succ_cons, List.take_zero, List.drop_succ_cons, List.drop_zero]
  refine BigFrame.wpQuiet_want rfl fun K hK => ?_
  try simp only [Act.put, List.setIfInBounds_toArray, List.set_cons_succ, List.set_cons_zero]
  go_big_quiet_op
  refine hK _ ?_
  refine BigFrame.wpQuiet_want rfl fun K hK => ?_
  try simp only [Act.put, List.setIfInBounds_toArray, List.set_cons_succ, List.set_cons_zero]
  go_big_quiet_op
  refine hK _ ?_
  refine BigFrame.wpQuiet_want rfl fun K hK => ?_
  try simp only [Act.put, List.setIfInBounds_toArray, List.set_cons_succ, List.set_cons_zero]
  go_big_quiet_op
  refine hK _ ?_
  refine BigFrame.wpQuiet_want rfl fun K hK => ?_
  try simp only [Act.put, List.setIfInBounds_toArray, List.set_cons_succ, List.set_cons_zero]
  go_big_quiet_op
  first
    | refine ⟨_, fun _ _ => rfl, hK _ ?_⟩
    | refine hK _ ?_
  refine BigFrame.wpQuiet_want rfl fun K hK => ?_
  try simp only [Act.put, List.setIfInBounds_toArray, List.set_cons_succ, List.set_cons_zero]
  go_big_quiet_op
  first
    | refine ⟨_, fun _ _ => rfl, hK _ ?_⟩
    | refine hK _ ?_
  refine BigFrame.wpQuiet_want rfl fun K hK => ?_
  try simp only [Act.put, List.setIfInBounds_toArray, List.set_cons_succ, List.set_cons_zero]
  go_big_quiet_op
  refine ⟨_, C1, hK _ ?_⟩
  refine BigFrame.wpQuiet_want rfl fun K hK => ?_
  try simp only [Act.put, List.setIfInBounds_toArray, List.set_cons_succ, List.set_cons_zero]
  go_big_quiet_op
  first
    | refine ⟨_, fun _ _ => rfl, hK _ ?_⟩
    | refine hK _ ?_
  refine BigFrame.wpQuiet_want rfl fun K hK => ?_
  try simp only [Act.put, List.setIfInBounds_toArray, List.set_cons_succ, List.set_cons_zero]
  go_big_quiet_op
  refine hK _ ?_
  refine BigFrame.wpQuiet_want rfl fun K hK => ?_
  try simp only [Act.put, List.setIfInBounds_toArray, List.set_cons_succ, List.set_cons_zero]
  go_big_quiet_op
  refine hK _ ?_
  refine BigFrame.wpQuiet_want rfl fun K hK => ?_
  try simp only [Act.put, List.setIfInBounds_toArray, List.set_cons_succ, List.set_cons_zero]
  go_big_quiet_op
  refine hK _ ?_
  refine BigFrame.wpQuiet_want rfl fun K hK => ?_
  try simp only [Act.put, List.setIfInBounds_toArray, List.set_cons_succ, List.set_cons_zero]
  go_big_quiet_op
  refine ⟨_, C2, hK _ ?_⟩
  refine BigFrame.wpQuiet_want rfl fun K hK => ?_
  try simp only [Act.put, List.setIfInBounds_toArray, List.set_cons_succ, List.set_cons_zero]
  go_big_quiet_op
  first
    | refine ⟨_, fun _ _ => rfl, hK _ ?_⟩
    | refine hK _ ?_
  refine BigFrame.wpQuiet_want rfl fun K hK => ?_
  try simp only [Act.put, List.setIfInBounds_toArray, List.set_cons_succ, List.set_cons_zero]
  go_big_quiet_op
  refine hK _ ?_
  refine BigFrame.wpQuiet_want rfl fun K hK => ?_
  try simp only [Act.put, List.setIfInBounds_toArray, List.set_cons_succ, List.set_cons_zero]
  go_big_quiet_op
  refine hK _ ?_
  refine BigFrame.wpQuiet_want rfl fun K hK => ?_
  try simp only [Act.put, List.setIfInBounds_toArray, List.set_cons_succ, List.set_cons_zero]
  go_big_quiet_op
  refine hK _ ?_
  refine BigFrame.wpQuiet_want rfl fun K hK => ?_
  try simp only [Act.put, List.setIfInBounds_toArray, List.set_cons_succ, List.set_cons_zero]
  go_big_quiet_op
  refine ⟨_, C3, hK _ ?_⟩
  refine BigFrame.wpQuiet_want rfl fun K hK => ?_
  try simp only [Act.put, List.setIfInBounds_toArray, List.set_cons_succ, List.set_cons_zero]
  go_big_quiet_op
  first
    | refine ⟨_, fun _ _ => rfl, hK _ ?_⟩
    | refine hK _ ?_
  refine wpQuiet_nil ?_
  intro w9 hw9
  have F9 : Hid (Fr (fun _ => False) w w9) := F4.out.trans hw9
  have G9 := Lib.hid hw9
  clear hw9
  try simp only [Act.put, List.setIfInBounds_toArray, List.set_cons_succ, List.set_cons_zero]
  clear C1 C2 C3 S0 SM G9 j1 j2 j3
  by_cases hneg : a1 < 0
  · go_wp2
    go_ret
    exact ⟨rfl, F9.out⟩
  · obtain ⟨i, rfl⟩ := Int.eq_ofNat_of_zero_le (Int.not_lt.1 hneg)
    by_cases hbig : m0 ≤ i
    · have jb : (m0 : Int) ≤ (i : Int) := by omega
      go_wp2
      go_ret
      exact ⟨rfl, F9.out⟩
    · have jb : ¬ (m0 : Int) ≤ (i : Int) := by omega
      have jc : (i : Int) < (m0 : Int) := by omega
      go_upto_region 10 with (fail)
      have O5 : Hid (Ow (w9.alloc (.cells #[] 5)) (.slice (some ⟨w9.heap.size, 0, none⟩) 0 0) []) := ⟨World.ownsRow_made w9 #[] 0 (Nat.zero_le _) (by decide) rfl, Bys.nil⟩
      have F5 : Hid (Fr (fun _ => False) w (w9.alloc (.cells #[] 5))) := F9.out.alloc _
      have hw9 := F9.out.size
      go_upto_region 11 with (at_builtin; refine wpList_own rfl (.tmp 43) (.tmp 44) rfl O5.out rfl rfl (HS.out.1.fr F5.out (fun _ x => x)) (by simp; omega) ?_; intro A4 N4 c4 w4 hap hN4; have HN4 := Lib.hid hN4; have HA := Lib.hid hap; clear hN4 hap)
      have O6 : Hid (Ow w4 (.slice A4 N4 c4) l0) := by have h := HA.out.own; rwa [List.nil_append] at h
      have F6 : Hid (Fr (fun _ => False) w w4) := F5.out.grown HA.out.grown (fun k hk => .inr (by
        injection hk with hk
        rw [← hk]
        exact hw9))
      have B6 := Lib.hid HA.out.at_
      clear HA O5 F5 F9 F4 F1
      have hx := HS.out.1.1 (l0.getD i 0) (List.mem_of_getElem? (getD_some (by rw [hml.out]; omega)))
      have hxor := xor_byte _ _ hx hi2
      obtain ⟨q, cq, hv, hcell, hfro, hlt, hSet⟩ := O6.out.setSl i (by rw [hml.out]; omega) (bits .xor .u8 (l0.getD i 0) a2) hxor
      injection hv with hv1 hv2 hv3
      subst hv1 hv2 hv3
      have hwq : w.heap.size ≤ q := by
        rcases B6.out with e | e
        · injection e with e
          have e : q = w9.heap.size := e
          omega
        · injection e with e
          have e : q = (w9.alloc (.cells #[] 5)).heap.size := e
          rw [e]
          simp
          omega
      rw [hml.out] at hSet ⊢
      obtain ⟨x, hxe⟩ : ∃ x, l0.getD i 0 = x := ⟨_, rfl⟩
      obtain ⟨y, hye⟩ : ∃ y, bits .xor .u8 x a2 = y := ⟨_, rfl⟩
      rw [hxe] at hcell hSet hx
      rw [hye] at hSet
      obtain ⟨b, hb⟩ : ∃ b, b = (a2 == 0) := ⟨_, rfl⟩
      have hdec : decide (l0 = l0.set i y) = b := by
        rw [hb]
        have hxy := xor_self_iff x a2 hx hi2
        rw [hye] at hxy
        have : (a2 == 0) = decide (y = x) := by
          rw [Bool.eq_iff_iff]
          simp [hxy]
        rw [this]
        apply decide_eq_decide.2
        constructor
        · intro e
          have h1 : (l0.set i y)[i]? = some y := List.getElem?_set_self (by rw [hml.out]; omega)
          rw [← e, getD_some (by rw [hml.out]; omega), hxe] at h1
          injection h1 with h1
          exact h1.symm
        · intro e
          subst e
          apply List.ext_getElem?
          intro j
          by_cases hj : i = j
          · subst hj
            rw [List.getElem?_set_self (by rw [hml.out]; omega), getD_some (by rw [hml.out]; omega), hxe]
          · rw [List.getElem?_set_ne hj]
      have hbb : (b == b) = true := by cases b <;> rfl
      have F7 : Hid (Fr (fun _ => False) w (w4.setCell ⟨q, i, none⟩ (.int .u8 y))) := F6.out.setCell _ (.inr hwq)
      have S7 : Hid (Sl (w4.setCell ⟨q, i, none⟩ (.int .u8 y)) g0 (.slice A0 m0 s0) l0) := HS.out.1.fr F7.out (fun _ x => x)
      have HSet := Lib.hid hSet
      have HDec := Lib.hid hdec
      have k1 : ((i : Int)).toNat = i := by omega
      have k2 : 0 ≤ (i : Int) := by omega
      clear hSet hdec hxor hx hxe O6 F6 B6 hlt
      go_upto_region 12 with (fail)
      generalize w4.setCell ⟨q, i, none⟩ (.int .u8 y) = w5 at *
      go_wp2_with (go_at_call 22; refine (same_is g0 q A0 (some ⟨q, 0, none⟩) m0 m0 s0 c4 l0 (l0.set i y) w5 S7.out HSet.out).mono ?_; rw [HDec.out]; rintro e w6 ⟨rfl, q2, hq2⟩; have F8 : Hid (Fr (fun _ => False) w w6) := (by rw [hq2]; exact Fr.drewN F7.out q2); clear hq2)
      clear k1 k2
      have HB := hb.symm
      go_ret
      exact ⟨by simp, F8.out⟩

set_option maxRecDepth 100000 in
theorem law_equal_lifted (os : Os) (started : os.Started) (H : Type) (enc : TypeId × Value → H) :
    ReturnsInHanded {} Try.checked os 12 .any (Rows.polyEqualSpec.pre6 enc Try.prog Try.f12 Rows.polyEqualRow.domain false) (Rows.polyEqualSpec.post enc Try.prog Try.f12 false true false false) := by
  refine returnsInHanded_of_change_sized (C := Try.checked) own started (by kernel_rfl) Try.func12
    (ChangeSpec.witness6 (enc := enc) (C := Try.checked) false ⟨#[], #[.slice none 0 0, .int .i64 0, .int .u8 0], []⟩ 8 (by kernel_rfl) (by kernel_rfl) (by kernel_rfl) (by kernel_rfl)) ?_
  intro W base args ds gs before hval0 hW hcnd hsz0 _
  have hsz : (DataW.weightsEach Try.prog (Try.f12.params.toList ++ Rows.polyEqualSpec.plain.varTypes Try.prog) (ds ++ gs)).all (· ≤ reachBytes) = true := hsz0
  clear hsz0
  have hval : ∀ (j : Nat) t v, Try.f12.params[j]? = some t → args[j]? = some v → Value.okWide Try.prog W .any base t v := hval0
  have hW' := hW
  obtain ⟨p, q, hA0, hV, rfl, hfz, hnd⟩ := hW
  have hA : DataW.TrodAll enc Try.prog W 0 (fun _ => true) true Try.f12.params.toList args.toList ds p := hA0
  rw [Try.params12] at hA hval hsz
  obtain ⟨v0, vs0, d0, ds0, p0, q0, hargs, rfl, rfl, h0, r0⟩ := trodAll_cons hA
  obtain ⟨v1, vs1, d1, ds1, p1, q1, rfl, rfl, rfl, h1, r1⟩ := trodAll_cons r0
  obtain ⟨v2, vs2, d2, ds2, p2, q2, rfl, rfl, rfl, h2, r2⟩ := trodAll_cons r1
  obtain ⟨rfl, rfl, rfl⟩ := trodAll_nil r2
  obtain rfl : args = #[v0, v1, v2] := by cases args; simp_all
  obtain ⟨rfl, rfl⟩ := trodVars_none hV
  have hlt0 : ∀ x ∈ p0, x.block < W.heap.size := fun x hx => hW'.lt x (by simp [hx])
  obtain ⟨A0, m0, s0, g0, l0, rfl, hs0, hg0⟩ := open_sl (hval 0 24 v0 rfl rfl) h0 hlt0
  have hn0 : m0 ≤ 140737488351232 := by
    rcases open_len h0 with e | ⟨el, sp, rfl, hle⟩
    · omega
    · have := sized_slice hsz (j := 0) (t := 24) (e := 5) rfl rfl Try.underlying24
      rw [Try.bytes5] at this
      simp only [reachBytes] at this
      omega
  obtain ⟨a1, rfl, rfl, rfl, w1⟩ := open_int Try.underlying3 (hval 1 3 v1 rfl rfl) h1
  obtain ⟨a2, rfl, rfl, rfl, w2⟩ := open_int Try.underlying5 (hval 2 5 v2 rfl rfl) h2
  clear hA0 hval0
  refine (law_equal_any g0 A0 m0 s0 l0 a1 a2 W hs0 hn0 hg0 (wf_i64 w1) (wf_u8 w2)).mono fun e W' ⟨he, hg⟩ => ?_
  subst he
  exact ⟨_, rfl, post_true rfl hW' (by kernel_rfl) rfl rfl hg⟩

theorem polyEqual_holds : Rows.PolyEqualSaid :=
  OpenClaim.holds_of_wide 12 Try.f12 rfl rfl rfl rfl rfl rfl rfl ⟨rfl, rfl, rfl, rfl, rfl⟩ rfl rfl rfl rfl rfl (by kernel_rfl) Try.func12 (by kernel_rfl)
    (of_decide_eq_true (by kernel_rfl)) (by unfold Func.isWrapper; first | (rw [if_pos (by decide +kernel)]; kernel_rfl) | (rw [if_neg (by decide +kernel)]; exact ⟨rfl, rfl⟩))
    (fun os started H enc _ => law_equal_lifted os started H enc)
#print axioms polyEqual_holds
end Go.Proofs.Ytcoggpedpclkaaa
