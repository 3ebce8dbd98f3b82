/- ChachaXor answers true for all keys, counters, nonces and bytes, and its arguments read behind the call as they did: the given statement ChachaXorSaid. No condition. -/
import Derived.Test.YtnagnolbomcnjaaXe
namespace Go.Proofs.Ytnagnolbomcnjaa
set_option linter.unusedSimpArgs false
set_option linter.unusedVariables false
set_option linter.unusedVariables false
open Go.ChangeShapes Go.WideShapes Go.ChangeAt Go.RowKit

theorem Sl.low {w : World} {g : Nat} {v : Value} {l : List Int} (h : Sl w g v l) (hl : 0 < l.length) : g < w.heap.size := by
  obtain ⟨_, _, _, _, _, _, hx⟩ := h
  obtain ⟨_, _, hg, _⟩ := hx (by intro e; rw [e] at hl; simp at hl)
  exact hg
theorem Bys.set {l : List Int} (h : Bys l) (i : Nat) {x : Int} (hx : 0 ≤ x ∧ x ≤ 255) : Bys (l.set i x) := by
  intro y hy
  rcases List.mem_or_eq_of_mem_set hy with hy | rfl
  · exact h y hy
  · exact hx
set_option maxRecDepth 100000 in
set_option maxHeartbeats 8000000 in
theorem law_xor_any (vk : List Int) (vc : Int) (vn : List Int) (gb : Nat) (A : Option Addr) (m cap : Nat) (l : List Int) (w : World) (hk : vk.length = 32) (bk : Bys vk) (hc : Wd vc) (hn : vn.length = 12) (bn : Bys vn) (hs : Sl w gb (.slice A m cap) l) (hm : m ≤ 140737488351232) (hg : l ≠ [] → gb < w.heap.size) :
    Calls Try.prog 5 #[.agg (bg vk vc vn), .slice A m cap] w fun e w' => e = .returned (.bool true) ∧ Fr (fun _ => False) w w' := by
  have HB := Lib.hid (And.intro hk (And.intro bk (And.intro hc (And.intro hn bn))))
  have HS := Lib.hid hs
  have HL := Lib.hid hs.len
  have HY : Hid (Bys l) := hs.1
  have HG : Hid (0 < m → gb < w.heap.size) := Lib.hid (fun h => hg (by intro e; have := hs.len; rw [e] at this; simp at this; omega))
  have HM := Lib.hid hm
  clear hs hg
  clear hk bk hn bn
  go_enter Try.func5, Try.ntmps5
  go_upto_region 1 with (fail)
  generalize hW : w.alloc (.cells (bg vk vc vn) 31) = W0
  have HW := Lib.hid (calm1a hW)
  have X0 := Lib.hid HW.out.1
  have F0 : Hid (Fr (fun _ => False) w W0) := HW.out.2
  clear hW HW
  have hcap : m ≤ maxLen := by have := HM.out; simp only [maxLen]; omega
  go_upto_region 2 with (go_at_call 18; refine (copyBytes_any gb A m cap l _ (HS.out.fr F0.out (fun _ x => x)) (by have := HM.out; omega)).mono ?_; rintro e w1 ⟨A2, c2, rfl, hO, hU, hf⟩; have HU := Lib.hid hU; have HO := Lib.hid hO; have HF0 := Lib.hid F0.out.size; replace X0 := Lib.hid (Calm.at X0.out hf); replace F0 := Lib.hid (F0.out.trans hf); clear hf hO hU)
  try simp only [Act.put, List.setIfInBounds_toArray, List.set_cons_succ, List.set_cons_zero]
  have HU2 : Hid (∀ g, (Value.slice A2 m c2).ownBlock = some g → w.heap.size ≤ g) := Lib.hid (fun g hg => Nat.le_trans HF0.out (HU.out g hg))
  have HX0W : Hid (w.heap.size ≤ w1.heap.size) := F0.out.size
  clear HU HF0
  have hcc := bg_cell HB.out.1 X0.out
  by_cases hlim : (m : Int) ≤ (4294967296 - vc) * 64
  · obtain ⟨X, hX⟩ : ∃ X, xo vk vc vn l = X := ⟨_, rfl⟩
    have HX1 : Hid (X.length = m) := by show _ = _; rw [← hX, xo_length, HL.out]
    have HXB : Hid (Bys X) := by show Bys X; rw [← hX]; exact xo_bys' HY.out
    have HX0 : Unit → xo vk vc vn l = X := fun _ => hX
    clear hX
    go_upto_region 3 with (first
    | (go_at_call 19; refine (xor_ex vk vc vn _ A2 m c2 l _ HB.out.1 HB.out.2.1 hc HB.out.2.2.2.1 HB.out.2.2.2.2 HO.out.sl (by have := HM.out; omega) hlim (fun h => HO.out.sl.low (by rw [HL.out]; exact h))).mono ?_; rintro e w2 ⟨g1, hg1, rfl, ha, hf⟩; replace X0 := Lib.hid (Calm.at X0.out hf); replace F0 := Lib.hid (F0.out.trans hf); have AX : Hid (Ar w2 g1 5 .u8 X) := by { show _; rw [← HX0 ()]; exact ha }; have HD : Hid (∀ g, (Value.slice A2 m c2).ownBlock = some g → g ≠ g1) := Lib.hid (fun g hg => by { have := HO.out.lt g hg; omega }); have HG1 : Hid (w.heap.size ≤ g1) := Lib.hid (by { have := HX0W.out; omega }); replace HO := Lib.hid (HO.out.keep hf (fun _ _ x => x)); clear hf ha hg1)
    | refine wpList_mid rfl 28 (.tmp 14) rfl (w.heap.size) 0 rfl .u8 vk _ (bg_key HB.out.1 X0.out) Try.underlying28 rfl (by rw [HB.out.1]; kernel_rfl) ?_
    | refine wpList_mid rfl 29 (.tmp 18) rfl (w.heap.size) 33 rfl .u8 vn _ (bg_nonce HB.out.1 X0.out) Try.underlying29 rfl (by rw [HB.out.2.2.2.1]; kernel_rfl) ?_)
    try simp only [Act.put, List.setIfInBounds_toArray, List.set_cons_succ, List.set_cons_zero]
    have hcc := bg_cell HB.out.1 X0.out
    go_upto_region 4 with (first
    | (go_at_call 20; refine (rxor_yes vk vc vn gb A m cap l _ HB.out.1 HB.out.2.1 hc HB.out.2.2.2.1 HB.out.2.2.2.2 (HS.out.fr F0.out (fun _ x => x)) HM.out hlim (fun h => Nat.lt_of_lt_of_le (HG.out h) F0.out.size)).mono ?_; rintro e w3 ⟨v3, rfl, hO3, hU3, hf⟩; replace X0 := Lib.hid (Calm.at X0.out hf); replace F0 := Lib.hid (F0.out.trans hf); replace AX : Hid (Ar w3 g1 5 .u8 X) := AX.out.fr hf (fun x => x); replace HO := Lib.hid (HO.out.keep hf (fun _ _ x => x)); rw [HX0 ()] at hO3; obtain ⟨A3, n3, c3, rfl, hn3⟩ := hO3.shape; have HO3 := Lib.hid hO3; have HN3 := Lib.hid hn3; clear hf hO3 hU3 hn3)
    | refine wpList_mid rfl 28 (.tmp 25) rfl (w.heap.size) 0 rfl .u8 vk _ (bg_key HB.out.1 X0.out) Try.underlying28 rfl (by rw [HB.out.1]; kernel_rfl) ?_
    | refine wpList_mid rfl 29 (.tmp 29) rfl (w.heap.size) 33 rfl .u8 vn _ (bg_nonce HB.out.1 X0.out) Try.underlying29 rfl (by rw [HB.out.2.2.2.1]; kernel_rfl) ?_)
    try simp only [Act.put, List.setIfInBounds_toArray, List.set_cons_succ, List.set_cons_zero]
    clear hcc
    have tok1 : True := trivial
    go_upto_region 7 with (first
    | (go_at_call 21; clear tok1; refine (eqBytes_any g1 _ (some ⟨g1, 0, none⟩) A3 m n3 m c3 X X _ (AX.out.sl HXB.out HX1.out hcap) HO3.out.sl).mono ?_; rintro e w' ⟨rfl, nq, rfl⟩; replace HO : Hid (Ow (w3.drewN nq) (.slice A2 m c2) l) := HO; replace AX : Hid (Ar (w3.drewN nq) g1 5 .u8 X) := AX; replace F0 : Hid (Fr (fun _ => False) w (w3.drewN nq)) := F0.out.drewN nq; clear HO3 X0; generalize w3.drewN nq = w4 at *)
    | (go_at_call 21; refine (eqBytes_any _ gb _ _ _ _ _ _ l l _ HO.out.sl (HS.out.fr F0.out (fun _ x => x))).mono ?_; rintro e w' ⟨rfl, nq, rfl⟩; replace HO : Hid (Ow (w4.drewN nq) (.slice A2 m c2) l) := HO; replace AX : Hid (Ar (w4.drewN nq) g1 5 .u8 X) := AX; replace F0 : Hid (Fr (fun _ => False) w (w4.drewN nq)) := F0.out.drewN nq; generalize w4.drewN nq = w5 at *))
    try simp only [Act.put, List.setIfInBounds_toArray, List.set_cons_succ, List.set_cons_zero]
    go_loopw [10] (fun u10 wr => ∃ (i : Nat) (L : List Int), u10 = .int .i64 i ∧ i ≤ m ∧ Hid (L.length = m) ∧ Hid (Bys L) ∧ Hid (Ar wr g1 5 .u8 L) ∧ Hid (Ow wr (.slice A2 m c2) l) ∧ Hid (Fr (fun _ => False) w wr))
      (fun u10 _ => m - (intOf u10).toNat)
    case atStart => exact ⟨0, X, rfl, by omega, HX1, HXB, AX, HO, F0⟩
    case round =>
      obtain ⟨i, L, rfl, hi, HL1, HLB, hX, hO, hF⟩ := hrel
      by_cases hil : i < m
      · obtain ⟨x, hx⟩ : ∃ x, L.getD i 0 = x := ⟨_, rfl⟩
        have gx := getD_some (l := L) (i := i) (by rw [HL1.out]; exact hil)
        rw [hx] at gx
        have bx := HLB.out x (List.mem_of_getElem? gx)
        obtain ⟨y, hy⟩ : ∃ y, IntKind.u8.wrap (x + 1) = y := ⟨_, rfl⟩
        have by2 : 0 ≤ y ∧ y ≤ 255 := by rw [← hy, IntKind.wrap_u8]; omega
        have cx := Ar.cell hX.out gx
        have fx := Ar.frozen hX.out i
        have LB2 := Lib.hid (HLB.out.set i by2)
        have LL2 : Hid ((L.set i y).length = m) := by show _ = _; rw [List.length_set]; exact HL1.out
        have X2 := Lib.hid (hX.out.set i y)
        have O2 : Hid (Ow (wr.setCell ⟨g1, i, none⟩ (.int .u8 y)) (.slice A2 m c2) l) := Lib.hid (hO.out.keep (S := (· = g1)) ((Fr.refl _ wr).setCell _ (.inl rfl)) (fun g hg e => HD.out g hg e))
        have F2 : Hid (Fr (fun _ => False) w (wr.setCell ⟨g1, i, none⟩ (.int .u8 y))) := hF.out.setCell _ (.inr HG1.out)
        clear hx gx bx by2 hX hO hF
        go_wp2
        go_roundw
        case rel => exact ⟨i + 1, L.set i y, by go_num, by omega, LL2, LB2, X2, O2, F2⟩
        case measure => simp [intOf]; omega
      · have CW := works_is
        clear hX
        go_wp2_with (first
          | (go_at_call 21; refine (eqBytes_any _ gb _ _ _ _ _ _ l l _ hO.out.sl (HS.out.fr hF.out (fun _ x => x))).mono ?_; rintro e w' ⟨rfl, nq, rfl⟩; replace hF : Hid (Fr (fun _ => False) w (wr.drewN nq)) := hF.out.drewN nq; generalize wr.drewN nq = w6 at *)
          | (go_at_call 15; refine (CW _).mono ?_; rintro e w7 ⟨rfl, hf⟩; replace hF : Hid (Fr (fun _ => False) w w7) := hF.out.trans hf; clear hf))
        go_ret
        exact ⟨by simp, hF.out⟩
  · have hlim2 : (4294967296 - vc) * 64 < (m : Int) := by omega
    go_upto_region 3 with (first
    | (go_at_call 19; refine (xor_no vk vc vn A2 m c2 _ hc (by have := HM.out; omega) hlim2).mono ?_; rintro e w2 ⟨rfl, hf⟩; replace X0 := Lib.hid (Calm.at X0.out hf); replace F0 := Lib.hid (F0.out.trans hf); replace HO := Lib.hid (HO.out.keep hf (fun _ _ x => x)); clear hf)
    | refine wpList_mid rfl 28 (.tmp 14) rfl (w.heap.size) 0 rfl .u8 vk _ (bg_key HB.out.1 X0.out) Try.underlying28 rfl (by rw [HB.out.1]; kernel_rfl) ?_
    | refine wpList_mid rfl 29 (.tmp 18) rfl (w.heap.size) 33 rfl .u8 vn _ (bg_nonce HB.out.1 X0.out) Try.underlying29 rfl (by rw [HB.out.2.2.2.1]; kernel_rfl) ?_)
    try simp only [Act.put, List.setIfInBounds_toArray, List.set_cons_succ, List.set_cons_zero]
    have hcc := bg_cell HB.out.1 X0.out
    go_upto_region 4 with (first
    | (go_at_call 20; refine (rxor_no vk vc vn A m cap _ hc (by have := HM.out; omega) hlim2).mono ?_; rintro e w3 ⟨rfl, hf⟩; replace X0 := Lib.hid (Calm.at X0.out hf); replace F0 := Lib.hid (F0.out.trans hf); replace HO := Lib.hid (HO.out.keep hf (fun _ _ x => x)); clear hf)
    | refine wpList_mid rfl 28 (.tmp 25) rfl (w.heap.size) 0 rfl .u8 vk _ (bg_key HB.out.1 X0.out) Try.underlying28 rfl (by rw [HB.out.1]; kernel_rfl) ?_
    | refine wpList_mid rfl 29 (.tmp 29) rfl (w.heap.size) 33 rfl .u8 vn _ (bg_nonce HB.out.1 X0.out) Try.underlying29 rfl (by rw [HB.out.2.2.2.1]; kernel_rfl) ?_)
    try simp only [Act.put, List.setIfInBounds_toArray, List.set_cons_succ, List.set_cons_zero]
    clear hcc
    have tok1 : True := trivial
    go_upto_region 7 with (first
    | (go_at_call 21; clear tok1; refine (eqBytes_any 0 0 none none 0 0 0 0 [] [] _ (Sl.nil _ _) (Sl.nil _ _)).mono ?_; rintro e w' ⟨rfl, nq, rfl⟩; replace HO : Hid (Ow (w3.drewN nq) (.slice A2 m c2) l) := HO; replace F0 : Hid (Fr (fun _ => False) w (w3.drewN nq)) := F0.out.drewN nq; clear X0; generalize w3.drewN nq = w4 at *)
    | (go_at_call 21; refine (eqBytes_any _ gb _ _ _ _ _ _ l l _ HO.out.sl (HS.out.fr F0.out (fun _ x => x))).mono ?_; rintro e w' ⟨rfl, nq, rfl⟩; replace HO : Hid (Ow (w4.drewN nq) (.slice A2 m c2) l) := HO; replace F0 : Hid (Fr (fun _ => False) w (w4.drewN nq)) := F0.out.drewN nq; generalize w4.drewN nq = w5 at *))
    try simp only [Act.put, List.setIfInBounds_toArray, List.set_cons_succ, List.set_cons_zero]
    go_loopw [10] (fun u10 wr => u10 = .int .i64 0 ∧ Hid (Ow wr (.slice A2 m c2) l) ∧ Hid (Fr (fun _ => False) w wr)) (fun _ _ => 0)
    case atStart => exact ⟨rfl, HO, F0⟩
    case round =>
      obtain ⟨rfl, hO, hF⟩ := hrel
      have CW := works_is
      go_wp2_with (first
        | (go_at_call 21; refine (eqBytes_any _ gb _ _ _ _ _ _ l l _ hO.out.sl (HS.out.fr hF.out (fun _ x => x))).mono ?_; rintro e w' ⟨rfl, nq, rfl⟩; replace hF : Hid (Fr (fun _ => False) w (wr.drewN nq)) := hF.out.drewN nq; generalize wr.drewN nq = w6 at *)
        | (go_at_call 15; refine (CW _).mono ?_; rintro e w7 ⟨rfl, hf⟩; replace hF : Hid (Fr (fun _ => False) w w7) := hF.out.trans hf; clear hf))
      go_ret
      exact ⟨by simp, hF.out⟩

set_option maxRecDepth 100000 in
theorem law_xor_lifted (os : Os) (started : os.Started) (H : Type) (enc : TypeId × Value → H) :
    ReturnsInHanded {} Try.checked os 5 .any (Rows.chachaXorSpec.pre6 enc Try.prog Try.f5 Rows.chachaXorRow.domain false) (Rows.chachaXorSpec.post enc Try.prog Try.f5 false true false false) := by
  refine returnsInHanded_of_change_sized (C := Try.checked) own started (by kernel_rfl) Try.func5
    (ChangeSpec.witness6 (enc := enc) (C := Try.checked) false ⟨#[], #[.agg (bg (List.replicate 32 0) 0 (List.replicate 12 0)), .slice none 0 0], []⟩ 8 (by kernel_rfl) (by kernel_rfl) (by kernel_rfl) (by kernel_rfl)) ?_
  intro W base args ds gs before hval0 hW hcnd hsz0 _
  have hsz : (DataW.weightsEach Try.prog (Try.f5.params.toList ++ Rows.chachaXorSpec.plain.varTypes Try.prog) (ds ++ gs)).all (· ≤ reachBytes) = true := hsz0
  clear hsz0
  have hval : ∀ (j : Nat) t v, Try.f5.params[j]? = some t → args[j]? = some v → Value.okWide Try.prog W .any base t v := hval0
  have hW' := hW
  obtain ⟨p, q, hA0, hV, rfl, hfz, hnd⟩ := hW
  have hA : DataW.TrodAll enc Try.prog W 0 (fun _ => true) true Try.f5.params.toList args.toList ds p := hA0
  rw [Try.params5] at hA hval hsz
  obtain ⟨v0, vs0, d0, ds0, p0, q0, hargs, rfl, rfl, h0, r0⟩ := trodAll_cons hA
  obtain ⟨v1, vs1, d1, ds1, p1, q1, rfl, rfl, rfl, h1, r1⟩ := trodAll_cons r0
  obtain ⟨rfl, rfl, rfl⟩ := trodAll_nil r1
  obtain rfl : args = #[v0, v1] := by cases args; simp_all
  obtain ⟨rfl, rfl⟩ := trodVars_none hV
  have hlt1 : ∀ x ∈ p1, x.block < W.heap.size := fun x hx => hW'.lt x (by simp [hx])
  obtain ⟨k0, c0, n0, rfl, lk0, bk0, wc0, ln0, bn0⟩ := open_bg (hval 0 31 v0 rfl rfl) h0
  obtain ⟨A1, m1, s1, g1, l1, rfl, hs1, hg1⟩ := open_sl (hval 1 35 v1 rfl rfl) h1 hlt1
  have hn1 : m1 ≤ 140737488351232 := by
    rcases open_len h1 with e | ⟨el, sp, rfl, hle⟩
    · omega
    · have := sized_slice hsz (j := 1) (t := 35) (e := 5) rfl rfl Try.underlying35
      rw [Try.bytes5] at this
      simp only [reachBytes] at this
      omega
  clear hA0 hval0
  refine (law_xor_any k0 c0 n0 g1 A1 m1 s1 l1 W lk0 bk0 wc0 ln0 bn0 hs1 hn1 hg1).mono fun e W' ⟨he, hg⟩ => ?_
  subst he
  exact ⟨_, rfl, post_true rfl hW' (by kernel_rfl) rfl rfl hg⟩

theorem chachaXor_holds : Rows.ChachaXorSaid :=
  OpenClaim.holds_of_wide 5 Try.f5 rfl rfl rfl rfl rfl rfl rfl ⟨rfl, rfl, rfl, rfl, rfl⟩ rfl rfl rfl rfl rfl (by kernel_rfl) Try.func5 (by kernel_rfl)
    (of_decide_eq_true (by kernel_rfl)) (by unfold Func.isWrapper; first | (rw [if_pos (by decide +kernel)]; kernel_rfl) | (rw [if_neg (by decide +kernel)]; exact ⟨rfl, rfl⟩))
    (fun os started H enc _ => law_xor_lifted os started H enc)
#print axioms chachaXor_holds
end Go.Proofs.Ytnagnolbomcnjaa
