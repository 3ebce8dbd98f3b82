/- ChachaTwice answers true for all keys, counters, nonces and bytes, and its arguments read behind the call as they did: the given statement ChachaTwiceSaid. No condition. -/
import Derived.Test.YtnagnolbomcnjaaXe
namespace Go.Proofs.Ytnagnolbomcnjaa
set_option linter.unusedSimpArgs false
set_option linter.unusedVariables false
set_option linter.unusedVariables false
open Go.ChangeShapes Go.WideShapes Go.ChangeAt Go.RowKit

set_option maxRecDepth 100000 in
set_option maxHeartbeats 8000000 in
theorem law_twice_any (vk : List Int) (vc : Int) (vn : List Int) (gb : Nat) (A : Option Addr) (m cap : Nat) (l : List Int) (w : World) (hk : vk.length = 32) (bk : Bys vk) (hc : Wd vc) (hn : vn.length = 12) (bn : Bys vn) (hs : Sl w gb (.slice A m cap) l) (hm : m ≤ 140737488351232) (hg : l ≠ [] → gb < w.heap.size) :
    Calls Try.prog 8 #[.agg (bg vk vc vn), .slice A m cap] w fun e w' => e = .returned (.bool true) ∧ Fr (fun _ => False) w w' := by
  have HB := Lib.hid (And.intro hk (And.intro bk (And.intro hc (And.intro hn bn))))
  have HS := Lib.hid hs
  have HL := Lib.hid hs.len
  have HY : Hid (Bys l) := hs.1
  have HG : Hid (0 < m → gb < w.heap.size) := Lib.hid (fun h => hg (by intro e; have := hs.len; rw [e] at this; simp at this; omega))
  have HM := Lib.hid hm
  clear hs hg
  clear hk bk hn bn
  go_enter Try.func8, Try.ntmps8
  go_upto_region 1 with (fail)
  generalize hW : w.alloc (.cells (bg vk vc vn) 31) = W0
  have HW := Lib.hid (calm1a hW)
  have X0 := Lib.hid HW.out.1
  have F0 : Hid (Fr (fun _ => False) w W0) := HW.out.2
  clear hW HW
  go_upto_region 3 with (go_at_call 15; refine (works_is _).mono ?_; rintro e w1 ⟨rfl, hf⟩; replace X0 := Lib.hid (Calm.at X0.out hf); replace F0 := Lib.hid (F0.out.trans hf); clear hf)
  try simp only [Act.put, List.setIfInBounds_toArray, List.set_cons_succ, List.set_cons_zero]
  have hcc := bg_cell HB.out.1 X0.out
  by_cases hlim : (m : Int) ≤ (4294967296 - vc) * 64
  · obtain ⟨X, hX⟩ : ∃ X, xo vk vc vn l = X := ⟨_, rfl⟩
    have HX1 : Hid (X.length = m) := by show _ = _; rw [← hX, xo_length, HL.out]
    have HXB : Hid (Bys X) := by show Bys X; rw [← hX]; exact xo_bys' HY.out
    have HXX : Unit → xo vk vc vn X = l := fun _ => by rw [← hX]; exact xo_xo HY.out
    have HX0 : Unit → xo vk vc vn l = X := fun _ => hX
    clear hX
    go_upto_region 6 with (first
    | (go_at_call 19; refine (xor_ex vk vc vn gb A m cap l _ HB.out.1 HB.out.2.1 hc HB.out.2.2.2.1 HB.out.2.2.2.2 (HS.out.fr F0.out (fun _ x => x)) (by have := HM.out; omega) hlim (fun h => Nat.lt_of_lt_of_le (HG.out h) F0.out.size)).mono ?_; rintro e w2 ⟨g1, hg1, rfl, ha, hf⟩; replace X0 := Lib.hid (Calm.at X0.out hf); replace F0 := Lib.hid (F0.out.trans hf); have AX : Hid (Ar w2 g1 5 .u8 X) := by { show _; rw [← HX0 ()]; exact ha }; have hg1' := AX.out.lt; clear hf ha)
    | refine wpList_mid rfl 28 (.tmp 12) rfl (w.heap.size) 0 rfl .u8 vk _ (bg_key HB.out.1 X0.out) Try.underlying28 rfl (by rw [HB.out.1]; kernel_rfl) ?_
    | refine wpList_mid rfl 29 (.tmp 16) rfl (w.heap.size) 33 rfl .u8 vn _ (bg_nonce HB.out.1 X0.out) Try.underlying29 rfl (by rw [HB.out.2.2.2.1]; kernel_rfl) ?_)
    have hcc := bg_cell HB.out.1 X0.out
    have hcap : m ≤ maxLen := by have := HM.out; simp only [maxLen]; omega
    try simp only [Act.put, List.setIfInBounds_toArray, List.set_cons_succ, List.set_cons_zero]
    go_upto_region 7 with (first
    | (go_at_call 19; refine (xor_ex vk vc vn g1 (some ⟨g1, 0, none⟩) m m X _ HB.out.1 HB.out.2.1 hc HB.out.2.2.2.1 HB.out.2.2.2.2 (AX.out.sl HXB.out HX1.out hcap) (by have := HM.out; omega) hlim (fun _ => AX.out.lt)).mono ?_; rintro e w3 ⟨g2, hg2, rfl, ha, hf⟩; replace X0 := Lib.hid (Calm.at X0.out hf); replace F0 := Lib.hid (F0.out.trans hf); have AY : Hid (Ar w3 g2 5 .u8 l) := by { show _; rw [← HXX ()]; exact ha }; clear hf ha)
    | refine wpList_mid rfl 28 (.tmp 32) rfl (w.heap.size) 0 rfl .u8 vk _ (bg_key HB.out.1 X0.out) Try.underlying28 rfl (by rw [HB.out.1]; kernel_rfl) ?_
    | refine wpList_mid rfl 29 (.tmp 36) rfl (w.heap.size) 33 rfl .u8 vn _ (bg_nonce HB.out.1 X0.out) Try.underlying29 rfl (by rw [HB.out.2.2.2.1]; kernel_rfl) ?_)
    try simp only [Act.put, List.setIfInBounds_toArray, List.set_cons_succ, List.set_cons_zero]
    go_wp2_with (go_at_call 21; refine (eqBytes_any g2 gb _ _ _ _ _ _ l l _ (AY.out.sl HY.out HL.out hcap) (HS.out.fr F0.out (fun _ x => x))).mono ?_; rintro e w4 ⟨rfl, nq, rfl⟩)
    go_ret
    exact ⟨by simp, F0.out.drewN _⟩
  · have hlim2 : (4294967296 - vc) * 64 < (m : Int) := by omega
    go_upto_region 5 with (first
    | (go_at_call 19; refine (xor_no vk vc vn A m cap _ hc (by have := HM.out; omega) hlim2).mono ?_; rintro e w2 ⟨rfl, hf⟩; replace X0 := Lib.hid (Calm.at X0.out hf); replace F0 := Lib.hid (F0.out.trans hf); clear hf)
    | refine wpList_mid rfl 28 (.tmp 12) rfl (w.heap.size) 0 rfl .u8 vk _ (bg_key HB.out.1 X0.out) Try.underlying28 rfl (by rw [HB.out.1]; kernel_rfl) ?_
    | refine wpList_mid rfl 29 (.tmp 16) rfl (w.heap.size) 33 rfl .u8 vn _ (bg_nonce HB.out.1 X0.out) Try.underlying29 rfl (by rw [HB.out.2.2.2.1]; kernel_rfl) ?_)
    try simp only [Act.put, List.setIfInBounds_toArray, List.set_cons_succ, List.set_cons_zero]
    go_wp2
    go_ret
    exact ⟨rfl, F0.out⟩

set_option maxRecDepth 100000 in
theorem law_twice_lifted (os : Os) (started : os.Started) (H : Type) (enc : TypeId × Value → H) :
    ReturnsInHanded {} Try.checked os 8 .any (Rows.chachaTwiceSpec.pre6 enc Try.prog Try.f8 Rows.chachaTwiceRow.domain false) (Rows.chachaTwiceSpec.post enc Try.prog Try.f8 false true false false) := by
  refine returnsInHanded_of_change_sized (C := Try.checked) own started (by kernel_rfl) Try.func8
    (ChangeSpec.witness6 (enc := enc) (C := Try.checked) false ⟨#[], #[.agg (bg (List.replicate 32 0) 0 (List.replicate 12 0)), .slice none 0 0], []⟩ 8 (by kernel_rfl) (by kernel_rfl) (by kernel_rfl) (by kernel_rfl)) ?_
  intro W base args ds gs before hval0 hW hcnd hsz0 _
  have hsz : (DataW.weightsEach Try.prog (Try.f8.params.toList ++ Rows.chachaTwiceSpec.plain.varTypes Try.prog) (ds ++ gs)).all (· ≤ reachBytes) = true := hsz0
  clear hsz0
  have hval : ∀ (j : Nat) t v, Try.f8.params[j]? = some t → args[j]? = some v → Value.okWide Try.prog W .any base t v := hval0
  have hW' := hW
  obtain ⟨p, q, hA0, hV, rfl, hfz, hnd⟩ := hW
  have hA : DataW.TrodAll enc Try.prog W 0 (fun _ => true) true Try.f8.params.toList args.toList ds p := hA0
  rw [Try.params8] at hA hval hsz
  obtain ⟨v0, vs0, d0, ds0, p0, q0, hargs, rfl, rfl, h0, r0⟩ := trodAll_cons hA
  obtain ⟨v1, vs1, d1, ds1, p1, q1, rfl, rfl, rfl, h1, r1⟩ := trodAll_cons r0
  obtain ⟨rfl, rfl, rfl⟩ := trodAll_nil r1
  obtain rfl : args = #[v0, v1] := by cases args; simp_all
  obtain ⟨rfl, rfl⟩ := trodVars_none hV
  have hlt1 : ∀ x ∈ p1, x.block < W.heap.size := fun x hx => hW'.lt x (by simp [hx])
  obtain ⟨k0, c0, n0, rfl, lk0, bk0, wc0, ln0, bn0⟩ := open_bg (hval 0 31 v0 rfl rfl) h0
  obtain ⟨A1, m1, s1, g1, l1, rfl, hs1, hg1⟩ := open_sl (hval 1 35 v1 rfl rfl) h1 hlt1
  have hn1 : m1 ≤ 140737488351232 := by
    rcases open_len h1 with e | ⟨el, sp, rfl, hle⟩
    · omega
    · have := sized_slice hsz (j := 1) (t := 35) (e := 5) rfl rfl Try.underlying35
      rw [Try.bytes5] at this
      simp only [reachBytes] at this
      omega
  clear hA0 hval0
  refine (law_twice_any k0 c0 n0 g1 A1 m1 s1 l1 W lk0 bk0 wc0 ln0 bn0 hs1 hn1 hg1).mono fun e W' ⟨he, hg⟩ => ?_
  subst he
  exact ⟨_, rfl, post_true rfl hW' (by kernel_rfl) rfl rfl hg⟩

theorem chachaTwice_holds : Rows.ChachaTwiceSaid :=
  OpenClaim.holds_of_wide 8 Try.f8 rfl rfl rfl rfl rfl rfl rfl ⟨rfl, rfl, rfl, rfl, rfl⟩ rfl rfl rfl rfl rfl (by kernel_rfl) Try.func8 (by kernel_rfl)
    (of_decide_eq_true (by kernel_rfl)) (by unfold Func.isWrapper; first | (rw [if_pos (by decide +kernel)]; kernel_rfl) | (rw [if_neg (by decide +kernel)]; exact ⟨rfl, rfl⟩))
    (fun os started H enc _ => law_twice_lifted os started H enc)
#print axioms chachaTwice_holds
end Go.Proofs.Ytnagnolbomcnjaa
