/- PolyTag answers true for all keys and bytes, and its arguments read behind the call as they did: the given statement PolyTagSaid. No condition. -/
import Derived.Test.YtcoggpedpclkaaaLi
import Derived.Test.YtcoggpedpclkaaaRh
namespace Go.Proofs.Ytcoggpedpclkaaa
set_option linter.unusedSimpArgs false
set_option linter.unusedVariables false
open Go.ChangeShapes Go.WideShapes Go.ChangeAt Go.RowKit

set_option maxRecDepth 100000 in
set_option maxHeartbeats 8000000 in
theorem law_tag_any (k0 : List Int) (g1 : Nat) (A1 : Option Addr) (m1 s1 : Nat) (l1 : List Int) (w : World) (lk0 : k0.length = 32) (bk0 : Bys k0) (hs1 : Sl w g1 (.slice A1 m1 s1) l1) (hn1 : m1 ≤ 140737488351232) (hg1 : l1 ≠ [] → g1 < w.heap.size) :
    Calls Try.prog 3 #[.agg (vs .u8 k0), .slice A1 m1 s1] w fun e w' => e = .returned (.bool true) ∧ Fr (fun _ => False) w w' := by
  obtain ⟨t, ht⟩ : ∃ t, t = tag k0 l1 := ⟨_, rfl⟩
  have lt : t.length = 16 := by rw [ht]; exact tag_length _ _
  have HE : ∀ W, (Op.equalIn 10000 26 (.agg (vs .u8 t)) (.agg (vs .u8 t))).run Try.prog W = .ok true W := fun W => (eq26 t t lt lt W).trans (by rw [decide_eq_true rfl])
  have HK := Lib.hid (And.intro lk0 bk0)
  have HS := Lib.hid (And.intro hs1 (And.intro hn1 hg1))
  have s23 := Lib.hid (keys_info lk0)
  have HT := Lib.hid ht
  have hm1 : m1 ≤ 140737488355328 := by omega
  clear ht lt lk0 bk0 hs1 hn1 hg1
  go_enter Try.func3, Try.ntmps3
  go_upto_region 1 with (fail)
  have X0 : Hid ((w.alloc (.cells (vs .u8 k0) 23)).heap[w.heap.size]? = some (.cells (vs .u8 k0) 23 (0, 0))) := heap_alloc_new w _
  have F0 : Hid (Fr (fun _ => False) w (w.alloc (.cells (vs .u8 k0) 23))) := (Fr.refl _ _).alloc _
  generalize w.alloc (.cells (vs .u8 k0) 23) = W0 at *
  go_upto_region 2 with (go_at_call 14; refine (copyBytes_any g1 A1 m1 s1 l1 W0 (HS.out.1.fr F0.out (fun _ x => x)) hm1).mono ?_; rintro e w1 ⟨A2, c2, rfl, ho, hk, hf⟩)
  have HO := Lib.hid ho
  have F1 := Lib.hid (F0.out.trans hf)
  have X1 := Lib.hid (Calm.at X0.out hf)
  have S1 : Hid (Sl w1 g1 (.slice A1 m1 s1) l1) := HS.out.1.fr F1.out (fun _ x => x)
  obtain ⟨g2, hS2, hg2⟩ : ∃ g2, Sl w1 g2 (.slice A2 m1 c2) l1 ∧ (l1 ≠ [] → g2 < w1.heap.size) := by
    refine ⟨_, ho.sl, fun h => ?_⟩
    obtain ⟨_, _, _, _, _, _, hx⟩ := ho.sl
    obtain ⟨_, _, h, _⟩ := hx h
    exact h
  have S2 := Lib.hid (And.intro hS2 hg2)
  have HG : Hid (l1 ≠ [] → g1 < w1.heap.size) := fun h => Nat.lt_of_lt_of_le (HS.out.2.2 h) F1.out.size
  have C15 : ∀ V, Calm w1 V → Calls Try.prog 15 #[.agg (vs .u8 k0), .slice A2 m1 c2] V fun e w' => e = .returned (.agg (vs .u8 t)) ∧ Calm w1 w' := fun V h => by
    rw [HT.out]
    exact (tag_is k0 g2 A2 m1 c2 l1 V HK.out.1 HK.out.2 (S2.out.1.fr h (fun _ x => x)) (fun e => Nat.lt_of_lt_of_le (S2.out.2 e) h.size)).mono fun _ _ ⟨he, hf⟩ => ⟨he, Fr.trans h hf⟩
  have C16 : ∀ V, Calm w1 V → Calls Try.prog 16 #[.agg (vs .u8 k0), .slice A1 m1 s1] V fun e w' => e = .returned (.agg (vs .u8 t)) ∧ Calm w1 w' := fun V h => by
    rw [HT.out]
    exact (rtag_is k0 g1 A1 m1 s1 l1 V HK.out.1 HK.out.2 (S1.out.fr h (fun _ x => x)) (fun e => Nat.lt_of_lt_of_le (HG.out e) h.size) hm1).mono fun _ _ ⟨he, hf⟩ => ⟨he, Fr.trans h hf⟩
  have C17 : ∀ V, Calm w1 V → Calls Try.prog 17 #[.slice A2 m1 c2, .slice A1 m1 s1] V fun e w' => e = .returned (.bool true) ∧ Calm w1 w' := fun V h =>
    (eqBytes_any g2 g1 A2 A1 m1 m1 c2 s1 l1 l1 V (S2.out.1.fr h (fun _ x => x)) (S1.out.fr h (fun _ x => x))).mono fun _ _ ⟨he, q, hw⟩ => ⟨by rw [he, decide_eq_true rfl], by rw [hw]; exact Fr.drewN h q⟩
  have C18 : ∀ V, Calm w1 V → Calls Try.prog 18 #[] V fun e w' => e = .returned (.bool true) ∧ Calm w1 w' := fun V h => (works_is V).mono fun _ _ ⟨he, hf⟩ => ⟨he, Fr.trans h hf⟩
  clear ho hk hf hS2 hg2
  refine wp_region_quiet (C := Calm w1) (by kernel_rfl) (by kernel_rfl) (Calm.start _ _ (Fr.refl _ _)) ?_
  refine BigFrame.wpQuiet_want rfl fun K hK => quiet_load 23 (.tmp 2) rfl (w.heap.size) rfl 23 _ (0, 0) _ (fun _ h => Calm.at X1.out h) Try.underlying23 rfl s23.out (hK _ ?_)
  refine BigFrame.wpQuiet_want rfl fun K hK => ?_
  try simp only [Act.put, List.setIfInBounds_toArray, List.set_cons_succ, List.set_cons_zero]
  go_big_quiet_op
  refine hK _ ?_
  refine BigFrame.wpQuiet_want rfl fun K hK => ?_
  try simp only [Act.put, List.setIfInBounds_toArray, List.set_cons_succ, List.set_cons_zero]
  go_big_quiet_op
  refine ⟨_, C15, hK _ ?_⟩
  refine BigFrame.wpQuiet_want rfl fun K hK => quiet_load 23 (.tmp 2) rfl (w.heap.size) rfl 23 _ (0, 0) _ (fun _ h => Calm.at X1.out h) Try.underlying23 rfl s23.out (hK _ ?_)
  refine BigFrame.wpQuiet_want rfl fun K hK => ?_
  try simp only [Act.put, List.setIfInBounds_toArray, List.set_cons_succ, List.set_cons_zero]
  go_big_quiet_op
  refine hK _ ?_
  refine BigFrame.wpQuiet_want rfl fun K hK => ?_
  try simp only [Act.put, List.setIfInBounds_toArray, List.set_cons_succ, List.set_cons_zero]
  go_big_quiet_op
  refine ⟨_, C16, hK _ ?_⟩
  refine BigFrame.wpQuiet_want rfl fun K hK => ?_
  try simp only [Act.put, List.setIfInBounds_toArray, List.set_cons_succ, List.set_cons_zero]
  go_big_quiet_op
  first
    | refine ⟨_, fun _ _ => rfl, hK _ ?_⟩
    | refine hK _ ?_
  refine BigFrame.wpQuiet_want rfl fun K hK => ?_
  try simp only [Act.put, List.setIfInBounds_toArray, List.set_cons_succ, List.set_cons_zero]
  go_big_quiet_op
  refine hK _ ?_
  refine BigFrame.wpQuiet_want rfl fun K hK => ?_
  try simp only [Act.put, List.setIfInBounds_toArray, List.set_cons_succ, List.set_cons_zero]
  go_big_quiet_op
  refine hK _ ?_
  refine BigFrame.wpQuiet_want rfl fun K hK => ?_
  try simp only [Act.put, List.setIfInBounds_toArray, List.set_cons_succ, List.set_cons_zero]
  go_big_quiet_op
  refine hK _ ?_
  refine BigFrame.wpQuiet_want rfl fun K hK => ?_
  try simp only [Act.put, List.setIfInBounds_toArray, List.set_cons_succ, List.set_cons_zero]
  go_big_quiet_op
  refine ⟨_, C17, hK _ ?_⟩
  refine BigFrame.wpQuiet_want rfl fun K hK => ?_
  try simp only [Act.put, List.setIfInBounds_toArray, List.set_cons_succ, List.set_cons_zero]
  go_big_quiet_op
  first
    | refine ⟨_, fun _ _ => rfl, hK _ ?_⟩
    | refine hK _ ?_
  refine BigFrame.wpQuiet_want rfl fun K hK => ?_
  try simp only [Act.put, List.setIfInBounds_toArray, List.set_cons_succ, List.set_cons_zero]
  go_big_quiet_op
  refine hK _ ?_
  refine BigFrame.wpQuiet_want rfl fun K hK => ?_
  try simp only [Act.put, List.setIfInBounds_toArray, List.set_cons_succ, List.set_cons_zero]
  go_big_quiet_op
  refine ⟨_, C18, hK _ ?_⟩
  refine BigFrame.wpQuiet_want rfl fun K hK => ?_
  try simp only [Act.put, List.setIfInBounds_toArray, List.set_cons_succ, List.set_cons_zero]
  go_big_quiet_op
  first
    | refine ⟨_, fun _ _ => rfl, hK _ ?_⟩
    | refine hK _ ?_
  refine BigFrame.wpQuiet_want rfl fun K hK => ?_
  try simp only [Act.put, List.setIfInBounds_toArray, List.set_cons_succ, List.set_cons_zero]
  go_big_quiet_op
  refine hK _ ?_
  refine wpQuiet_nil ?_
  intro w9 hw9
  have F9 : Hid (Fr (fun _ => False) w w9) := F1.out.trans hw9
  have G9 := Lib.hid hw9
  clear hw9
  try simp only [Act.put, List.setIfInBounds_toArray, List.set_cons_succ, List.set_cons_zero]
  go_wp2
  go_ret
  exact ⟨rfl, F9.out⟩

set_option maxRecDepth 100000 in
theorem law_tag_lifted (os : Os) (started : os.Started) (H : Type) (enc : TypeId × Value → H) :
    ReturnsInHanded {} Try.checked os 3 .any (Rows.polyTagSpec.pre6 enc Try.prog Try.f3 Rows.polyTagRow.domain false) (Rows.polyTagSpec.post enc Try.prog Try.f3 false true false false) := by
  refine returnsInHanded_of_change_sized (C := Try.checked) own started (by kernel_rfl) Try.func3
    (ChangeSpec.witness6 (enc := enc) (C := Try.checked) false ⟨#[], #[.agg (vs .u8 (List.replicate 32 0)), .slice none 0 0], []⟩ 8 (by kernel_rfl) (by kernel_rfl) (by kernel_rfl) (by kernel_rfl)) ?_
  intro W base args ds gs before hval0 hW hcnd hsz0 _
  have hsz : (DataW.weightsEach Try.prog (Try.f3.params.toList ++ Rows.polyTagSpec.plain.varTypes Try.prog) (ds ++ gs)).all (· ≤ reachBytes) = true := hsz0
  clear hsz0
  have hval : ∀ (j : Nat) t v, Try.f3.params[j]? = some t → args[j]? = some v → Value.okWide Try.prog W .any base t v := hval0
  have hW' := hW
  obtain ⟨p, q, hA0, hV, rfl, hfz, hnd⟩ := hW
  have hA : DataW.TrodAll enc Try.prog W 0 (fun _ => true) true Try.f3.params.toList args.toList ds p := hA0
  rw [Try.params3] at hA hval hsz
  obtain ⟨v0, vs0, d0, ds0, p0, q0, hargs, rfl, rfl, h0, r0⟩ := trodAll_cons hA
  obtain ⟨v1, vs1, d1, ds1, p1, q1, rfl, rfl, rfl, h1, r1⟩ := trodAll_cons r0
  obtain ⟨rfl, rfl, rfl⟩ := trodAll_nil r1
  obtain rfl : args = #[v0, v1] := by cases args; simp_all
  obtain ⟨rfl, rfl⟩ := trodVars_none hV
  have hlt1 : ∀ x ∈ p1, x.block < W.heap.size := fun x hx => hW'.lt x (by simp [hx])
  obtain ⟨k0, rfl, lk0, bk0⟩ := open_key (hval 0 23 v0 rfl rfl) h0
  obtain ⟨A1, m1, s1, g1, l1, rfl, hs1, hg1⟩ := open_sl (hval 1 24 v1 rfl rfl) h1 hlt1
  have hn1 : m1 ≤ 140737488351232 := by
    rcases open_len h1 with e | ⟨el, sp, rfl, hle⟩
    · omega
    · have := sized_slice hsz (j := 1) (t := 24) (e := 5) rfl rfl Try.underlying24
      rw [Try.bytes5] at this
      simp only [reachBytes] at this
      omega
  clear hA0 hval0
  refine (law_tag_any k0 g1 A1 m1 s1 l1 W lk0 bk0 hs1 hn1 hg1).mono fun e W' ⟨he, hg⟩ => ?_
  subst he
  exact ⟨_, rfl, post_true rfl hW' (by kernel_rfl) rfl rfl hg⟩

theorem polyTag_holds : Rows.PolyTagSaid :=
  OpenClaim.holds_of_wide 3 Try.f3 rfl rfl rfl rfl rfl rfl rfl ⟨rfl, rfl, rfl, rfl, rfl⟩ rfl rfl rfl rfl rfl (by kernel_rfl) Try.func3 (by kernel_rfl)
    (of_decide_eq_true (by kernel_rfl)) (by unfold Func.isWrapper; first | (rw [if_pos (by decide +kernel)]; kernel_rfl) | (rw [if_neg (by decide +kernel)]; exact ⟨rfl, rfl⟩))
    (fun os started H enc _ => law_tag_lifted os started H enc)
#print axioms polyTag_holds
end Go.Proofs.Ytcoggpedpclkaaa
