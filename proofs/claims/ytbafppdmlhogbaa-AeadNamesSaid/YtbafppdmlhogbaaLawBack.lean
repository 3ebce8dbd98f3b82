/- AeadBack answers true for all keys, nonces, ads and texts, and its arguments read behind the call as they did: the given statement AeadBackSaid. No condition. -/
import Derived.Test.YtbafppdmlhogbaaAw
namespace Go.Proofs.Ytbafppdmlhogbaa
set_option linter.unusedSimpArgs false
set_option linter.unusedVariables false
open Go.ChangeShapes Go.WideShapes Go.ChangeAt Go.RowKit


set_option maxRecDepth 100000 in
set_option maxHeartbeats 16000000 in
theorem law_back_any (k0 n0 : List Int) (A0 : Option Addr) (m0 s0 g0 : Nat) (l0 : List Int) (B0 : Option Addr) (p0 r0 q0 : Nat) (t0 : List Int) (w : World) (lk0 : k0.length = 32) (bk0 : Bys k0) (ln0 : n0.length = 12) (bn0 : Bys n0) (hs0 : Sl w g0 (.slice A0 m0 s0) l0) (ht0 : Sl w q0 (.slice B0 p0 r0) t0) (hm0 : m0 ≤ 140737488351232) (hp0 : p0 ≤ 140737488351232) :
    Calls Try.prog 6 #[.agg (ainn k0 n0 (.slice A0 m0 s0) (.slice B0 p0 r0))] w fun e w' => e = .returned (.bool true) ∧ Fr (fun _ => False) w w' := by
  have e2 := hs0.len
  have e3 := ht0.len
  have HS := Lib.hid hs0
  have HT := Lib.hid ht0
  have LK := Lib.hid lk0
  have LN := Lib.hid ln0
  have sK := Lib.hid (key_sz lk0)
  have sN := Lib.hid (nonce_sz ln0)
  by_cases hlim : 4096 < l0.length ∨ 4096 < t0.length
  · have CS : ∀ W g2 A2 m2 c2 g3 A3 m3 c3, Sl W g2 (.slice A2 m2 c2) l0 → Sl W g3 (.slice A3 m3 c3) t0 → Calls Try.prog 16 #[.agg (vs .u8 k0), .agg (vs .u8 n0), .slice A2 m2 c2, .slice A3 m3 c3] W fun e w' => ∃ v, e = .returned (.tuple #[v, .int .i64 5]) ∧ Nw W w' v [] ∧ Fr (fun _ => False) W w' := fun W g2 A2 m2 c2 g3 A3 m3 c3 h2 h3 => by
      have h := seal_is k0 n0 g2 A2 m2 c2 l0 g3 A3 m3 c3 t0 W lk0 bk0 ln0 bn0 h2 h3
      rw [sealv, if_pos hlim] at h
      exact h
    have hcase : (4096 : Int) < m0 ∨ (¬ (4096 : Int) < m0 ∧ (4096 : Int) < p0) := by omega
    clear hlim e2 e3
    rcases hcase with j1 | ⟨j1, j2⟩
    all_goals
      clear hs0 ht0 lk0 ln0 bk0 bn0 hm0 hp0
      go_enter Try.func6, Try.ntmps6
      go_upto_region 1 with (fail)
      have X0 : Hid ((w.alloc (.cells (ainn k0 n0 (.slice A0 m0 s0) (.slice B0 p0 r0)) 31)).heap[w.heap.size]? = some (.cells (ainn k0 n0 (.slice A0 m0 s0) (.slice B0 p0 r0)) 31 (0, 0))) := heap_alloc_new w _
      have F0 : Hid (Fr (fun _ => False) w (w.alloc (.cells (ainn k0 n0 (.slice A0 m0 s0) (.slice B0 p0 r0)) 31))) := (Fr.refl _ _).alloc _
      generalize w.alloc (.cells (ainn k0 n0 (.slice A0 m0 s0) (.slice B0 p0 r0)) 31) = W0 at *
      have cA := ainn_ad LK.out LN.out X0.out
      have cB := ainn_b LK.out LN.out X0.out
      go_upto_region 2 with (first
        | refine wpList_mid rfl 28 (.tmp 8) rfl (w.heap.size) 0 rfl .u8 k0 _ (ainn_key LK.out X0.out) Try.underlying28 rfl sK.out ?_
        | refine wpList_mid rfl 22 (.tmp 10) rfl (w.heap.size) 32 rfl .u8 n0 _ (ainn_nonce LK.out X0.out) Try.underlying22 rfl sN.out ?_
        | (go_at_call 16; refine (CS _ _ _ _ _ _ _ _ _ (HS.out.fr F0.out (fun _ x => x)) (HT.out.fr F0.out (fun _ x => x))).mono ?_; rintro e w1 ⟨v1, rfl, hn2, hf⟩; have N_v1 := Lib.hid hn2; have G_w1 := Lib.hid hf; clear hn2 hf))
      replace X0 := Lib.hid (Calm.at X0.out G_w1.out)
      have F1 := Lib.hid (F0.out.trans G_w1.out)
      clear cA cB
      have cA := ainn_ad LK.out LN.out X0.out
      have cB := ainn_b LK.out LN.out X0.out
      clear G_w1 F0
      obtain ⟨Aa, na, ca, rfl, hna⟩ := N_v1.out.1.shape
      obtain rfl : na = 0 := hna
      clear CS
      go_wp2_with (go_at_call 21; refine (awake_is _).mono ?_; rintro e w2 ⟨rfl, hf⟩; have F2 := Lib.hid (F1.out.trans hf); clear hf)
      go_ret
      exact ⟨rfl, F2.out⟩
  · have ha : l0.length ≤ 4096 := by omega
    have hb : t0.length ≤ 4096 := by omega
    obtain ⟨V, hV⟩ : ∃ V, V = box k0 n0 l0 t0 := ⟨_, rfl⟩
    have CS : ∀ W g2 A2 m2 c2 g3 A3 m3 c3, Sl W g2 (.slice A2 m2 c2) l0 → Sl W g3 (.slice A3 m3 c3) t0 → Calls Try.prog 16 #[.agg (vs .u8 k0), .agg (vs .u8 n0), .slice A2 m2 c2, .slice A3 m3 c3] W fun e w' => ∃ v, e = .returned (.tuple #[v, .int .i64 0]) ∧ Nw W w' v V ∧ Fr (fun _ => False) W w' := fun W g2 A2 m2 c2 g3 A3 m3 c3 h2 h3 => by
      have h := seal_is k0 n0 g2 A2 m2 c2 l0 g3 A3 m3 c3 t0 W lk0 bk0 ln0 bn0 h2 h3
      rw [sealv, if_neg hlim, ← hV] at h
      exact h
    have CO : ∀ W g2 A2 m2 c2 g3 A3 m3 c3, Sl W g2 (.slice A2 m2 c2) l0 → Sl W g3 (.slice A3 m3 c3) V → Calls Try.prog 19 #[.agg (vs .u8 k0), .agg (vs .u8 n0), .slice A2 m2 c2, .slice A3 m3 c3] W fun e w' => ∃ v, e = .returned (.tuple #[v, .int .i64 0]) ∧ Nw W w' v t0 ∧ Fr (fun _ => False) W w' := fun W g2 A2 m2 c2 g3 A3 m3 c3 h2 h3 => by
      have h := open_is k0 n0 g2 A2 m2 c2 l0 g3 A3 m3 c3 V W lk0 bk0 ln0 bn0 h2 h3
      rw [hV, openv_box ht0.1 ha hb] at h
      exact h
    have lV : Hid (V.length = p0 + 16) := by show _ = _; rw [hV, box_length, e3]
    have j1 : ¬ (4096 : Int) < m0 := by omega
    have j2 : ¬ (4096 : Int) < p0 := by omega
    have j3 : IntKind.i64.wrap ((p0 : Int) + 16) = (p0 : Int) + 16 := by rw [IntKind.wrap_i64]; omega
    clear hlim e2 e3 ha hb hV
    clear hs0 ht0 lk0 ln0 bk0 bn0 hm0 hp0
    go_enter Try.func6, Try.ntmps6
    go_upto_region 1 with (fail)
    have X0 : Hid ((w.alloc (.cells (ainn k0 n0 (.slice A0 m0 s0) (.slice B0 p0 r0)) 31)).heap[w.heap.size]? = some (.cells (ainn k0 n0 (.slice A0 m0 s0) (.slice B0 p0 r0)) 31 (0, 0))) := heap_alloc_new w _
    have F0 : Hid (Fr (fun _ => False) w (w.alloc (.cells (ainn k0 n0 (.slice A0 m0 s0) (.slice B0 p0 r0)) 31))) := (Fr.refl _ _).alloc _
    generalize w.alloc (.cells (ainn k0 n0 (.slice A0 m0 s0) (.slice B0 p0 r0)) 31) = W0 at *
    have cA := ainn_ad LK.out LN.out X0.out
    have cB := ainn_b LK.out LN.out X0.out
    go_upto_region 2 with (first
      | refine wpList_mid rfl 28 (.tmp 8) rfl (w.heap.size) 0 rfl .u8 k0 _ (ainn_key LK.out X0.out) Try.underlying28 rfl sK.out ?_
      | refine wpList_mid rfl 22 (.tmp 10) rfl (w.heap.size) 32 rfl .u8 n0 _ (ainn_nonce LK.out X0.out) Try.underlying22 rfl sN.out ?_
      | (go_at_call 16; refine (CS _ _ _ _ _ _ _ _ _ (HS.out.fr F0.out (fun _ x => x)) (HT.out.fr F0.out (fun _ x => x))).mono ?_; rintro e w1 ⟨v1, rfl, hn2, hf⟩; have N_v1 := Lib.hid hn2; have G_w1 := Lib.hid hf; clear hn2 hf))
    replace X0 := Lib.hid (Calm.at X0.out G_w1.out)
    have F1 := Lib.hid (F0.out.trans G_w1.out)
    clear cA cB
    have cA := ainn_ad LK.out LN.out X0.out
    have cB := ainn_b LK.out LN.out X0.out
    clear G_w1 F0
    obtain ⟨Aa, na, ca, rfl, hna⟩ := N_v1.out.1.shape
    rw [lV.out] at hna
    subst hna
    have SV := Lib.hid N_v1.out.1.sl
    clear N_v1 CS lV
    go_upto_region 4 with (fail)
    go_upto_region 5 with (first
      | refine wpList_mid rfl 28 (.tmp 40) rfl (w.heap.size) 0 rfl .u8 k0 _ (ainn_key LK.out X0.out) Try.underlying28 rfl sK.out ?_
      | refine wpList_mid rfl 22 (.tmp 42) rfl (w.heap.size) 32 rfl .u8 n0 _ (ainn_nonce LK.out X0.out) Try.underlying22 rfl sN.out ?_
      | (go_at_call 19; refine (CO _ _ _ _ _ _ _ _ _ (HS.out.fr F1.out (fun _ x => x)) (SV.out)).mono ?_; rintro e w2 ⟨v2, rfl, hn2, hf⟩; have N_v2 := Lib.hid hn2; have G_w2 := Lib.hid hf; clear hn2 hf))
    replace X0 := Lib.hid (Calm.at X0.out G_w2.out)
    have F2 := Lib.hid (F1.out.trans G_w2.out)
    clear cA cB
    have cA := ainn_ad LK.out LN.out X0.out
    have cB := ainn_b LK.out LN.out X0.out
    clear G_w2 F1
    obtain ⟨Ab, nb, cb, rfl, hnb⟩ := N_v2.out.1.shape
    have SV2 := Lib.hid N_v2.out.1.sl
    clear N_v2 CO SV hnb
    go_wp2_with (first
      | (go_at_call 18; refine (eq_yes _ SV2.out (HT.out.fr F2.out (fun _ x => x)) rfl).mono ?_; rintro e w3 ⟨rfl, hf⟩; have F3 := Lib.hid (F2.out.trans hf); clear hf)
      | (go_at_call 21; refine (awake_is _).mono ?_; rintro e w4 ⟨rfl, hf⟩; have F4 := Lib.hid (F3.out.trans hf); clear hf))
    go_ret
    exact ⟨rfl, F4.out⟩

set_option maxRecDepth 100000 in
theorem law_back_lifted (os : Os) (started : os.Started) (H : Type) (enc : TypeId × Value → H) :
    ReturnsInHanded {} Try.checked os 6 .any (Rows.aeadBackSpec.pre6 enc Try.prog Try.f6 Rows.aeadBackRow.domain false) (Rows.aeadBackSpec.post enc Try.prog Try.f6 false true false false) := by
  refine returnsInHanded_of_change_sized (C := Try.checked) own started (by kernel_rfl) Try.func6
    (ChangeSpec.witness6 (enc := enc) (C := Try.checked) false ⟨#[], #[.agg (ainn (List.replicate 32 0) (List.replicate 12 0) (.slice none 0 0) (.slice none 0 0))], []⟩ 8 (by kernel_rfl) (by kernel_rfl) (by kernel_rfl) (by kernel_rfl)) ?_
  intro W base args ds gs before hval0 hW hcnd hsz0 _
  have hsz : (DataW.weightsEach Try.prog (Try.f6.params.toList ++ Rows.aeadBackSpec.plain.varTypes Try.prog) (ds ++ gs)).all (· ≤ reachBytes) = true := hsz0
  clear hsz0
  have hval : ∀ (j : Nat) t v, Try.f6.params[j]? = some t → args[j]? = some v → Value.okWide Try.prog W .any base t v := hval0
  have hW' := hW
  obtain ⟨p, q, hA0, hV, rfl, hfz, hnd⟩ := hW
  have hA : DataW.TrodAll enc Try.prog W 0 (fun _ => true) true Try.f6.params.toList args.toList ds p := hA0
  rw [Try.params6] at hA hval hsz
  obtain ⟨v0, vs0, d0, ds0, p0, q0, hargs, rfl, rfl, h0, r0⟩ := trodAll_cons hA
  obtain ⟨rfl, rfl, rfl⟩ := trodAll_nil r0
  obtain rfl : args = #[v0] := by cases args; simp_all
  obtain ⟨rfl, rfl⟩ := trodVars_none hV
  have hlt0 : ∀ x ∈ p0, x.block < W.heap.size := fun x hx => hW'.lt x (by simp [hx])
  obtain ⟨k0, n0, A0, m0, s0, g0, l0, B0, pz0, rz0, qz0, t0, x0, x1, x2, x3, rfl, rfl, lk0, bk0, ln0, bn0, hs0, ht0, y2, y3⟩ := open_in (hval 0 31 v0 rfl rfl) h0 hlt0
  have hm0 : m0 ≤ 140737488351232 := by
    rcases y2 with e | ⟨el, sp, rfl, hle⟩
    · omega
    · obtain ⟨f0, f1, f2, f3, hu, t0, o0, t1, o1, t2, o2, t3, o3⟩ := under_in
      have := sized_field hsz (j := 0) (m := 2) (s := 29) (e := 5) rfl rfl hu (by simp [t0, t1, t2, t3]) rfl Try.underlying29
      rw [Try.bytes5] at this
      simp only [reachBytes] at this
      omega
  have hpz0 : pz0 ≤ 140737488351232 := by
    rcases y3 with e | ⟨el, sp, rfl, hle⟩
    · omega
    · obtain ⟨f0, f1, f2, f3, hu, t0, o0, t1, o1, t2, o2, t3, o3⟩ := under_in
      have := sized_field hsz (j := 0) (m := 3) (s := 29) (e := 5) rfl rfl hu (by simp [t0, t1, t2, t3]) rfl Try.underlying29
      rw [Try.bytes5] at this
      simp only [reachBytes] at this
      omega
  clear hA0 hval0
  refine (law_back_any k0 n0 A0 m0 s0 g0 l0 B0 pz0 rz0 qz0 t0 W lk0 bk0 ln0 bn0 hs0 ht0 hm0 hpz0).mono fun e W' ⟨he, hg⟩ => ?_
  subst he
  exact ⟨_, rfl, post_true rfl hW' (by kernel_rfl) rfl rfl hg⟩

theorem aeadBack_holds : Rows.AeadBackSaid :=
  OpenClaim.holds_of_wide 6 Try.f6 rfl rfl rfl rfl rfl rfl rfl ⟨rfl, rfl, rfl, rfl, rfl⟩ rfl rfl rfl rfl rfl (by kernel_rfl) Try.func6 (by kernel_rfl)
    (of_decide_eq_true (by kernel_rfl)) (by unfold Func.isWrapper; first | (rw [if_pos (by decide +kernel)]; kernel_rfl) | (rw [if_neg (by decide +kernel)]; exact ⟨rfl, rfl⟩))
    (fun os started H enc _ => law_back_lifted os started H enc)
#print axioms aeadBack_holds
end Go.Proofs.Ytbafppdmlhogbaa
