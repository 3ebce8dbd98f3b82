/- BlakeLength answers true for all sizes, keys and bytes: the given statement BlakeLengthSaid. No condition. -/
import Derived.Test.YtafpcaoccocpfaaZl
namespace Go.Proofs.Ytafpcaoccocpfaa
set_option linter.unusedSimpArgs false
set_option linter.unusedVariables false
open Go.ChangeShapes Go.WideShapes Go.ChangeAt Go.RowKit

set_option maxRecDepth 100000 in
set_option maxHeartbeats 8000000 in
theorem law_length_any (a0 : Int) (g1 : Nat) (A1 : Option Addr) (m1 s1 : Nat) (l1 : List Int) (g2 : Nat) (A2 : Option Addr) (m2 s2 : Nat) (l2 : List Int) (w : World) (ha : -9223372036854775808 ≤ a0 ∧ a0 ≤ 9223372036854775807) (hs1 : Sl w g1 (.slice A1 m1 s1) l1) (hn1 : m1 ≤ 140737488351232) (hg1 : l1 ≠ [] → g1 < w.heap.size) (hs2 : Sl w g2 (.slice A2 m2 s2) l2) (hn2 : m2 ≤ 140737488351232) (hg2 : l2 ≠ [] → g2 < w.heap.size) :
    Calls Try.prog 7 #[.int .i64 a0, .slice A1 m1 s1, .slice A2 m2 s2] w fun e w' => e = .returned (.bool true) ∧ Fr (fun _ => False) w w' := by
  obtain ⟨V, hV⟩ : ∃ V, V = (ofv a0 l1 l2).1 := ⟨_, rfl⟩
  obtain ⟨er, hE⟩ : ∃ x, x = (ofv a0 l1 l2).2 := ⟨_, rfl⟩
  have C1 : ∀ W, Fr (fun _ => False) w W → Calls Try.prog 12 #[.int .i64 a0, .slice A1 m1 s1, .slice A2 m2 s2] W fun e w' => ∃ v, e = .returned (.tuple #[v, .int .i64 er]) ∧ Nw W w' v V ∧ Fr (fun _ => False) W w' := fun W hf => by rw [hV, hE]; exact of_is a0 g1 A1 m1 s1 l1 g2 A2 m2 s2 l2 W ha (hs1.fr hf (fun _ x => x)) (hs2.fr hf (fun _ x => x)) hn1 hn2
  have e1 := hs1.len
  have hc : (a0 < 1 ∧ er = 2 ∧ V.length = 0) ∨ (¬ a0 < 1 ∧ 32 < a0 ∧ er = 2 ∧ V.length = 0) ∨ (¬ a0 < 1 ∧ ¬ 32 < a0 ∧ (32 : Int) < m1 ∧ er = 2 ∧ V.length = 0) ∨ (¬ a0 < 1 ∧ ¬ 32 < a0 ∧ ¬ (32 : Int) < m1 ∧ er = 0 ∧ (V.length : Int) = a0) := by
    by_cases h : a0 < 1 ∨ 32 < a0 ∨ 32 < l1.length
    · have h1 : er = 2 := by rw [hE, ofv, if_pos h]
      have h2 : V.length = 0 := by rw [hV, ofv, if_pos h]; rfl
      omega
    · have h1 : er = 0 := by rw [hE, ofv, if_neg h]
      have h2 : V.length = a0.toNat := by rw [hV, ofv, if_neg h]; exact dig_length (by omega) l1 l2
      omega
  clear hV hE hs1 hs2 hn1 hn2 hg1 hg2 ha e1
  rcases hc with ⟨j1, rfl, lV⟩ | ⟨j1, j2, rfl, lV⟩ | ⟨j1, j2, j3, rfl, lV⟩ | ⟨j1, j2, j3, rfl, lV⟩
  · have LV := Lib.hid lV
    clear lV
    have k1 : ¬ 1 ≤ a0 := by omega


    go_enter Try.func7, Try.ntmps7
    go_upto_region 3 with (go_at_call 15; refine (works_is _).mono ?_; rintro e w1 ⟨rfl, hf⟩; have F1 := Lib.hid hf; clear hf)
    go_upto_region 4 with (go_at_call 12; refine (C1 _ F1.out).mono ?_; rintro e w2 ⟨v, rfl, hn, hf⟩; have N2 := Lib.hid hn; have F2 := Lib.hid (F1.out.trans hf); clear hf hn)
    obtain ⟨A, c, rfl⟩ := N2.out.shape
    have lV := LV.out
    rw [lV]
    go_wp2
    go_ret
    exact ⟨by first | rfl | simp [lV] | (simp; omega), F2.out⟩
  · have LV := Lib.hid lV
    clear lV
    have k1 : 1 ≤ a0 := by omega
    have k2 : ¬ a0 ≤ 32 := by omega

    go_enter Try.func7, Try.ntmps7
    go_upto_region 3 with (go_at_call 15; refine (works_is _).mono ?_; rintro e w1 ⟨rfl, hf⟩; have F1 := Lib.hid hf; clear hf)
    go_upto_region 4 with (go_at_call 12; refine (C1 _ F1.out).mono ?_; rintro e w2 ⟨v, rfl, hn, hf⟩; have N2 := Lib.hid hn; have F2 := Lib.hid (F1.out.trans hf); clear hf hn)
    obtain ⟨A, c, rfl⟩ := N2.out.shape
    have lV := LV.out
    rw [lV]
    go_wp2
    go_ret
    exact ⟨by first | rfl | simp [lV] | (simp; omega), F2.out⟩
  · have LV := Lib.hid lV
    clear lV
    have k1 : 1 ≤ a0 := by omega
    have k2 : a0 ≤ 32 := by omega
    have k3 : ¬ (m1 : Int) ≤ 32 := by omega
    go_enter Try.func7, Try.ntmps7
    go_upto_region 3 with (go_at_call 15; refine (works_is _).mono ?_; rintro e w1 ⟨rfl, hf⟩; have F1 := Lib.hid hf; clear hf)
    go_upto_region 4 with (go_at_call 12; refine (C1 _ F1.out).mono ?_; rintro e w2 ⟨v, rfl, hn, hf⟩; have N2 := Lib.hid hn; have F2 := Lib.hid (F1.out.trans hf); clear hf hn)
    obtain ⟨A, c, rfl⟩ := N2.out.shape
    have lV := LV.out
    rw [lV]
    go_wp2
    go_ret
    exact ⟨by first | rfl | simp [lV] | (simp; omega), F2.out⟩
  · have LV := Lib.hid lV
    clear lV
    have k1 : 1 ≤ a0 := by omega
    have k2 : a0 ≤ 32 := by omega
    have k3 : (m1 : Int) ≤ 32 := by omega
    go_enter Try.func7, Try.ntmps7
    go_upto_region 3 with (go_at_call 15; refine (works_is _).mono ?_; rintro e w1 ⟨rfl, hf⟩; have F1 := Lib.hid hf; clear hf)
    go_upto_region 4 with (go_at_call 12; refine (C1 _ F1.out).mono ?_; rintro e w2 ⟨v, rfl, hn, hf⟩; have N2 := Lib.hid hn; have F2 := Lib.hid (F1.out.trans hf); clear hf hn)
    obtain ⟨A, c, rfl⟩ := N2.out.shape
    have lV := LV.out

    go_wp2
    go_ret
    exact ⟨by first | rfl | simp [lV] | (simp; omega), F2.out⟩

set_option maxRecDepth 100000 in
theorem law_length_lifted (os : Os) (started : os.Started) (H : Type) (enc : TypeId × Value → H) :
    ReturnsInHanded {} Try.checked os 7 .any (Rows.blakeLengthSpec.pre6 enc Try.prog Try.f7 Rows.blakeLengthRow.domain false) (Rows.blakeLengthSpec.post enc Try.prog Try.f7 false true false false) := by
  refine returnsInHanded_of_change_sized (C := Try.checked) own started (by kernel_rfl) Try.func7
    (ChangeSpec.witness6 (enc := enc) (C := Try.checked) false ⟨#[], #[.int .i64 0, .slice none 0 0, .slice none 0 0], []⟩ 8 (by kernel_rfl) (by kernel_rfl) (by kernel_rfl) (by kernel_rfl)) ?_
  intro W base args ds gs before hval0 hW hcnd hsz0 _
  have hsz : (DataW.weightsEach Try.prog (Try.f7.params.toList ++ Rows.blakeLengthSpec.plain.varTypes Try.prog) (ds ++ gs)).all (· ≤ reachBytes) = true := hsz0
  clear hsz0
  have hval : ∀ (j : Nat) t v, Try.f7.params[j]? = some t → args[j]? = some v → Value.okWide Try.prog W .any base t v := hval0
  have hW' := hW
  obtain ⟨p, q, hA0, hV, rfl, hfz, hnd⟩ := hW
  have hA : DataW.TrodAll enc Try.prog W 0 (fun _ => true) true Try.f7.params.toList args.toList ds p := hA0
  rw [Try.params7] at hA hval hsz
  obtain ⟨v0, vs0, d0, ds0, p0, q0, hargs, rfl, rfl, h0, r0⟩ := trodAll_cons hA
  obtain ⟨v1, vs1, d1, ds1, p1, q1, rfl, rfl, rfl, h1, r1⟩ := trodAll_cons r0
  obtain ⟨v2, vs2, d2, ds2, p2, q2, rfl, rfl, rfl, h2, r2⟩ := trodAll_cons r1
  obtain ⟨rfl, rfl, rfl⟩ := trodAll_nil r2
  obtain rfl : args = #[v0, v1, v2] := by cases args; simp_all
  obtain ⟨rfl, rfl⟩ := trodVars_none hV
  have hlt1 : ∀ x ∈ p1, x.block < W.heap.size := fun x hx => hW'.lt x (by simp [hx])
  have hlt2 : ∀ x ∈ p2, x.block < W.heap.size := fun x hx => hW'.lt x (by simp [hx])
  obtain ⟨a0, rfl, rfl, rfl, w0⟩ := open_int Try.underlying3 (hval 0 3 v0 rfl rfl) h0
  obtain ⟨A1, m1, s1, g1, l1, rfl, hs1, hg1⟩ := open_sl (hval 1 22 v1 rfl rfl) h1 hlt1
  have hn1 : m1 ≤ 140737488351232 := by
    rcases open_len h1 with e | ⟨el, sp, rfl, hle⟩
    · omega
    · have := sized_slice hsz (j := 1) (t := 22) (e := 5) rfl rfl Try.underlying22
      rw [Try.bytes5] at this
      simp only [reachBytes] at this
      omega
  obtain ⟨A2, m2, s2, g2, l2, rfl, hs2, hg2⟩ := open_sl (hval 2 22 v2 rfl rfl) h2 hlt2
  have hn2 : m2 ≤ 140737488351232 := by
    rcases open_len h2 with e | ⟨el, sp, rfl, hle⟩
    · omega
    · have := sized_slice hsz (j := 2) (t := 22) (e := 5) rfl rfl Try.underlying22
      rw [Try.bytes5] at this
      simp only [reachBytes] at this
      omega
  clear hA0 hval0
  refine (law_length_any a0 g1 A1 m1 s1 l1 g2 A2 m2 s2 l2 W (wf_i64 w0) hs1 hn1 hg1 hs2 hn2 hg2).mono fun e W' ⟨he, hg⟩ => ?_
  subst he
  exact ⟨_, rfl, post_true rfl hW' (by kernel_rfl) rfl rfl hg⟩

theorem blakeLength_holds : Rows.BlakeLengthSaid :=
  OpenClaim.holds_of_wide 7 Try.f7 rfl rfl rfl rfl rfl rfl rfl ⟨rfl, rfl, rfl, rfl, rfl⟩ rfl rfl rfl rfl rfl (by kernel_rfl) Try.func7 (by kernel_rfl)
    (of_decide_eq_true (by kernel_rfl)) (by unfold Func.isWrapper; first | (rw [if_pos (by decide +kernel)]; kernel_rfl) | (rw [if_neg (by decide +kernel)]; exact ⟨rfl, rfl⟩))
    (fun os started H enc _ => law_length_lifted os started H enc)
#print axioms blakeLength_holds
end Go.Proofs.Ytafpcaoccocpfaa
