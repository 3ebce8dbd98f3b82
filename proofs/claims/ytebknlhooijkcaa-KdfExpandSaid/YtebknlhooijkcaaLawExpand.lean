/- KdfExpand answers true for all keys, infos and numbers, and its arguments read behind the call as they did: the given statement KdfExpandSaid. No condition. -/
import Derived.Test.YtebknlhooijkcaaYo8
namespace Go.Proofs.Ytebknlhooijkcaa
set_option linter.unusedSimpArgs false
set_option linter.unusedVariables false
open Go.ChangeShapes Go.WideShapes Go.ChangeAt Go.RowKit

set_option maxRecDepth 100000 in
set_option maxHeartbeats 16000000 in
theorem law_expand_any (k0 : List Int) (g1 : Nat) (A1 : Option Addr) (m1 s1 : Nat) (l1 : List Int) (a2 : Int) (w : World) (lk0 : k0.length = 32) (bk0 : Bys k0) (hs1 : Sl w g1 (.slice A1 m1 s1) l1) (hn1 : m1 ≤ 140737488351232) (hg1 : l1 ≠ [] → g1 < w.heap.size) (ha : -9223372036854775808 ≤ a2 ∧ a2 ≤ 9223372036854775807) :
    Calls Try.prog 5 #[.agg (vs .u8 k0), .slice A1 m1 s1, .int .i64 a2] w fun e w' => e = .returned (.bool true) ∧ Fr (fun _ => False) w w' := by
  obtain ⟨V, hV⟩ : ∃ V, V = (expv k0 l1 a2).1 := ⟨_, rfl⟩
  obtain ⟨er, hE⟩ : ∃ x, x = (expv k0 l1 a2).2 := ⟨_, rfl⟩
  have L1 := Lib.hid hs1.len
  have HM : Hid (m1 ≤ 140737488351232) := hn1
  have C1 : ∀ W g3 A3 m3 c3, Sl W g3 (.slice A3 m3 c3) l1 → Calls Try.prog 18 #[.agg (vs .u8 k0), .slice A3 m3 c3, .int .i64 a2] W fun e w' => ∃ v, e = .returned (.tuple #[v, .int .i64 er]) ∧ Nw W w' v V ∧ Fr (fun _ => False) W w' := fun W g3 A3 m3 c3 h3 => by
    have e3 := h3.len
    rw [hV, hE]
    exact kexpand_is k0 g3 A3 m3 c3 l1 a2 W lk0 bk0 h3 (by have := L1.out; omega)
  have C2 : ∀ W, Fr (fun _ => False) w W → Calls Try.prog 19 #[.agg (vs .u8 k0), .slice A1 m1 s1, .int .i64 a2] W fun e w' => ∃ A n c g, e = .returned (.tuple #[.slice A n c, .int .i64 er]) ∧ W.heap.size ≤ g ∧ Sl w' g (.slice A n c) V ∧ Fr (fun _ => False) W w' := fun W hf => by
    rw [hV, hE]
    exact rexpand_is k0 g1 A1 m1 s1 l1 a2 W lk0 bk0 (hs1.fr hf (fun _ x => x)) hn1
  have sk : Hid ((Try.prog.info? 24).map (·.size) = some (vs .u8 k0).size) := by show _ = _; rw [szA32, vs_size, lk0]
  have H1 := Lib.hid hs1
  clear hV hE ha hs1 hn1 hg1 lk0 bk0
  go_enter Try.func5, Try.ntmps5
  go_upto_region 1 with (fail)
  obtain ⟨bx, hbx⟩ : ∃ x, x = w.heap.size := ⟨_, rfl⟩
  have K0 : Hid (Ar (w.alloc (.cells (vs .u8 k0) 24)) bx 24 .u8 k0) := by rw [hbx]; exact Ar.new w 24 .u8 k0
  have F0 : Hid (Fr (fun _ => False) w (w.alloc (.cells (vs .u8 k0) 24))) := (Fr.refl _ _).alloc _
  rw [← hbx]
  generalize w.alloc (.cells (vs .u8 k0) 24) = W0 at *
  clear hbx
  try simp only [Act.put, List.setIfInBounds_toArray, List.set_cons_succ, List.set_cons_zero]
  go_upto_region 2 with (go_at_call 11; refine (copy_new W0 W0 (H1.out.fr F0.out (fun _ x => x)) (by have := HM.out; omega) (Fr.refl _ _)).mono ?_; rintro e w2 ⟨v2, rfl, hn, hf⟩; have P2 := Lib.hid hn; have G2 := Lib.hid hf; clear hn hf)
  obtain ⟨Ay, ny, cy, rfl, hny⟩ := P2.out.1.shape
  have K2 := Lib.hid (K0.out.fr G2.out (fun x => x))
  have F2 := Lib.hid (F0.out.trans G2.out)
  have Y2 : Hid (∀ k, (Value.slice Ay ny cy).ownBlock = some k → k < w2.heap.size) := P2.out.1.lt
  have BX2 : Hid (bx < W0.heap.size ∧ W0.heap.size ≤ w2.heap.size) := ⟨K0.out.lt, G2.out.size⟩
  clear hny K0 F0 G2
  go_upto_region 3 with (first
    | refine wpList_load_row rfl 24 (.tmp 3) rfl bx rfl 24 (vs .u8 k0) (0, 0) _ K2.out Try.underlying24 rfl sk.out ?_
    | (go_at_call 18; refine (C1 _ _ _ _ _ P2.out.1.sl).mono ?_; rintro e w3 ⟨v3, rfl, hn, hf⟩; have N3 := Lib.hid hn; have G3 := Lib.hid hf; clear hn hf))
  have F3 := Lib.hid (F2.out.trans G3.out)
  have KK3 := Lib.hid (K2.out.fr G3.out (fun x => x))
  go_upto_region 4 with (first
    | refine wpList_load_row rfl 24 (.tmp 3) rfl bx rfl 24 (vs .u8 k0) (0, 0) _ KK3.out Try.underlying24 rfl sk.out ?_
    | (go_at_call 19; refine (C2 _ F3.out).mono ?_; rintro e w4 ⟨Ab, nb, cb, gb, rfl, hgb, hsb, hf⟩; have N4 := Lib.hid hsb; have GB := Lib.hid hgb; have G4 := Lib.hid hf; clear hsb hgb hf))
  have F4 := Lib.hid (F3.out.trans G4.out)
  obtain ⟨Aa, na, ca, rfl, hna⟩ := N3.out.1.shape
  have Q2 := Lib.hid (P2.out.fr (G3.out.trans G4.out) (fun _ x => x))
  have Q3 := Lib.hid (N3.out.fr G4.out (fun _ x => x))
  have KK4 := Lib.hid (KK3.out.fr G4.out (fun x => x))
  have K3 : Hid (∀ k, (Value.slice Aa na ca).ownBlock = some k → k < w3.heap.size) := N3.out.1.lt
  have Z24 : Hid (w.heap.size ≤ w2.heap.size ∧ w2.heap.size ≤ w3.heap.size ∧ w3.heap.size ≤ w4.heap.size) := ⟨F2.out.size, G3.out.size, G4.out.size⟩
  clear hna P2 N3 C2 G3 G4 F2 F3 K2 KK3
  have SE1 := Lib.hid Q3.out.1.sl
  have tk1 : True := trivial
  go_upto_region 6 with (first
    | (go_at_call 14; clear tk1; refine (eq_yes _ SE1.out N4.out rfl).mono ?_; rintro e w5 ⟨rfl, hf⟩; have G5 := Lib.hid hf; clear hf)
    | (go_at_call 14; refine (eq_yes _ (Q2.out.fr G5.out (fun _ x => x)).1.sl (H1.out.fr (F4.out.trans G5.out) (fun _ x => x)) rfl).mono ?_; rintro e w7 ⟨rfl, hf⟩; have G7 := Lib.hid (G5.out.trans hf); clear hf))
  try simp only [ne_eq, not_true_eq_false, decide_false, decide_true, Bool.not_true]
  replace Q2 := Lib.hid (Q2.out.fr G7.out (fun _ x => x))
  replace Q3 := Lib.hid (Q3.out.fr G7.out (fun _ x => x))
  have Q4 := Lib.hid (N4.out.fr G7.out (fun _ x => x))
  have KK7 := Lib.hid (KK4.out.fr G7.out (fun x => x))
  have F7 := Lib.hid (F4.out.trans G7.out)
  have Z7 : Hid (w4.heap.size ≤ w7.heap.size) := G7.out.size
  clear SE1 G5 G7 N4 F4 KK4
  have hna : V.length = na := Q3.out.1.len
  have HN : Hid (na ≤ 9223372036854775807) := by
    obtain ⟨_, A', c', e, h1, h2, _⟩ := Q3.out.1.sl
    injection e with _ e2 e3
    have : maxLen = 9223372036854775807 := rfl
    show _ ≤ _
    omega
  obtain ⟨ga, C0, hga1, hga2⟩ : ∃ ga, Hid (Cl w7 ga Aa 0 na V) ∧ (ga < w3.heap.size ∨ w7.heap.size ≤ ga) ∧ w2.heap.size ≤ ga := by
    have hz := Z24.out
    have hz7 := Z7.out
    by_cases h0 : na = 0
    · exact ⟨w7.heap.size, fun h => absurd h (by omega), .inr (Nat.le_refl _), by omega⟩
    · obtain ⟨g, hg, hcl, hob, _⟩ := Ow.cells Q3.out.1 w2.heap.size Q3.out.2 (by omega)
      obtain ⟨h1, h2, h3⟩ := hcl (by omega)
      refine ⟨g, fun h0 => ⟨h1, h2, fun i _ hi => h3 i hi⟩, .inl (K3.out g ?_), hg⟩
      rw [h2]
      rfl
  have HG : Hid ((ga < w3.heap.size ∨ w7.heap.size ≤ ga) ∧ w2.heap.size ≤ ga) := ⟨hga1, hga2⟩
  clear hga1 hga2 Q3 hna
  go_upto_region 7 with (fail)
  go_loopw [12] (fun u13 wr => ∃ i : Nat, u13 = .int .i64 i ∧ i ≤ na ∧ Hid (Cl wr ga Aa i na V) ∧ Hid (Fr (fun k => k = ga) w7 wr)) (fun u13 _ => na - (intOf u13).toNat)
  case atStart => exact ⟨0, rfl, by omega, C0, Lib.hid (Fr.refl _ _)⟩
  case round =>
  clear C0
  obtain ⟨i, rfl, hi, hC, hG⟩ := hrel
  by_cases hil : i < na
  · obtain ⟨h1, rfl, h3⟩ := hC.out (by omega)
    have c1 := (h3 i (Nat.le_refl _) hil).1
    have f1 := (h3 i (Nat.le_refl _) hil).2
    obtain ⟨x, hx⟩ : ∃ x, x = V.getD i 0 := ⟨_, rfl⟩
    rw [← hx] at c1
    obtain ⟨y, hy⟩ : ∃ y, IntKind.u8.wrap (x + 1) = y := ⟨_, rfl⟩
    have j1 : ((i : Int)).toNat = i := by omega
    have j2 : 0 ≤ (i : Int) := by omega
    have j3 : (i : Int) < na := by omega
    have j9 : IntKind.i64.wrap ((i : Int) + 1) = ((i + 1 : Nat) : Int) := by have := HN.out; rw [IntKind.wrap_i64]; omega
    have C2 := Lib.hid (hC.out.set (.int .u8 y))
    clear h3 hx hC h1
    go_wp2
    go_roundw
    case rel => exact ⟨i + 1, by first | rfl | go_num, by omega, C2, hG.out.setCell _ (.inl rfl)⟩
    case measure => simp [intOf]; omega
  obtain rfl : i = na := by omega
  have FW : Hid (Fr (fun _ => False) w wr) := F7.out.trans' hG.out (fun k hk e => by have := Z24.out; have := HG.out; omega)
  have SY := Lib.hid (Q2.out.1.keep hG.out (fun k hk e => by have := Y2.out k hk; have := HG.out; omega)).sl
  have SV := Lib.hid (Q4.out.fr hG.out (fun hk e => by have := GB.out; have := HG.out; have := Z7.out; omega))
  have KK9 := Lib.hid (KK7.out.fr hG.out (show ¬ bx = ga by have := BX2.out; have := HG.out; omega))
  clear Q2 Q4 F7 hG hC KK7
  go_upto_region 11 with (first
    | refine wpList_load_row rfl 24 (.tmp 3) rfl bx rfl 24 (vs .u8 k0) (0, 0) _ KK9.out Try.underlying24 rfl sk.out ?_
    | (go_at_call 18; refine (C1 _ _ _ _ _ SY.out).mono ?_; rintro e w8 ⟨v8, rfl, hn, hf⟩; have N8 := Lib.hid hn; have G8 := Lib.hid hf; clear hn hf))
  obtain ⟨Az, nz, cz, rfl, hnz⟩ := N8.out.1.shape
  have S8 := Lib.hid N8.out.1.sl
  have S9 := Lib.hid (SV.out.fr G8.out (fun _ x => x))
  have F8 := Lib.hid (FW.out.trans G8.out)
  clear hnz N8 SV SY FW G8
  go_wp2_with (first
    | (go_at_call 14; refine (eq_yes _ S8.out S9.out rfl).mono ?_; rintro e w9 ⟨rfl, hf⟩; have F9 := Lib.hid (F8.out.trans hf); clear hf)
    | (go_at_call 15; refine (works_is _).mono ?_; rintro e w10 ⟨rfl, hf⟩; have F10 := Lib.hid (F9.out.trans hf); clear hf))
  go_ret
  exact ⟨rfl, F10.out⟩

set_option maxRecDepth 100000 in
theorem law_expand_lifted (os : Os) (started : os.Started) (H : Type) (enc : TypeId × Value → H) :
    ReturnsInHanded {} Try.checked os 5 .any (Rows.kdfExpandSpec.pre6 enc Try.prog Try.f5 Rows.kdfExpandRow.domain false) (Rows.kdfExpandSpec.post enc Try.prog Try.f5 false true false false) := by
  refine returnsInHanded_of_change_sized (C := Try.checked) own started (by kernel_rfl) Try.func5
    (ChangeSpec.witness6 (enc := enc) (C := Try.checked) false ⟨#[], #[.agg (vs .u8 (List.replicate 32 0)), .slice none 0 0, .int .i64 0], []⟩ 8 (by kernel_rfl) (by kernel_rfl) (by kernel_rfl) (by kernel_rfl)) ?_
  intro W base args ds gs before hval0 hW hcnd hsz0 _
  have hsz : (DataW.weightsEach Try.prog (Try.f5.params.toList ++ Rows.kdfExpandSpec.plain.varTypes Try.prog) (ds ++ gs)).all (· ≤ reachBytes) = true := hsz0
  clear hsz0
  have hval : ∀ (j : Nat) t v, Try.f5.params[j]? = some t → args[j]? = some v → Value.okWide Try.prog W .any base t v := hval0
  have hW' := hW
  obtain ⟨p, q, hA0, hV, rfl, hfz, hnd⟩ := hW
  have hA : DataW.TrodAll enc Try.prog W 0 (fun _ => true) true Try.f5.params.toList args.toList ds p := hA0
  rw [Try.params5] at hA hval hsz
  obtain ⟨v0, vs0, d0, ds0, p0, q0, hargs, rfl, rfl, h0, r0⟩ := trodAll_cons hA
  obtain ⟨v1, vs1, d1, ds1, p1, q1, rfl, rfl, rfl, h1, r1⟩ := trodAll_cons r0
  obtain ⟨v2, vs2, d2, ds2, p2, q2, rfl, rfl, rfl, h2, r2⟩ := trodAll_cons r1
  obtain ⟨rfl, rfl, rfl⟩ := trodAll_nil r2
  obtain rfl : args = #[v0, v1, v2] := by cases args; simp_all
  obtain ⟨rfl, rfl⟩ := trodVars_none hV
  have hlt1 : ∀ x ∈ p1, x.block < W.heap.size := fun x hx => hW'.lt x (by simp [hx])
  obtain ⟨k0, rfl, lk0, bk0⟩ := open_a32 (hval 0 24 v0 rfl rfl) h0
  obtain ⟨A1, m1, s1, g1, l1, rfl, hs1, hg1⟩ := open_sl (hval 1 22 v1 rfl rfl) h1 hlt1
  have hn1 : m1 ≤ 140737488351232 := by
    rcases open_len h1 with e | ⟨el, sp, rfl, hle⟩
    · omega
    · have := sized_slice hsz (j := 1) (t := 22) (e := 5) rfl rfl Try.underlying22
      rw [Try.bytes5] at this
      simp only [reachBytes] at this
      omega
  obtain ⟨a2, rfl, rfl, rfl, w2⟩ := open_int Try.underlying3 (hval 2 3 v2 rfl rfl) h2
  clear hA0 hval0
  refine (law_expand_any k0 g1 A1 m1 s1 l1 a2 W lk0 bk0 hs1 hn1 hg1 (wf_i64 w2)).mono fun e W' ⟨he, hg⟩ => ?_
  subst he
  exact ⟨_, rfl, post_true rfl hW' (by kernel_rfl) rfl rfl hg⟩

theorem kdfExpand_holds : Rows.KdfExpandSaid :=
  OpenClaim.holds_of_wide 5 Try.f5 rfl rfl rfl rfl rfl rfl rfl ⟨rfl, rfl, rfl, rfl, rfl⟩ rfl rfl rfl rfl rfl (by kernel_rfl) Try.func5 (by kernel_rfl)
    (of_decide_eq_true (by kernel_rfl)) (by unfold Func.isWrapper; first | (rw [if_pos (by decide +kernel)]; kernel_rfl) | (rw [if_neg (by decide +kernel)]; exact ⟨rfl, rfl⟩))
    (fun os started H enc _ => law_expand_lifted os started H enc)
#print axioms kdfExpand_holds
end Go.Proofs.Ytebknlhooijkcaa
