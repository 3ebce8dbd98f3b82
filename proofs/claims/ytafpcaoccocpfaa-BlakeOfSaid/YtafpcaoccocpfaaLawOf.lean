/- BlakeOf answers true for all sizes, keys and bytes, and its arguments read behind the call as they did: the given statement BlakeOfSaid. No condition. -/
import Derived.Test.YtafpcaoccocpfaaZl
namespace Go.Proofs.Ytafpcaoccocpfaa
set_option linter.unusedSimpArgs false
set_option linter.unusedVariables false
open Go.ChangeShapes Go.WideShapes Go.ChangeAt Go.RowKit

set_option maxRecDepth 100000 in
set_option maxHeartbeats 16000000 in
theorem law_of_any (a0 : Int) (g1 : Nat) (A1 : Option Addr) (m1 s1 : Nat) (l1 : List Int) (g2 : Nat) (A2 : Option Addr) (m2 s2 : Nat) (l2 : List Int) (w : World) (ha : -9223372036854775808 ≤ a0 ∧ a0 ≤ 9223372036854775807) (hs1 : Sl w g1 (.slice A1 m1 s1) l1) (hn1 : m1 ≤ 140737488351232) (hg1 : l1 ≠ [] → g1 < w.heap.size) (hs2 : Sl w g2 (.slice A2 m2 s2) l2) (hn2 : m2 ≤ 140737488351232) (hg2 : l2 ≠ [] → g2 < w.heap.size) :
    Calls Try.prog 3 #[.int .i64 a0, .slice A1 m1 s1, .slice A2 m2 s2] w fun e w' => e = .returned (.bool true) ∧ Fr (fun _ => False) w w' := by
  obtain ⟨V, hV⟩ : ∃ V, V = (ofv a0 l1 l2).1 := ⟨_, rfl⟩
  obtain ⟨er, hE⟩ : ∃ x, x = (ofv a0 l1 l2).2 := ⟨_, rfl⟩
  have L1 := Lib.hid hs1.len
  have L2 := Lib.hid hs2.len
  have HM : Hid (m1 ≤ 140737488351232 ∧ m2 ≤ 140737488351232) := ⟨hn1, hn2⟩
  have C1 : ∀ W g3 A3 m3 c3 g4 A4 m4 c4, Sl W g3 (.slice A3 m3 c3) l1 → Sl W g4 (.slice A4 m4 c4) l2 → Calls Try.prog 12 #[.int .i64 a0, .slice A3 m3 c3, .slice A4 m4 c4] W fun e w' => ∃ v, e = .returned (.tuple #[v, .int .i64 er]) ∧ Nw W w' v V ∧ Fr (fun _ => False) W w' := fun W g3 A3 m3 c3 g4 A4 m4 c4 h3 h4 => by
    have e3 := h3.len
    have e4 := h4.len
    rw [hV, hE]
    exact of_is a0 g3 A3 m3 c3 l1 g4 A4 m4 c4 l2 W ha h3 h4 (by have := L1.out; omega) (by have := L2.out; omega)
  have C2 : ∀ W, Fr (fun _ => False) w W → Calls Try.prog 13 #[.int .i64 a0, .slice A1 m1 s1, .slice A2 m2 s2] W fun e w' => ∃ v, e = .returned (.tuple #[v, .int .i64 er]) ∧ Nw W w' v V ∧ Fr (fun _ => False) W w' := fun W hf => by
    rw [hV, hE]
    exact rof_is a0 g1 A1 m1 s1 l1 g2 A2 m2 s2 l2 W (hs1.fr hf (fun _ x => x)) (hs2.fr hf (fun _ x => x)) hn2
  have H1 := Lib.hid hs1
  have H2 := Lib.hid hs2
  clear hV hE ha hs1 hs2 hn1 hn2 hg1 hg2
  go_enter Try.func3, Try.ntmps3
  have tk1 : True := trivial
  go_upto_region 2 with (first
    | (go_at_call 11; clear tk1; refine (copy_new w w H1.out (by have := HM.out; omega) (Fr.refl _ _)).mono ?_; rintro e w1 ⟨v1, rfl, hn, hf⟩; have P1 := Lib.hid hn; have F1 := Lib.hid hf; clear hn hf)
    | (go_at_call 11; refine (copy_new w w1 (H2.out.fr F1.out (fun _ x => x)) (by have := HM.out; omega) F1.out).mono ?_; rintro e w2 ⟨v2, rfl, hn, hf⟩; have P2 := Lib.hid hn; have G2 := Lib.hid hf; clear hn hf))
  replace P1 := Lib.hid (P1.out.fr G2.out (fun _ x => x))
  have F2 := Lib.hid (F1.out.trans G2.out)
  obtain ⟨Ax, nx, cx, rfl, hnx⟩ := P1.out.1.shape
  obtain ⟨Ay, ny, cy, rfl, hny⟩ := P2.out.1.shape
  clear hnx hny F1 G2
  go_upto_region 3 with (go_at_call 12; refine (C1 _ _ _ _ _ _ _ _ _ P1.out.1.sl P2.out.1.sl).mono ?_; rintro e w3 ⟨v3, rfl, hn, hf⟩; have N3 := Lib.hid hn; have G3 := Lib.hid hf; clear hn hf)
  have F3 := Lib.hid (F2.out.trans G3.out)
  go_upto_region 4 with (go_at_call 13; refine (C2 _ F3.out).mono ?_; rintro e w4 ⟨v4, rfl, hn, hf⟩; have N4 := Lib.hid hn; have G4 := Lib.hid hf; clear hn hf)
  have F4 := Lib.hid (F3.out.trans G4.out)
  obtain ⟨Aa, na, ca, rfl, hna⟩ := N3.out.1.shape
  obtain ⟨Ab, nb, cb, rfl, hnb⟩ := N4.out.1.shape
  have Q1 := Lib.hid (P1.out.fr (G3.out.trans G4.out) (fun _ x => x))
  have Q2 := Lib.hid (P2.out.fr (G3.out.trans G4.out) (fun _ x => x))
  have Q3 := Lib.hid (N3.out.fr G4.out (fun _ x => x))
  have K1 : Hid (∀ k, (Value.slice Ax nx cx).ownBlock = some k → k < w2.heap.size) := P1.out.1.lt
  have K2 : Hid (∀ k, (Value.slice Ay ny cy).ownBlock = some k → k < w2.heap.size) := P2.out.1.lt
  have K3 : Hid (∀ k, (Value.slice Aa na ca).ownBlock = some k → k < w3.heap.size) := N3.out.1.lt
  have K4 : Hid (∀ k, (Value.slice Ab nb cb).ownBlock = some k → k < w4.heap.size) := N4.out.1.lt
  have Z24 : Hid (w.heap.size ≤ w2.heap.size ∧ w2.heap.size ≤ w3.heap.size ∧ w3.heap.size ≤ w4.heap.size) := ⟨F2.out.size, G3.out.size, G4.out.size⟩
  clear hna hnb P1 P2 N3 C2 G3 G4 F2 F3
  have SE1 := Lib.hid Q3.out.1.sl
  have SE2 := Lib.hid N4.out.1.sl
  have tk1 : True := trivial
  have tk2 : True := trivial
  go_upto_region 6 with (first
    | (go_at_call 14; clear tk1; refine (eq_yes _ SE1.out SE2.out rfl).mono ?_; rintro e w5 ⟨rfl, hf⟩; have G5 := Lib.hid hf; clear hf)
    | (go_at_call 14; clear tk2; refine (eq_yes _ (Q1.out.fr G5.out (fun _ x => x)).1.sl (H1.out.fr (F4.out.trans G5.out) (fun _ x => x)) rfl).mono ?_; rintro e w6 ⟨rfl, hf⟩; have G6 := Lib.hid (G5.out.trans hf); clear hf)
    | (go_at_call 14; refine (eq_yes _ (Q2.out.fr G6.out (fun _ x => x)).1.sl (H2.out.fr (F4.out.trans G6.out) (fun _ x => x)) rfl).mono ?_; rintro e w7 ⟨rfl, hf⟩; have G7 := Lib.hid (G6.out.trans hf); clear hf))
  try simp only [ne_eq, not_true_eq_false, decide_false, decide_true, Bool.not_true]
  replace Q1 := Lib.hid (Q1.out.fr G7.out (fun _ x => x))
  replace Q2 := Lib.hid (Q2.out.fr G7.out (fun _ x => x))
  replace Q3 := Lib.hid (Q3.out.fr G7.out (fun _ x => x))
  have Q4 := Lib.hid (N4.out.fr G7.out (fun _ x => x))
  have F7 := Lib.hid (F4.out.trans G7.out)
  have Z7 : Hid (w4.heap.size ≤ w7.heap.size) := G7.out.size
  clear SE1 SE2 G5 G6 G7 N4 F4
  have hna : V.length = na := Q3.out.1.len
  have HN : Hid (na ≤ 9223372036854775807) := by
    obtain ⟨_, A', c', e, h1, h2, _⟩ := Q3.out.1.sl
    injection e with _ e2 e3
    have : maxLen = 9223372036854775807 := rfl
    show _ ≤ _
    omega
  obtain ⟨ga, C0, hga1, hga2⟩ : ∃ ga, Hid (Cl w7 ga Aa 0 na V) ∧ (ga < w3.heap.size ∨ w7.heap.size ≤ ga) ∧ w2.heap.size ≤ ga := by
    have hz := Z24.out
    have hz7 := Z7.out
    by_cases h0 : na = 0
    · exact ⟨w7.heap.size, fun h => absurd h (by omega), .inr (Nat.le_refl _), by omega⟩
    · obtain ⟨g, hg, hcl, hob, _⟩ := Ow.cells Q3.out.1 w2.heap.size Q3.out.2 (by omega)
      obtain ⟨h1, h2, h3⟩ := hcl (by omega)
      refine ⟨g, fun h0 => ⟨h1, h2, fun i _ hi => h3 i hi⟩, .inl (K3.out g ?_), hg⟩
      rw [h2]
      rfl
  have HG : Hid ((ga < w3.heap.size ∨ w7.heap.size ≤ ga) ∧ w2.heap.size ≤ ga) := ⟨hga1, hga2⟩
  clear hga1 hga2 Q3 hna
  go_upto_region 7 with (fail)
  go_loopw [13] (fun u13 wr => ∃ i : Nat, u13 = .int .i64 i ∧ i ≤ na ∧ Hid (Cl wr ga Aa i na V) ∧ Hid (Fr (fun k => k = ga) w7 wr)) (fun u13 _ => na - (intOf u13).toNat)
  case atStart => exact ⟨0, rfl, by omega, C0, Lib.hid (Fr.refl _ _)⟩
  case round =>
  clear C0
  obtain ⟨i, rfl, hi, hC, hG⟩ := hrel
  by_cases hil : i < na
  · obtain ⟨h1, rfl, h3⟩ := hC.out (by omega)
    have c1 := (h3 i (Nat.le_refl _) hil).1
    have f1 := (h3 i (Nat.le_refl _) hil).2
    obtain ⟨x, hx⟩ : ∃ x, x = V.getD i 0 := ⟨_, rfl⟩
    rw [← hx] at c1
    obtain ⟨y, hy⟩ : ∃ y, IntKind.u8.wrap (x + 1) = y := ⟨_, rfl⟩
    have j1 : ((i : Int)).toNat = i := by omega
    have j2 : 0 ≤ (i : Int) := by omega
    have j3 : (i : Int) < na := by omega
    have j9 : IntKind.i64.wrap ((i : Int) + 1) = ((i + 1 : Nat) : Int) := by have := HN.out; rw [IntKind.wrap_i64]; omega
    have C2 := Lib.hid (hC.out.set (.int .u8 y))
    clear h3 hx hC h1
    go_wp2
    go_roundw
    case rel => exact ⟨i + 1, by first | rfl | go_num, by omega, C2, hG.out.setCell _ (.inl rfl)⟩
    case measure => simp [intOf]; omega
  obtain rfl : i = na := by omega
  have FW : Hid (Fr (fun _ => False) w wr) := F7.out.trans' hG.out (fun k hk e => by have := Z24.out; have := HG.out; omega)
  have SX := Lib.hid (Q1.out.1.keep hG.out (fun k hk e => by have := K1.out k hk; have := HG.out; omega)).sl
  have SY := Lib.hid (Q2.out.1.keep hG.out (fun k hk e => by have := K2.out k hk; have := HG.out; omega)).sl
  have SV := Lib.hid (Q4.out.1.keep hG.out (fun k hk e => by have := Q4.out.2 k hk; have := K4.out k hk; have := HG.out; have := Z7.out; omega)).sl
  clear Q1 Q2 Q4 F7 hG hC
  go_upto_region 11 with (go_at_call 12; refine (C1 _ _ _ _ _ _ _ _ _ SX.out SY.out).mono ?_; rintro e w8 ⟨v8, rfl, hn, hf⟩; have N8 := Lib.hid hn; have G8 := Lib.hid hf; clear hn hf)
  obtain ⟨Az, nz, cz, rfl, hnz⟩ := N8.out.1.shape
  have S8 := Lib.hid N8.out.1.sl
  have S9 := Lib.hid (SV.out.fr G8.out (fun _ x => x))
  have F8 := Lib.hid (FW.out.trans G8.out)
  clear hnz N8 SV SX SY FW G8
  go_wp2_with (first
    | (go_at_call 14; refine (eq_yes _ S8.out S9.out rfl).mono ?_; rintro e w9 ⟨rfl, hf⟩; have F9 := Lib.hid (F8.out.trans hf); clear hf)
    | (go_at_call 15; refine (works_is _).mono ?_; rintro e w10 ⟨rfl, hf⟩; have F10 := Lib.hid (F9.out.trans hf); clear hf))
  go_ret
  exact ⟨rfl, F10.out⟩

set_option maxRecDepth 100000 in
theorem law_of_lifted (os : Os) (started : os.Started) (H : Type) (enc : TypeId × Value → H) :
    ReturnsInHanded {} Try.checked os 3 .any (Rows.blakeOfSpec.pre6 enc Try.prog Try.f3 Rows.blakeOfRow.domain false) (Rows.blakeOfSpec.post enc Try.prog Try.f3 false true false false) := by
  refine returnsInHanded_of_change_sized (C := Try.checked) own started (by kernel_rfl) Try.func3
    (ChangeSpec.witness6 (enc := enc) (C := Try.checked) false ⟨#[], #[.int .i64 0, .slice none 0 0, .slice none 0 0], []⟩ 8 (by kernel_rfl) (by kernel_rfl) (by kernel_rfl) (by kernel_rfl)) ?_
  intro W base args ds gs before hval0 hW hcnd hsz0 _
  have hsz : (DataW.weightsEach Try.prog (Try.f3.params.toList ++ Rows.blakeOfSpec.plain.varTypes Try.prog) (ds ++ gs)).all (· ≤ reachBytes) = true := hsz0
  clear hsz0
  have hval : ∀ (j : Nat) t v, Try.f3.params[j]? = some t → args[j]? = some v → Value.okWide Try.prog W .any base t v := hval0
  have hW' := hW
  obtain ⟨p, q, hA0, hV, rfl, hfz, hnd⟩ := hW
  have hA : DataW.TrodAll enc Try.prog W 0 (fun _ => true) true Try.f3.params.toList args.toList ds p := hA0
  rw [Try.params3] at hA hval hsz
  obtain ⟨v0, vs0, d0, ds0, p0, q0, hargs, rfl, rfl, h0, r0⟩ := trodAll_cons hA
  obtain ⟨v1, vs1, d1, ds1, p1, q1, rfl, rfl, rfl, h1, r1⟩ := trodAll_cons r0
  obtain ⟨v2, vs2, d2, ds2, p2, q2, rfl, rfl, rfl, h2, r2⟩ := trodAll_cons r1
  obtain ⟨rfl, rfl, rfl⟩ := trodAll_nil r2
  obtain rfl : args = #[v0, v1, v2] := by cases args; simp_all
  obtain ⟨rfl, rfl⟩ := trodVars_none hV
  have hlt1 : ∀ x ∈ p1, x.block < W.heap.size := fun x hx => hW'.lt x (by simp [hx])
  have hlt2 : ∀ x ∈ p2, x.block < W.heap.size := fun x hx => hW'.lt x (by simp [hx])
  obtain ⟨a0, rfl, rfl, rfl, w0⟩ := open_int Try.underlying3 (hval 0 3 v0 rfl rfl) h0
  obtain ⟨A1, m1, s1, g1, l1, rfl, hs1, hg1⟩ := open_sl (hval 1 22 v1 rfl rfl) h1 hlt1
  have hn1 : m1 ≤ 140737488351232 := by
    rcases open_len h1 with e | ⟨el, sp, rfl, hle⟩
    · omega
    · have := sized_slice hsz (j := 1) (t := 22) (e := 5) rfl rfl Try.underlying22
      rw [Try.bytes5] at this
      simp only [reachBytes] at this
      omega
  obtain ⟨A2, m2, s2, g2, l2, rfl, hs2, hg2⟩ := open_sl (hval 2 22 v2 rfl rfl) h2 hlt2
  have hn2 : m2 ≤ 140737488351232 := by
    rcases open_len h2 with e | ⟨el, sp, rfl, hle⟩
    · omega
    · have := sized_slice hsz (j := 2) (t := 22) (e := 5) rfl rfl Try.underlying22
      rw [Try.bytes5] at this
      simp only [reachBytes] at this
      omega
  clear hA0 hval0
  refine (law_of_any a0 g1 A1 m1 s1 l1 g2 A2 m2 s2 l2 W (wf_i64 w0) hs1 hn1 hg1 hs2 hn2 hg2).mono fun e W' ⟨he, hg⟩ => ?_
  subst he
  exact ⟨_, rfl, post_true rfl hW' (by kernel_rfl) rfl rfl hg⟩

theorem blakeOf_holds : Rows.BlakeOfSaid :=
  OpenClaim.holds_of_wide 3 Try.f3 rfl rfl rfl rfl rfl rfl rfl ⟨rfl, rfl, rfl, rfl, rfl⟩ rfl rfl rfl rfl rfl (by kernel_rfl) Try.func3 (by kernel_rfl)
    (of_decide_eq_true (by kernel_rfl)) (by unfold Func.isWrapper; first | (rw [if_pos (by decide +kernel)]; kernel_rfl) | (rw [if_neg (by decide +kernel)]; exact ⟨rfl, rfl⟩))
    (fun os started H enc _ => law_of_lifted os started H enc)
#print axioms blakeOf_holds
end Go.Proofs.Ytafpcaoccocpfaa
