/- BlakeSplit answers true for all sizes, keys, places and bytes: the given statement BlakeSplitSaid. No condition. -/
import Derived.Test.YtafpcaoccocpfaaZx
import Derived.Lib.SmallJoins
namespace Go.Proofs.Ytafpcaoccocpfaa
set_option linter.unusedSimpArgs false
set_option linter.unusedVariables false
open Go.ChangeShapes Go.WideShapes Go.ChangeAt Go.RowKit

theorem sized_field {H : Type} {P : Program} {ts : List TypeId} {ds : List (DataW H)} (h : (DataW.weightsEach P ts ds).all (· ≤ reachBytes) = true) {j : Nat} {t s e : TypeId} {fs : Array Field} {parts elems spare : List (DataW H)} {m : Nat}
    (ht : ts[j]? = some t) (hd : ds[j]? = some (.agg parts)) (hu : P.underlying t = some (.struct fs)) (hf : (fs.toList.map (·.type))[m]? = some s) (hp : parts[m]? = some (.slice elems spare)) (hs : P.underlying s = some (.slice e)) :
    (elems.length + spare.length) * P.bytesOf e ≤ reachBytes := by
  have h2 := DataW.weights_mem_each (P := P) hf hp ((elems.length + spare.length) * P.bytesOf e) (by simp [DataW.weights, hs])
  have := List.all_eq_true.1 h _ (DataW.weights_mem_each ht hd ((elems.length + spare.length) * P.bytesOf e) (by simp only [DataW.weights, hu]; exact h2))
  simpa using this
/-- Cells that read as a slice of bytes. -/
theorem open_sl_cs {H : Type} {enc : TypeId × Value → H} {W : World} {cs : List Value} {fuel : Nat} {x : DataW H × List MemPlace} (hf : DataW.trod enc Try.prog W 0 (fun _ => true) true fuel 22 cs = some x) (hlt : ∀ y ∈ x.2, y.block < W.heap.size) :
    ∃ A n c g l, cs = [.slice A n c] ∧ Sl W g (.slice A n c) l ∧ (n = 0 ∨ ∃ el sp, x.1 = .slice el sp ∧ n ≤ el.length + sp.length) := by
  obtain ⟨d, ps⟩ := x
  rcases open_ints Try.underlying22 Try.underlying5 Try.cells5 hf with ⟨hcs, hx⟩ | ⟨a, n, c, zs, hcs, _, hl, hm, hz, hx, hcell, hwz⟩
  · exact ⟨none, 0, 0, 0, [], by simpa using hcs, Sl.nil _ _, .inl rfl⟩
  · simp only [Prod.mk.injEq] at hx
    obtain ⟨rfl, rfl⟩ := hx
    simp only [if_true] at hz
    have hb : Bys (zs.take n) := fun b hb => wf_u8 (hwz b (List.mem_of_mem_take hb))
    have hlen : (zs.take n).length = n := by rw [List.length_take]; omega
    by_cases h0 : n = 0
    · subst h0
      exact ⟨some a, 0, c, 0, [], by simpa using hcs, ⟨Bys.nil, _, c, rfl, by simp, hm, fun h => absurd rfl h⟩, .inl rfl⟩
    · obtain ⟨b, off, spot⟩ := a
      have hspot : spot = none := by simpa [Addr.add] using World.cell?_spot (hcell 0 (by omega))
      subst hspot
      have hbW : b < W.heap.size := hlt (.cell b off) (MemPlace.mem_row.2 ⟨0, by omega, by simp⟩)
      refine ⟨_, n, c, b, zs.take n, by simpa using hcs, ⟨hb, _, c, by rw [hlen], by omega, hm, fun _ => ⟨off, rfl, hbW, fun j x hj => ?_⟩⟩, ?_⟩
      · have hjn : j < n := by
          rcases Nat.lt_or_ge j n with h | h
          · exact h
          · rw [List.getElem?_eq_none (by omega)] at hj; cases hj
        have := hcell j (by omega)
        rw [Addr_add_none] at this
        rw [this]
        rw [List.getElem?_take, if_pos hjn] at hj
        rw [List.getD_eq_getElem?_getD, hj]
        rfl
      · refine .inr ⟨_, _, rfl, ?_⟩
        simp only [lits, List.length_map, List.length_take, List.length_drop]
        omega
theorem under_cut : ∃ f0 f1 f2 : Field, Try.prog.underlying 41 = some (.struct #[f0, f1, f2]) ∧ f0.type = 3 ∧ f1.type = 22 ∧ f2.type = 3 ∧ Go.Deep.oneCellFields Try.prog #[f0, f1, f2] = true :=
  ⟨_, _, _, Try.underlying41, rfl, rfl, rfl, by kernel_rfl⟩
theorem open_cut {H : Type} {enc : TypeId × Value → H} {W : World} {b0 : Nat} {r : Reach} {v : Value} {d : DataW H} {ps : List MemPlace}
    (hv : Value.okWide Try.prog W r b0 41 v) (h : DataW.Trod enc Try.prog W 0 (fun _ => true) true 41 v d ps) (hlt : ∀ y ∈ ps, y.block < W.heap.size) :
    ∃ (a : Int) (A : Option Addr) (m c g : Nat) (l : List Int) (b : Int) (x0 x1 x2 : DataW H), v = .agg #[.int .i64 a, .slice A m c, .int .i64 b] ∧ d = .agg [x0, x1, x2] ∧ (Lit.int .i64 a).wf = true ∧ Sl W g (.slice A m c) l ∧ (Lit.int .i64 b).wf = true ∧
      (m = 0 ∨ ∃ el sp, x1 = .slice el sp ∧ m ≤ el.length + sp.length) := by
  obtain ⟨f0, f1, f2, hu, t0, t1, t2, ho⟩ := under_cut
  have c3 : Try.prog.cellsOf 41 = 3 := by kernel_rfl
  obtain ⟨v0, v1, v2, y0, y1, y2, n, rfl, rfl, rfl, h0, h1, h2⟩ := Go.Joins.open_agg3 hu ho c3 hv h
  rw [t0] at h0
  rw [t1] at h1
  rw [t2] at h2
  obtain ⟨a, ea, xa, wa⟩ := DataW.trod_int Try.underlying3 h0
  obtain ⟨b, eb, xb, wb⟩ := DataW.trod_int Try.underlying3 h2
  obtain ⟨A, m, c, g, l, e2, s2, w2⟩ := open_sl_cs h1 (fun y hy => hlt y (by simp [hy]))
  injection ea with ea
  injection eb with eb
  injection e2 with e2
  subst ea eb e2
  exact ⟨a, A, m, c, g, l, b, _, _, _, rfl, rfl, wa, s2, wb, w2⟩
set_option maxRecDepth 100000 in
set_option maxHeartbeats 8000000 in
theorem law_split_any (a0 : Int) (g1 : Nat) (A1 : Option Addr) (m1 s1 : Nat) (l1 : List Int) (x0 : Int) (g2 : Nat) (A2 : Option Addr) (m2 s2 : Nat) (l2 : List Int) (w : World) (ha : -9223372036854775808 ≤ a0 ∧ a0 ≤ 9223372036854775807) (hs1 : Sl w g1 (.slice A1 m1 s1) l1) (hn1 : m1 ≤ 140737488351232) (hg1 : l1 ≠ [] → g1 < w.heap.size) (hx : -9223372036854775808 ≤ x0 ∧ x0 ≤ 9223372036854775807) (hs2 : Sl w g2 (.slice A2 m2 s2) l2) (hn2 : m2 ≤ 140737488351232) (hg2 : l2 ≠ [] → g2 < w.heap.size) :
    Calls Try.prog 6 #[.agg #[.int .i64 a0, .slice A1 m1 s1, .int .i64 x0], .slice A2 m2 s2] w fun e w' => e = .returned (.bool true) ∧ Fr (fun _ => False) w w' := by
  have CS : ∀ W, Fr (fun _ => False) w W → Calls Try.prog 21 #[.int .i64 a0, .slice A1 m1 s1, .slice A2 m2 s2, .int .i64 x0] W fun e w' => e = .returned (.bool true) ∧ Fr (fun _ => False) W w' := fun W hf =>
    split2_is a0 g1 A1 m1 s1 l1 g2 A2 m2 s2 l2 x0 W ha (hs1.fr hf (fun _ x => x)) hn1 (hs1.fr hf (fun _ x => x)).lt6 (hs2.fr hf (fun _ x => x)) hn2 (hs2.fr hf (fun _ x => x)).lt6 hx
  clear hs1 hs2 hn1 hn2 hg1 hg2 ha hx
  go_enter Try.func6, Try.ntmps6
  go_upto_region 1 with (fail)
  generalize hW : w.alloc (.cells #[.int .i64 a0, .slice A1 m1 s1, .int .i64 x0] 41) = W0
  have HW := Lib.hid (calm1a hW)
  clear hW
  have F0 : Hid (Fr (fun _ => False) w W0) := HW.out.2
  have c0 : W0.cell? ⟨w.heap.size, 0, none⟩ = some (.int .i64 a0) := cell_of_row _ _ _ _ _ _ HW.out.1
  have c1 : W0.cell? ⟨w.heap.size, 1, none⟩ = some (.slice A1 m1 s1) := cell_of_row _ _ _ _ _ _ HW.out.1
  have c2 : W0.cell? ⟨w.heap.size, 2, none⟩ = some (.int .i64 x0) := cell_of_row _ _ _ _ _ _ HW.out.1
  go_wp2_with (first
    | (go_at_call 15; refine (works_is _).mono ?_; rintro e w1 ⟨rfl, hf⟩; have G1 := Lib.hid hf; have F1 := Lib.hid (F0.out.trans hf); clear hf c0 c1 c2; have c0 : w1.cell? ⟨w.heap.size, 0, none⟩ = some (.int .i64 a0) := cell_of_row _ _ _ _ _ _ (Calm.at HW.out.1 G1.out); have c1 : w1.cell? ⟨w.heap.size, 1, none⟩ = some (.slice A1 m1 s1) := cell_of_row _ _ _ _ _ _ (Calm.at HW.out.1 G1.out); have c2 : w1.cell? ⟨w.heap.size, 2, none⟩ = some (.int .i64 x0) := cell_of_row _ _ _ _ _ _ (Calm.at HW.out.1 G1.out))
    | (go_at_call 21; refine (CS _ F1.out).mono ?_; rintro e w2 ⟨rfl, hf⟩; have F2 := Lib.hid (F1.out.trans hf); clear hf))
  go_ret
  exact ⟨rfl, F2.out⟩

set_option maxRecDepth 100000 in
theorem law_split_lifted (os : Os) (started : os.Started) (H : Type) (enc : TypeId × Value → H) :
    ReturnsInHanded {} Try.checked os 6 .any (Rows.blakeSplitSpec.pre6 enc Try.prog Try.f6 Rows.blakeSplitRow.domain false) (Rows.blakeSplitSpec.post enc Try.prog Try.f6 false true false false) := by
  refine returnsInHanded_of_change_sized (C := Try.checked) own started (by kernel_rfl) Try.func6
    (ChangeSpec.witness6 (enc := enc) (C := Try.checked) false ⟨#[], #[.agg #[.int .i64 0, .slice none 0 0, .int .i64 0], .slice none 0 0], []⟩ 8 (by kernel_rfl) (by kernel_rfl) (by kernel_rfl) (by kernel_rfl)) ?_
  intro W base args ds gs before hval0 hW hcnd hsz0 _
  have hsz : (DataW.weightsEach Try.prog (Try.f6.params.toList ++ Rows.blakeSplitSpec.plain.varTypes Try.prog) (ds ++ gs)).all (· ≤ reachBytes) = true := hsz0
  clear hsz0
  have hval : ∀ (j : Nat) t v, Try.f6.params[j]? = some t → args[j]? = some v → Value.okWide Try.prog W .any base t v := hval0
  have hW' := hW
  obtain ⟨p, q, hA0, hV, rfl, hfz, hnd⟩ := hW
  have hA : DataW.TrodAll enc Try.prog W 0 (fun _ => true) true Try.f6.params.toList args.toList ds p := hA0
  rw [Try.params6] at hA hval hsz
  obtain ⟨v0, vs0, d0, ds0, p0, q0, hargs, rfl, rfl, h0, r0⟩ := trodAll_cons hA
  obtain ⟨v1, vs1, d1, ds1, p1, q1, rfl, rfl, rfl, h1, r1⟩ := trodAll_cons r0
  obtain ⟨rfl, rfl, rfl⟩ := trodAll_nil r1
  obtain rfl : args = #[v0, v1] := by cases args; simp_all
  obtain ⟨rfl, rfl⟩ := trodVars_none hV
  have hlt0 : ∀ x ∈ p0, x.block < W.heap.size := fun x hx => hW'.lt x (by simp [hx])
  have hlt1 : ∀ x ∈ p1, x.block < W.heap.size := fun x hx => hW'.lt x (by simp [hx])
  obtain ⟨a0, A1, m1, s1, g1, l1, x0, z0, z1, z2, rfl, rfl, wa, hs1, wb, y1⟩ := open_cut (hval 0 41 v0 rfl rfl) h0 hlt0
  have hn1 : m1 ≤ 140737488351232 := by
    rcases y1 with e | ⟨el, sp, rfl, hle⟩
    · omega
    · obtain ⟨f0, f1, f2, hu, t0, t1, t2, _⟩ := under_cut
      have := sized_field hsz (j := 0) (m := 1) (s := 22) (e := 5) rfl rfl hu (by simp [t0, t1, t2]) rfl Try.underlying22
      rw [Try.bytes5] at this
      simp only [reachBytes] at this
      omega
  obtain ⟨A2, m2, s2, g2, l2, rfl, hs2, hg2⟩ := open_sl (hval 1 22 v1 rfl rfl) h1 hlt1
  have hn2 : m2 ≤ 140737488351232 := by
    rcases open_len h1 with e | ⟨el, sp, rfl, hle⟩
    · omega
    · have := sized_slice hsz (j := 1) (t := 22) (e := 5) rfl rfl Try.underlying22
      rw [Try.bytes5] at this
      simp only [reachBytes] at this
      omega
  clear hA0 hval0
  refine (law_split_any a0 g1 A1 m1 s1 l1 x0 g2 A2 m2 s2 l2 W (wf_i64 wa) hs1 hn1 hs1.lt6 (wf_i64 wb) hs2 hn2 hg2).mono fun e W' ⟨he, hg⟩ => ?_
  subst he
  exact ⟨_, rfl, post_true rfl hW' (by kernel_rfl) rfl rfl hg⟩

theorem blakeSplit_holds : Rows.BlakeSplitSaid :=
  OpenClaim.holds_of_wide 6 Try.f6 rfl rfl rfl rfl rfl rfl rfl ⟨rfl, rfl, rfl, rfl, rfl⟩ rfl rfl rfl rfl rfl (by kernel_rfl) Try.func6 (by kernel_rfl)
    (of_decide_eq_true (by kernel_rfl)) (by unfold Func.isWrapper; first | (rw [if_pos (by decide +kernel)]; kernel_rfl) | (rw [if_neg (by decide +kernel)]; exact ⟨rfl, rfl⟩))
    (fun os started H enc _ => law_split_lifted os started H enc)
#print axioms blakeSplit_holds
end Go.Proofs.Ytafpcaoccocpfaa
