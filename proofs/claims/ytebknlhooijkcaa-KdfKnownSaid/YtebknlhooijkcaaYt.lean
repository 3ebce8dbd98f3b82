/- The program's tag of pieces under a key: contract. Conditions: slices that lie in memory, fewer than 2^50 bytes. -/
import Derived.Test.YtebknlhooijkcaaYd
namespace Go.Proofs.Ytebknlhooijkcaa
set_option linter.unusedSimpArgs false
set_option linter.unusedVariables false
open Go.ChangeShapes Go.WideShapes Go.ChangeAt Go.RowKit


theorem info_sl : (Try.prog.info? 22).map (fun i => (i.zero, i.size)) = some (some (.slice none 0 0), 1) := by kernel_rfl
/-- A slice of slices is built. -/
theorem run_buildS {o : Oper} {a : Act} (n : Nat) (parts : Array (Nat × Operand)) (ho : o.op = .buildSlice 47 n parts) (cells : Array Value) (h0 : 0 < n) (h1 : n ≤ 1000)
    (hf : Instr.fill (fun i => some (i * 1, 1)) ((Array.range (n * 1)).map (#[Value.slice none 0 0][· % 1]!)) (parts.map fun (i, x) => (i, a.eval x)).toList = some cells) (w : World) :
    (execOp a.eval o).run Try.prog w = .ok (.value (.slice (some ⟨w.heap.size, 0, none⟩) n n)) (w.alloc (.cells cells 22)) := by
  have hi := info_sl
  cases hq : Try.prog.info? 22 with
  | none => simp [hq] at hi
  | some ie =>
    simp only [hq, Option.map_some, Option.some.injEq, Prod.mk.injEq] at hi
    obtain ⟨hz, hs⟩ := hi
    have h := run_buildSlice (P := Try.prog) w 47 22 n (parts.map fun (i, x) => (i, a.eval x)) cells ie (.slice none 0 0) (by kernel_rfl) hq hz (by rw [hs]; omega) (by rw [hs]; omega) (by rw [hs]; exact hf)
    unfold execOp
    simp only [ho, Sem.run_bind, h, Result.andThen_ok, Sem.run_pure]
theorem run_buildS1 {o : Oper} {a : Act} (x : Operand) (ho : o.op = .buildSlice 47 1 #[(0, x)]) (A : Option Addr) (m c : Nat) (hx : a.eval x = .slice A m c) (w : World) :
    (execOp a.eval o).run Try.prog w = .ok (.value (.slice (some ⟨w.heap.size, 0, none⟩) 1 1)) (w.alloc (.cells #[.slice A m c] 22)) :=
  run_buildS 1 _ ho _ (by decide) (by decide) (by simp only [List.map_toArray, List.map_cons, List.map_nil, hx]; kernel_rfl) w
theorem run_buildS3 {o : Oper} {a : Act} (x y z : Operand) (ho : o.op = .buildSlice 47 3 #[(0, x), (1, y), (2, z)]) (A B C : Option Addr) (m c n d p q : Nat) (hx : a.eval x = .slice A m c) (hy : a.eval y = .slice B n d) (hz : a.eval z = .slice C p q) (w : World) :
    (execOp a.eval o).run Try.prog w = .ok (.value (.slice (some ⟨w.heap.size, 0, none⟩) 3 3)) (w.alloc (.cells #[.slice A m c, .slice B n d, .slice C p q] 22)) :=
  run_buildS 3 _ ho _ (by decide) (by decide) (by simp only [List.map_toArray, List.map_cons, List.map_nil, hx, hy, hz]; kernel_rfl) w
theorem cells_at {w : World} {g : Nat} {cs : Array Value} {t : TypeId} (h : w.heap[g]? = some (.cells cs t (0, 0))) (i : Nat) (v : Value) (hv : cs[i]? = some v) : w.cell? ⟨g, i, none⟩ = some v := (cell_of_row w g i _ _ _ h).trans hv
/-- One piece, in a row of its own. -/
theorem Pcs.one {w : World} {gp : Nat} {p : Pc} (h : w.heap[gp]? = some (.cells #[.slice p.A p.m p.c] 22 (0, 0))) (hs : Sl w p.g (.slice p.A p.m p.c) p.l) : Pcs w gp [p] := fun i q hq => by
  rcases i with _ | i
  · obtain rfl : p = q := by simpa using hq
    exact ⟨cells_at h 0 _ rfl, hs⟩
  · simp at hq
theorem Pcs.three {w : World} {gp : Nat} {p q r : Pc} (h : w.heap[gp]? = some (.cells #[.slice p.A p.m p.c, .slice q.A q.m q.c, .slice r.A r.m r.c] 22 (0, 0))) (hp : Sl w p.g (.slice p.A p.m p.c) p.l) (hq : Sl w q.g (.slice q.A q.m q.c) q.l) (hr : Sl w r.g (.slice r.A r.m r.c) r.l) : Pcs w gp [p, q, r] := fun i x hx => by
  rcases i with _ | _ | _ | i
  · obtain rfl : p = x := by simpa using hx
    exact ⟨cells_at h 0 _ rfl, hp⟩
  · obtain rfl : q = x := by simpa using hx
    exact ⟨cells_at h 1 _ rfl, hq⟩
  · obtain rfl : r = x := by simpa using hx
    exact ⟨cells_at h 2 _ rfl, hr⟩
  · simp at hx
theorem Pcs.far {w : World} {gp : Nat} {ps : List Pc} (h : Pcs w gp ps) (N : Nat) (hN : w.heap.size ≤ N) : ∃ qs : List Pc, qs.length = ps.length ∧ flat qs = flat ps ∧ Pcs w gp qs ∧ ∀ q ∈ qs, q.g ≠ N := by
  have hp : ∀ p : Pc, ∃ gc, (Sl w p.g (.slice p.A p.m p.c) p.l → gc ≠ N ∧ Sl w gc (.slice p.A p.m p.c) p.l) := fun p => by
    by_cases hs : Sl w p.g (.slice p.A p.m p.c) p.l
    · obtain ⟨gc, h1, h2⟩ := hs.off N hN
      exact ⟨gc, fun _ => ⟨h1, h2⟩⟩
    · exact ⟨0, fun x => absurd x hs⟩
  let ff : Pc → Pc := fun p => { p with g := (hp p).choose }
  refine ⟨ps.map ff, by simp, by simp [flat, ff, Function.comp_def], fun i q hq => ?_, fun q hq => ?_⟩
  · rw [List.getElem?_map] at hq
    obtain ⟨p, h1, rfl⟩ := Option.map_eq_some_iff.1 hq
    obtain ⟨h2, h3⟩ := h i p h1
    exact ⟨h2, ((hp p).choose_spec h3).2⟩
  · obtain ⟨p, h1, rfl⟩ := List.mem_map.1 hq
    obtain ⟨i, h2⟩ := List.mem_iff_getElem?.1 h1
    exact ((hp p).choose_spec (h i p h2).2).1

set_option maxRecDepth 100000 in
set_option maxHeartbeats 16000000 in
theorem tag_short (g1 : Nat) (A1 : Option Addr) (m1 c1 : Nat) (k : List Int) (gp n : Nat) (ps : List Pc) (w : World) (h1 : Sl w g1 (.slice A1 m1 c1) k) (hm1 : m1 ≤ 140737488353280) (hp : Pcs w gp ps) (hn : ps.length = n) (hnn : n ≤ 100) (ht : (flat ps).length ≤ 1125899906842000) (hgp : gp < w.heap.size) (hl : m1 ≤ 64) :
    Calls Try.prog 26 #[.slice A1 m1 c1, .slice (some ⟨gp, 0, none⟩) n n] w fun e w' => e = .returned (.agg (vs .u8 (hm k (flat ps)))) ∧ Fr (fun _ => False) w w' := by
  have lk := Lib.hid h1.len
  obtain ⟨R, hR⟩ : ∃ D, D = hm k (flat ps) := ⟨_, rfl⟩
  have lR : Hid (R.length = 32 ∧ Bys R) := by rw [hR]; exact ⟨hm_length _ _, hm_bys _ _⟩
  obtain ⟨K, hK⟩ : ∃ K, K = k := ⟨_, rfl⟩
  have HK : Hid (kb k = padz K) := by show _ = _; rw [kb, hK, lk.out, if_neg (by omega)]
  have lK : Hid (K.length ≤ 64 ∧ Bys K) := by rw [hK]; exact ⟨by rw [lk.out]; exact hl, h1.1⟩
  obtain ⟨PX, hPX⟩ : ∃ P, P = padz K := ⟨_, rfl⟩
  obtain ⟨I, hI⟩ : ∃ D, D = dig 32 [] (xb 54 PX ++ flat ps) := ⟨_, rfl⟩
  have lI : Hid (I.length = 32 ∧ Bys I) := by rw [hI]; exact ⟨dig_length (by decide) _ _, dig_bys _ _ _⟩
  have HR : Hid (dig 32 [] (xb 92 PX ++ I) = R) := by show _ = _; rw [hR, hm, HK.out, ← hPX, hI]
  obtain ⟨X1, hX1⟩ : ∃ X, X = xb 54 PX := ⟨_, rfl⟩
  obtain ⟨X2, hX2⟩ : ∃ X, X = xb 92 PX := ⟨_, rfl⟩
  have lP : PX.length = 64 := by rw [hPX]; exact padz_length lK.out.1
  have bP : Bys PX := by rw [hPX]; exact padz_bys lK.out.2
  have lX1 : Hid (X1.length = 64 ∧ Bys X1) := by rw [hX1]; exact ⟨by rw [xb_length, lP], xb_bys (by decide) bP⟩
  have lX2 : Hid (X2.length = 64 ∧ Bys X2) := by rw [hX2]; exact ⟨by rw [xb_length, lP], xb_bys (by decide) bP⟩
  have CC1 : ∀ W gk ga (A : Option Addr) (m c : Nat), W.cell? ⟨gk, 0, none⟩ = some (.slice A m c) → Sl W ga (.slice A m c) K → m ≤ 64 → Calls Try.prog 33 #[.int .u8 54, .pointer (some ⟨gk, 0, none⟩)] W fun e w' => ∃ g, W.heap.size ≤ g ∧ e = .returned (.slice (some ⟨g, 0, none⟩) 64 64) ∧ Ar w' g 5 .u8 X1 ∧ Fr (fun _ => False) W w' := fun W gk ga A m c a1 a2 a3 => by rw [hX1, hPX]; exact clo_is gk ga A m c K 54 W a1 a2 a3 (by decide)
  have CC2 : ∀ W gk ga (A : Option Addr) (m c : Nat), W.cell? ⟨gk, 0, none⟩ = some (.slice A m c) → Sl W ga (.slice A m c) K → m ≤ 64 → Calls Try.prog 33 #[.int .u8 92, .pointer (some ⟨gk, 0, none⟩)] W fun e w' => ∃ g, W.heap.size ≤ g ∧ e = .returned (.slice (some ⟨g, 0, none⟩) 64 64) ∧ Ar w' g 5 .u8 X2 ∧ Fr (fun _ => False) W w' := fun W gk ga A m c a1 a2 a3 => by rw [hX2, hPX]; exact clo_is gk ga A m c K 92 W a1 a2 a3 (by decide)
  have CD1 : ∀ W gx, Sl W gx (.slice (some ⟨gx, 0, none⟩) 64 64) X1 → Pcs W gp ps → gp < W.heap.size → Calls Try.prog 34 #[.slice (some ⟨gx, 0, none⟩) 64 64, .slice (some ⟨gp, 0, none⟩) n n] W fun e w' => e = .returned (.agg (vs .u8 I)) ∧ Fr (fun _ => False) W w' := fun W gx a1 a2 a3 => by rw [hI, ← hX1]; exact kdigest_is gx _ 64 64 X1 gp n ps W a1 a2 hn hnn (by rw [lX1.out.1]; omega) a3
  have CD2 : ∀ W gx gy gi, Sl W gx (.slice (some ⟨gx, 0, none⟩) 64 64) X2 → Pcs W gy [⟨gi, some ⟨gi, 0, none⟩, 32, 32, I⟩] → gy < W.heap.size → Calls Try.prog 34 #[.slice (some ⟨gx, 0, none⟩) 64 64, .slice (some ⟨gy, 0, none⟩) 1 1] W fun e w' => e = .returned (.agg (vs .u8 R)) ∧ Fr (fun _ => False) W w' := fun W gx gy gi a1 a2 a3 => by
    have e := kdigest_is gx _ 64 64 X2 gy 1 [⟨gi, some ⟨gi, 0, none⟩, 32, 32, I⟩] W a1 a2 rfl (by decide) (by simp [flat, lX2.out.1, lI.out.1]) a3
    rw [show flat [⟨gi, some ⟨gi, 0, none⟩, 32, 32, I⟩] = I by simp [flat], hX2, HR.out] at e
    exact e
  obtain ⟨Z, hZ⟩ : ∃ Z, Z = List.replicate 32 (0 : Int) := ⟨_, rfl⟩
  have hz : ∀ W : World, (zeroValue 24).run Try.prog W = .ok (.agg (vs .u8 Z)) W := fun W => by rw [hZ]; exact zeroA32 W
  have sI : Hid ((Try.prog.info? 24).map (·.size) = some (vs .u8 I).size) := by show _ = _; rw [szA32, vs_size, lI.out.1]
  have eI : Hid ((vs .u8 Z).size = (vs .u8 I).size) := by show _ = _; rw [vs_size, vs_size, lI.out.1, hZ]; rfl
  have sR : Hid ((Try.prog.info? 24).map (·.size) = some (vs .u8 R).size) := by show _ = _; rw [szA32, vs_size, lR.out.1]
  have eR : Hid ((vs .u8 Z).size = (vs .u8 R).size) := by show _ = _; rw [vs_size, vs_size, lR.out.1, hZ]; rfl
  have j1 : ¬ (64 : Int) < m1 := by omega
  have HL := Lib.hid hl
  have HP := Lib.hid hp
  have HG := Lib.hid hgp
  have H1 : Hid (Sl w g1 (.slice A1 m1 c1) K) := by show Sl _ _ _ _; rw [hK]; exact h1
  rw [← hR]
  clear hR hK hPX hI hX1 hX2 lP bP hZ h1 hm1 hl hp hn hnn ht hgp HK HR lk
  go_enter Try.func26, Try.ntmps26
  go_upto_region 1 with (fail)
  obtain ⟨bx, hbx⟩ : ∃ x, x = w.heap.size := ⟨_, rfl⟩
  obtain ⟨rs, hrs⟩ : ∃ x, x = w.heap.size + 1 := ⟨_, rfl⟩
  rw [← hrs, ← hbx]
  generalize hW : (w.alloc (.cells #[.slice A1 m1 c1] 22)).alloc (.cells (vs .u8 Z) 24) = W0
  have HW := calm2 hW
  rw [← hrs, ← hbx] at HW
  have BX0 : Hid (W0.heap[bx]? = some (.cells #[.slice A1 m1 c1] 22 (0, 0))) := HW.1
  have R0 : Hid (Ar W0 rs 24 .u8 Z) := HW.2.1
  have F0 : Hid (Fr (fun _ => False) w W0) := HW.2.2
  have NB : Hid (w.heap.size ≤ bx ∧ w.heap.size ≤ rs ∧ bx ≠ rs) := by show _ ∧ _ ∧ _; omega
  clear HW hW hbx hrs
  have cB := cells_at BX0.out 0 _ rfl
  go_upto_region 4 with (fail)
  clear cB
  have BX4 : Hid (W0.cell? ⟨bx, 0, none⟩ = some (.slice A1 m1 c1)) := cells_at BX0.out 0 _ rfl
  obtain ⟨g1, hg1, hs1⟩ := H1.out.off rs NB.out.2.1
  have NK : Hid (g1 ≠ rs) := hg1
  have S4 := Lib.hid (hs1.fr F0.out (fun _ x => x))
  have R4 := Lib.hid R0.out
  have F4 := Lib.hid F0.out
  have ML : Hid (m1 ≤ 64) := HL.out
  clear BX0 R0 F0 H1 hg1 hs1
  generalize W0 = W4 at *
  obtain ⟨A, m, c, gk, hAm⟩ : ∃ A m c gk, (A, m, c, gk) = (A1, m1, c1, g1) := ⟨_, _, _, _, rfl⟩
  simp only [Prod.mk.injEq] at hAm
  obtain ⟨rfl, rfl, rfl, rfl⟩ := hAm
  go_upto_region 5 with (fail)
  go_upto_region 6 with (first
    | (go_at_call 33; refine (CC1 _ bx gk A m c BX4.out S4.out ML.out).mono ?_; rintro e w5 ⟨gx, hgx, rfl, hax, hf⟩; have NX := Lib.hid hgx; have X5 := Lib.hid hax; have F5 := Lib.hid hf; clear hgx hax hf)
    | (go_at_call 34; refine (CD1 w5 gx (X5.out.slt lX1.out.2 lX1.out.1 (by decide)) (HP.out.fr (F4.out.trans F5.out) (fun x => x) (fun _ _ _ x => x)) (Nat.lt_of_lt_of_le HG.out (F4.out.trans F5.out).size)).mono ?_; rintro e w6 ⟨rfl, hf⟩; have F6 := Lib.hid (F5.out.trans hf); clear hf)
    | refine wpList_store_row rfl 24 (.tmp 7) (.tmp 18) rfl w6.heap.size (vs .u8 I) rfl rfl 24 (vs .u8 Z) (heap_alloc_new w6 (.cells (vs .u8 Z) 24)) sI.out eI.out (vs_all _ _) ?_)
  obtain ⟨q7, hq7⟩ : ∃ q, q = w6.heap.size := ⟨_, rfl⟩
  have FQ : Fr (fun _ => False) w6 ((w6.alloc (.cells (vs .u8 Z) 24)).setRow w6.heap.size (vs .u8 I)) := ((Fr.refl _ w6).alloc _).setRow _ (.inr (Nat.le_refl _))
  have T7 : Hid (Ar ((w6.alloc (.cells (vs .u8 Z) 24)).setRow w6.heap.size (vs .u8 I)) q7 24 .u8 I) := by rw [hq7]; exact (Ar.new w6 24 .u8 Z).row I
  have F7 := Lib.hid (F6.out.trans FQ)
  have BX7 := Lib.hid (cell_fr BX4.out F7.out (fun x => x))
  have S7 := Lib.hid (S4.out.fr F7.out (fun _ x => x))
  have R7 := Lib.hid (R4.out.fr F7.out (fun x => x))
  have H7 := Lib.hid (F4.out.trans F7.out)
  have NQ : Hid (rs < q7 ∧ bx < q7) := ⟨by rw [hq7]; exact Nat.lt_of_lt_of_le R4.out.lt F6.out.size, by rw [hq7]; exact Nat.lt_of_lt_of_le (World.block_lt_of_cell? _ _ BX4.out) F6.out.size⟩
  rw [← hq7] at T7 F7 BX7 S7 R7 H7 ⊢
  generalize (w6.alloc (.cells (vs .u8 Z) 24)).setRow q7 (vs .u8 I) = W7 at *
  clear FQ hq7 F6 F7 F5 X5 NX BX4 S4 R4 F4 CC1 CD1 hz HP
  try simp only [Act.put, List.setIfInBounds_toArray, List.set_cons_succ, List.set_cons_zero]
  have NR : Hid (rs < W7.heap.size) := R7.out.lt
  have NQ7 : Hid (q7 ≠ rs) := by have := NQ.out; show _ ≠ _; omega
  refine wp_region_inv2 (fun b a w' => ∃ ga : Nat, ∃ gb : Nat, Fr (fun j => j = rs) W7 w' ∧ (b 1 = true → W7.heap.size ≤ ga ∧ Ar w' ga 5 .u8 X2) ∧ (b 3 = true → W7.heap.size ≤ gb ∧ w'.heap[gb]? = some (.cells #[.slice (some ⟨q7, 0, none⟩) 32 32] 22 (0, 0))) ∧ Ar w' (rs) 24 .u8 (if b 5 = true then R else Z) ∧ a = ⟨#[Value.slice A m c, Value.slice (some { block := gp, off := 0 }) n n, Value.pointer (some { block := bx, off := 0 }), undef, Value.pointer (some { block := rs, off := 0 }), undef, Value.func (Fn.func 33) #[] #[Value.pointer (some { block := bx, off := 0 })], Value.pointer (some { block := q7, off := 0 }), Value.slice A m c, Value.int IntKind.i64 ↑m, Value.bool false, undef, undef, undef, Value.func (Fn.func 33) #[] #[Value.pointer (some { block := bx, off := 0 })], Value.func (Fn.func 33) #[] #[Value.pointer (some { block := bx, off := 0 })], Value.slice (some { block := gx, off := 0 }) 64 64, Value.slice (some { block := gp, off := 0 }) n n, Value.agg (vs IntKind.u8 I), if b 0 = true then Value.func (Fn.func 33) #[] #[Value.pointer (some { block := bx, off := 0 })] else undef, if b 1 = true then .slice (some ⟨ga, 0, none⟩) 64 64 else undef, if b 2 = true then .slice (some ⟨q7, 0, none⟩) 32 32 else undef, if b 3 = true then .slice (some ⟨gb, 0, none⟩) 1 1 else undef, if b 4 = true then .agg (vs .u8 R) else undef], []⟩) (by kernel_rfl) (by kernel_rfl) ?start6 ?step6 ?done6
  case start6 => exact ⟨0, 0, ⟨rfl, rfl, rfl, Nat.le_refl _, fun _ _ _ => rfl⟩, fun h => by simp at h, fun h => by simp at h, by simp only [Bool.false_eq_true, if_false]; exact R7.out, by simp⟩
  case step6 =>
    intro i5 o5 b a w1 ho hI hb hr hcl
    obtain ⟨ga, gb, hF, h1, h3, r5, rfl⟩ := hI
    match i5, ho with
    | 0, ho =>
      injection ho with ho
      subst ho
      refine wp_quiet_here (Value.func (Fn.func 33) #[] #[Value.pointer (some { block := bx, off := 0 })]) (BigFrame.quiet_move _ rfl rfl) (fun w2 hw2 => ?_)
      refine ⟨ga, gb, hF.trans hw2.any, ?_, ?_, ?_, ?_⟩
      · intro hx
        have hy := h1 (by simpa [upd] using hx)
        exact ⟨hy.1, hy.2.fr hw2 (fun x => x)⟩
      · intro hx
        have hy := h3 (by simpa [upd] using hx)
        exact ⟨hy.1, (hw2.block _ (heap_lt hy.2) (fun x => x)).trans hy.2⟩
      · have hh := r5.fr hw2 (fun x => x)
        simpa [upd] using hh
      · simp [upd, Act.put]
    | 1, ho =>
      injection ho with ho
      subst ho
      simp [Region.binds] at hr
      have d0 : b 0 = true := by simp only [hr]
      simp only [hr, if_true]
      refine wp_enter 33 #[.int .u8 92, .pointer (some ⟨bx, 0, none⟩)] (by kernel_rfl) ((CC2 w1 bx gk A m c (cell_fr BX7.out hF NB.out.2.2) (S7.out.fr hF (fun _ => NK.out)) ML.out).mono ?_)
      rintro e w2 ⟨gN, hgN, rfl, hx, hfN⟩
      have hfact : W7.heap.size ≤ gN ∧ Ar w2 gN 5 .u8 X2 := ⟨Nat.le_trans hF.size hgN, hx⟩
      refine ⟨gN, gb, hF.trans hfN.any, ?_, ?_, ?_, ?_⟩
      · exact fun _ => hfact
      · intro hx
        have hy := h3 (by simpa [upd] using hx)
        exact ⟨hy.1, (hfN.block _ (heap_lt hy.2) (fun x => x)).trans hy.2⟩
      · have hh := r5.fr hfN (fun x => x)
        simpa [upd] using hh
      · simp [upd, Act.put, hr]
    | 2, ho =>
      injection ho with ho
      subst ho
      refine wp_quiet_here (.slice (some ⟨q7, 0, none⟩) 32 32) ?_ (fun w2 hw2 => ?_)
      · simp only [Bool.false_eq_true] 
        go_big_quiet_op
        first
          | (simp [Act.put]; done)
          | exact ⟨_, fun _ _ => rfl, by simp [Act.put] <;> assumption⟩
      refine ⟨ga, gb, hF.trans hw2.any, ?_, ?_, ?_, ?_⟩
      · intro hx
        have hy := h1 (by simpa [upd] using hx)
        exact ⟨hy.1, hy.2.fr hw2 (fun x => x)⟩
      · intro hx
        have hy := h3 (by simpa [upd] using hx)
        exact ⟨hy.1, (hw2.block _ (heap_lt hy.2) (fun x => x)).trans hy.2⟩
      · have hh := r5.fr hw2 (fun x => x)
        simpa [upd] using hh
      · simp [upd, Act.put]
    | 3, ho =>
      injection ho with ho
      subst ho
      simp [Region.binds] at hr
      have d2 : b 2 = true := by simp only [hr]
      simp only [hr, if_true]
      refine wp_value _ _ (run_buildS1 (.tmp 21) rfl (some ⟨q7, 0, none⟩) 32 32 rfl w1) ?_
      obtain ⟨gN, hgN⟩ : ∃ g, g = w1.heap.size := ⟨_, rfl⟩
      have hfN : Fr (fun _ => False) w1 (w1.alloc (.cells #[.slice (some ⟨q7, 0, none⟩) 32 32] 22)) := (Fr.refl _ _).alloc _
      have hfact : W7.heap.size ≤ gN ∧ (w1.alloc (.cells #[.slice (some ⟨q7, 0, none⟩) 32 32] 22)).heap[gN]? = some (.cells #[.slice (some ⟨q7, 0, none⟩) 32 32] 22 (0, 0)) := by rw [hgN]; exact ⟨hF.size, heap_alloc_new w1 _⟩
      rw [← hgN]
      refine ⟨ga, gN, hF.trans hfN.any, ?_, ?_, ?_, ?_⟩
      · intro hx
        have hy := h1 (by simpa [upd] using hx)
        exact ⟨hy.1, hy.2.fr hfN (fun x => x)⟩
      · exact fun _ => hfact
      · have hh := r5.fr hfN (fun x => x)
        simpa [upd] using hh
      · simp [upd, Act.put, hr]
    | 4, ho =>
      injection ho with ho
      subst ho
      simp [Region.binds] at hr
      have d1 : b 1 = true := by simp only [hr]
      have d3 : b 3 = true := by simp only [hr]
      simp only [hr, if_true]
      refine wp_quiet_here (.agg (vs .u8 R)) (quiet_call 34 #[.slice (some ⟨ga, 0, none⟩) 64 64, .slice (some ⟨gb, 0, none⟩) 1 1] (.agg (vs .u8 R)) (fun _ => by kernel_rfl) (fun W' hc => (CD2 W' ga gb q7 (((h1 d1).2.fr hc (fun x => x)).slt lX2.out.2 lX2.out.1 (by decide)) (Pcs.one ((hc.block _ (heap_lt (h3 d3).2) (fun x => x)).trans (h3 d3).2) (((T7.out.slt lI.out.2 lI.out.1 (by decide)).fr hF (fun _ => NQ7.out)).fr hc (fun _ x => x))) (Nat.lt_of_lt_of_le (heap_lt (h3 d3).2) hc.size)).mono fun e w' ⟨he, hf⟩ => ⟨he, hc.trans hf⟩) rfl) (fun w2 hw2 => ?_)
      refine ⟨ga, gb, hF.trans hw2.any, ?_, ?_, ?_, ?_⟩
      · intro hx
        have hy := h1 (by simpa [upd] using hx)
        exact ⟨hy.1, hy.2.fr hw2 (fun x => x)⟩
      · intro hx
        have hy := h3 (by simpa [upd] using hx)
        exact ⟨hy.1, (hw2.block _ (heap_lt hy.2) (fun x => x)).trans hy.2⟩
      · have hh := r5.fr hw2 (fun x => x)
        simpa [upd] using hh
      · simp [upd, Act.put, hr]
    | 5, ho =>
      injection ho with ho
      subst ho
      simp [Region.binds] at hr
      have d0 : b 0 = true := by simp only [hr]
      have d1 : b 1 = true := by simp only [hr]
      have d2 : b 2 = true := by simp only [hr]
      have d3 : b 3 = true := by simp only [hr]
      have d4 : b 4 = true := by simp only [hr]
      simp only [hr, if_true]
      have k2 : Ar w1 (rs) 24 .u8 Z := by
        have hh := r5
        simpa only [hb, Bool.false_eq_true, if_false] using hh
      refine wp_store_row 24 (.tmp 4) (.tmp 23) rfl (rs) (vs .u8 R) rfl rfl 24 _ k2 sR.out eR.out (vs_all _ _) ?_
      have hfS : Fr (fun j => j = rs) w1 (w1.setRow (rs) (vs .u8 R)) := (Fr.refl _ _).setRow _ (.inl rfl)
      refine ⟨ga, gb, hF.setRow _ (.inl (by simp)), ?_, ?_, ?_, ?_⟩
      · intro hx
        have hy := h1 (by simpa [upd] using hx)
        exact ⟨hy.1, hy.2.fr hfS (show ¬ ga = rs from fun e => by have := hy.1; have := NR.out; omega)⟩
      · intro hx
        have hy := h3 (by simpa [upd] using hx)
        exact ⟨hy.1, (hfS.block _ (heap_lt hy.2) (show ¬ gb = rs from fun e => by have := hy.1; have := NR.out; omega)).trans hy.2⟩
      · have hh := k2.row R
        simpa [upd] using hh
      · simp [upd, Act.put, hr]
    | j + 6, ho => exact absurd ho (by simp)
  intro b a w9 hall hI
  obtain ⟨ga, gb, hF, h1, h3, r5, rfl⟩ := hI
  have t0 : b 0 = true := hall 0 (by simp)
  have t1 : b 1 = true := hall 1 (by simp)
  have t2 : b 2 = true := hall 2 (by simp)
  have t3 : b 3 = true := hall 3 (by simp)
  have t4 : b 4 = true := hall 4 (by simp)
  have t5 : b 5 = true := hall 5 (by simp)
  simp only [t0, t1, t2, t3, t4, t5, if_true]
  have Pga := Lib.hid (h1 t1)
  have Pgb := Lib.hid (h3 t3)
  simp only [t5, if_true] at r5
  have Q5 := Lib.hid r5
  have G9 := Lib.hid hF
  clear hall hF h1 h3 r5 t0 t1 t2 t3 t4 t5
  have F9 : Hid (Fr (fun _ => False) w w9) := H7.out.trans' G9.out (fun j hj e => by have := NB.out; omega)
  go_wp2
  refine bodyPost_ret (results_cell_row Try.results26 _ _ _ 24 _ (0, 0) _ rfl Q5.out Try.underlying24 rfl sR.out) rfl ⟨rfl, F9.out⟩
end Go.Proofs.Ytebknlhooijkcaa

/- The program's tag of pieces under a key: contract. Conditions: slices that lie in memory, fewer than 2^50 bytes. -/
namespace Go.Proofs.Ytebknlhooijkcaa
set_option linter.unusedSimpArgs false
set_option linter.unusedVariables false
open Go.ChangeShapes Go.WideShapes Go.ChangeAt Go.RowKit



set_option maxRecDepth 100000 in
set_option maxHeartbeats 16000000 in
theorem tag_long (g1 : Nat) (A1 : Option Addr) (m1 c1 : Nat) (k : List Int) (gp n : Nat) (ps : List Pc) (w : World) (h1 : Sl w g1 (.slice A1 m1 c1) k) (hm1 : m1 ≤ 140737488353280) (hp : Pcs w gp ps) (hn : ps.length = n) (hnn : n ≤ 100) (ht : (flat ps).length ≤ 1125899906842000) (hgp : gp < w.heap.size) (hl : 64 < m1) :
    Calls Try.prog 26 #[.slice A1 m1 c1, .slice (some ⟨gp, 0, none⟩) n n] w fun e w' => e = .returned (.agg (vs .u8 (hm k (flat ps)))) ∧ Fr (fun _ => False) w w' := by
  have lk := Lib.hid h1.len
  obtain ⟨R, hR⟩ : ∃ D, D = hm k (flat ps) := ⟨_, rfl⟩
  have lR : Hid (R.length = 32 ∧ Bys R) := by rw [hR]; exact ⟨hm_length _ _, hm_bys _ _⟩
  obtain ⟨K, hK⟩ : ∃ K, K = dig 32 [] k := ⟨_, rfl⟩
  have HK : Hid (kb k = padz K) := by show _ = _; rw [kb, hK, lk.out, if_pos hl]
  have lK : Hid (K.length ≤ 64 ∧ Bys K) := by rw [hK]; exact ⟨by rw [dig_length (by decide)]; decide, dig_bys _ _ _⟩
  obtain ⟨PX, hPX⟩ : ∃ P, P = padz K := ⟨_, rfl⟩
  obtain ⟨I, hI⟩ : ∃ D, D = dig 32 [] (xb 54 PX ++ flat ps) := ⟨_, rfl⟩
  have lI : Hid (I.length = 32 ∧ Bys I) := by rw [hI]; exact ⟨dig_length (by decide) _ _, dig_bys _ _ _⟩
  have HR : Hid (dig 32 [] (xb 92 PX ++ I) = R) := by show _ = _; rw [hR, hm, HK.out, ← hPX, hI]
  obtain ⟨X1, hX1⟩ : ∃ X, X = xb 54 PX := ⟨_, rfl⟩
  obtain ⟨X2, hX2⟩ : ∃ X, X = xb 92 PX := ⟨_, rfl⟩
  have lP : PX.length = 64 := by rw [hPX]; exact padz_length lK.out.1
  have bP : Bys PX := by rw [hPX]; exact padz_bys lK.out.2
  have lX1 : Hid (X1.length = 64 ∧ Bys X1) := by rw [hX1]; exact ⟨by rw [xb_length, lP], xb_bys (by decide) bP⟩
  have lX2 : Hid (X2.length = 64 ∧ Bys X2) := by rw [hX2]; exact ⟨by rw [xb_length, lP], xb_bys (by decide) bP⟩
  have CC1 : ∀ W gk ga (A : Option Addr) (m c : Nat), W.cell? ⟨gk, 0, none⟩ = some (.slice A m c) → Sl W ga (.slice A m c) K → m ≤ 64 → Calls Try.prog 33 #[.int .u8 54, .pointer (some ⟨gk, 0, none⟩)] W fun e w' => ∃ g, W.heap.size ≤ g ∧ e = .returned (.slice (some ⟨g, 0, none⟩) 64 64) ∧ Ar w' g 5 .u8 X1 ∧ Fr (fun _ => False) W w' := fun W gk ga A m c a1 a2 a3 => by rw [hX1, hPX]; exact clo_is gk ga A m c K 54 W a1 a2 a3 (by decide)
  have CC2 : ∀ W gk ga (A : Option Addr) (m c : Nat), W.cell? ⟨gk, 0, none⟩ = some (.slice A m c) → Sl W ga (.slice A m c) K → m ≤ 64 → Calls Try.prog 33 #[.int .u8 92, .pointer (some ⟨gk, 0, none⟩)] W fun e w' => ∃ g, W.heap.size ≤ g ∧ e = .returned (.slice (some ⟨g, 0, none⟩) 64 64) ∧ Ar w' g 5 .u8 X2 ∧ Fr (fun _ => False) W w' := fun W gk ga A m c a1 a2 a3 => by rw [hX2, hPX]; exact clo_is gk ga A m c K 92 W a1 a2 a3 (by decide)
  have CD1 : ∀ W gx, Sl W gx (.slice (some ⟨gx, 0, none⟩) 64 64) X1 → Pcs W gp ps → gp < W.heap.size → Calls Try.prog 34 #[.slice (some ⟨gx, 0, none⟩) 64 64, .slice (some ⟨gp, 0, none⟩) n n] W fun e w' => e = .returned (.agg (vs .u8 I)) ∧ Fr (fun _ => False) W w' := fun W gx a1 a2 a3 => by rw [hI, ← hX1]; exact kdigest_is gx _ 64 64 X1 gp n ps W a1 a2 hn hnn (by rw [lX1.out.1]; omega) a3
  have CD2 : ∀ W gx gy gi, Sl W gx (.slice (some ⟨gx, 0, none⟩) 64 64) X2 → Pcs W gy [⟨gi, some ⟨gi, 0, none⟩, 32, 32, I⟩] → gy < W.heap.size → Calls Try.prog 34 #[.slice (some ⟨gx, 0, none⟩) 64 64, .slice (some ⟨gy, 0, none⟩) 1 1] W fun e w' => e = .returned (.agg (vs .u8 R)) ∧ Fr (fun _ => False) W w' := fun W gx gy gi a1 a2 a3 => by
    have e := kdigest_is gx _ 64 64 X2 gy 1 [⟨gi, some ⟨gi, 0, none⟩, 32, 32, I⟩] W a1 a2 rfl (by decide) (by simp [flat, lX2.out.1, lI.out.1]) a3
    rw [show flat [⟨gi, some ⟨gi, 0, none⟩, 32, 32, I⟩] = I by simp [flat], hX2, HR.out] at e
    exact e
  obtain ⟨Z, hZ⟩ : ∃ Z, Z = List.replicate 32 (0 : Int) := ⟨_, rfl⟩
  have hz : ∀ W : World, (zeroValue 24).run Try.prog W = .ok (.agg (vs .u8 Z)) W := fun W => by rw [hZ]; exact zeroA32 W
  have sI : Hid ((Try.prog.info? 24).map (·.size) = some (vs .u8 I).size) := by show _ = _; rw [szA32, vs_size, lI.out.1]
  have eI : Hid ((vs .u8 Z).size = (vs .u8 I).size) := by show _ = _; rw [vs_size, vs_size, lI.out.1, hZ]; rfl
  have sR : Hid ((Try.prog.info? 24).map (·.size) = some (vs .u8 R).size) := by show _ = _; rw [szA32, vs_size, lR.out.1]
  have eR : Hid ((vs .u8 Z).size = (vs .u8 R).size) := by show _ = _; rw [vs_size, vs_size, lR.out.1, hZ]; rfl
  have CS : ∀ W, Fr (fun _ => False) w W → Calls Try.prog 29 #[.slice A1 m1 c1] W fun e w' => e = .returned (.agg (vs .u8 K)) ∧ Fr (fun _ => False) W w' := fun W hf => by rw [hK]; exact sum_is g1 A1 m1 c1 k W (h1.fr hf (fun _ x => x)) hm1
  have lK2 : Hid (K.length = 32) := by show _ = _; rw [hK]; exact dig_length (by decide) _ _
  have sK : Hid ((Try.prog.info? 24).map (·.size) = some (vs .u8 K).size) := by show _ = _; rw [szA32, vs_size, lK2.out]
  have eK : Hid ((vs .u8 Z).size = (vs .u8 K).size) := by show _ = _; rw [vs_size, vs_size, lK2.out, hZ]; rfl
  have j1 : (64 : Int) < m1 := by omega
  have HL := Lib.hid hl
  have HP := Lib.hid hp
  have HG := Lib.hid hgp
  have H1 := Lib.hid h1
  rw [← hR]
  clear hR hK hPX hI hX1 hX2 lP bP hZ h1 hm1 hl hp hn hnn ht hgp HK HR lk
  go_enter Try.func26, Try.ntmps26
  go_upto_region 1 with (fail)
  obtain ⟨bx, hbx⟩ : ∃ x, x = w.heap.size := ⟨_, rfl⟩
  obtain ⟨rs, hrs⟩ : ∃ x, x = w.heap.size + 1 := ⟨_, rfl⟩
  rw [← hrs, ← hbx]
  generalize hW : (w.alloc (.cells #[.slice A1 m1 c1] 22)).alloc (.cells (vs .u8 Z) 24) = W0
  have HW := calm2 hW
  rw [← hrs, ← hbx] at HW
  have BX0 : Hid (W0.heap[bx]? = some (.cells #[.slice A1 m1 c1] 22 (0, 0))) := HW.1
  have R0 : Hid (Ar W0 rs 24 .u8 Z) := HW.2.1
  have F0 : Hid (Fr (fun _ => False) w W0) := HW.2.2
  have NB : Hid (w.heap.size ≤ bx ∧ w.heap.size ≤ rs ∧ bx ≠ rs) := by show _ ∧ _ ∧ _; omega
  clear HW hW hbx hrs
  have cB := cells_at BX0.out 0 _ rfl
  go_upto_region 3 with (first
    | (go_at_call 29; refine (CS _ F0.out).mono ?_; rintro e w2 ⟨rfl, hf⟩; have F2 := Lib.hid hf; clear hf)
    | refine wpList_store_row rfl 24 (.tmp 5) (.tmp 12) rfl w2.heap.size (vs .u8 K) rfl rfl 24 (vs .u8 Z) (heap_alloc_new w2 (.cells (vs .u8 Z) 24)) sK.out eK.out (vs_all _ _) ?_)
  clear cB
  obtain ⟨q2, hq2⟩ : ∃ q, q = w2.heap.size := ⟨_, rfl⟩
  have FQ : Fr (fun _ => False) w2 ((w2.alloc (.cells (vs .u8 Z) 24)).setRow w2.heap.size (vs .u8 K)) := ((Fr.refl _ w2).alloc _).setRow _ (.inr (Nat.le_refl _))
  have T3 : Hid (Ar ((w2.alloc (.cells (vs .u8 Z) 24)).setRow w2.heap.size (vs .u8 K)) q2 24 .u8 K) := by rw [hq2]; exact (Ar.new w2 24 .u8 Z).row K
  have BX3 : Hid (((w2.alloc (.cells (vs .u8 Z) 24)).setRow w2.heap.size (vs .u8 K)).heap[bx]? = some (.cells #[.slice A1 m1 c1] 22 (0, 0))) := ((F2.out.trans FQ).block _ (heap_lt BX0.out) (fun x => x)).trans BX0.out
  have R3 := Lib.hid ((R0.out.fr F2.out (fun x => x)).fr FQ (fun x => x))
  have F3 := Lib.hid ((F0.out.trans F2.out).trans FQ)
  have N2 : Hid (q2 ≠ bx) := by show _ ≠ _; rw [hq2]; have := heap_lt BX0.out; have := F2.out.size; omega
  have NK : Hid (q2 ≠ rs) := by show _ ≠ _; rw [hq2]; have := R0.out.lt; have := F2.out.size; omega
  rw [← hq2] at T3 BX3 R3 F3 ⊢
  generalize (w2.alloc (.cells (vs .u8 Z) 24)).setRow q2 (vs .u8 K) = W3 at *
  clear FQ hq2 F0 F2 R0 BX0 CS
  try simp only [Act.put, List.setIfInBounds_toArray, List.set_cons_succ, List.set_cons_zero]
  have cB := cells_at BX3.out 0 _ rfl
  have fB := frozen_of_row W3 bx 0 _ _ BX3.out
  go_upto_region 4 with (fail)
  clear cB fB
  have BX4 : Hid ((W3.setCell ⟨bx, 0, none⟩ (.slice (some ⟨q2, 0, none⟩) 32 32)).cell? ⟨bx, 0, none⟩ = some (.slice (some ⟨q2, 0, none⟩) 32 32)) := World.cell?_setCell_same' _ _ _ (by rw [cells_at BX3.out 0 (.slice A1 m1 c1) rfl]; rfl)
  have FS : Fr (fun j => j = bx) W3 (W3.setCell ⟨bx, 0, none⟩ (.slice (some ⟨q2, 0, none⟩) 32 32)) := (Fr.refl _ _).setCell _ (.inl rfl)
  have S4 : Hid (Sl (W3.setCell ⟨bx, 0, none⟩ (.slice (some ⟨q2, 0, none⟩) 32 32)) q2 (.slice (some ⟨q2, 0, none⟩) 32 32) K) := ((T3.out.slt lK.out.2 lK2.out (by decide)).fr FS (fun _ => N2.out))
  have R4 := Lib.hid (R3.out.fr FS (show ¬ rs = bx by have := NB.out; omega))
  have F4 : Hid (Fr (fun _ => False) w (W3.setCell ⟨bx, 0, none⟩ (.slice (some ⟨q2, 0, none⟩) 32 32))) := F3.out.trans' FS (fun j hj e => by have := NB.out; omega)
  generalize W3.setCell ⟨bx, 0, none⟩ (.slice (some ⟨q2, 0, none⟩) 32 32) = W4 at *
  obtain ⟨A, m, c, gk, hA, hmm, hc, hgk⟩ : ∃ A m c gk, A = some (⟨q2, 0, none⟩ : Addr) ∧ m = 32 ∧ c = 32 ∧ gk = q2 := ⟨_, _, _, _, rfl, rfl, rfl, rfl⟩
  have ML : Hid (m ≤ 64) := by show _ ≤ _; omega
  rw [← hA] at BX4 S4
  rw [show (Value.slice A 32 32) = .slice A m c by rw [hmm, hc]] at BX4 S4
  rw [← hgk] at S4 NK
  clear FS R3 F3 T3 BX3 hA hmm hc hgk N2
  try simp only [Act.put, List.setIfInBounds_toArray, List.set_cons_succ, List.set_cons_zero]
  go_upto_region 5 with (fail)
  go_upto_region 6 with (first
    | (go_at_call 33; refine (CC1 _ bx gk A m c BX4.out S4.out ML.out).mono ?_; rintro e w5 ⟨gx, hgx, rfl, hax, hf⟩; have NX := Lib.hid hgx; have X5 := Lib.hid hax; have F5 := Lib.hid hf; clear hgx hax hf)
    | (go_at_call 34; refine (CD1 w5 gx (X5.out.slt lX1.out.2 lX1.out.1 (by decide)) (HP.out.fr (F4.out.trans F5.out) (fun x => x) (fun _ _ _ x => x)) (Nat.lt_of_lt_of_le HG.out (F4.out.trans F5.out).size)).mono ?_; rintro e w6 ⟨rfl, hf⟩; have F6 := Lib.hid (F5.out.trans hf); clear hf)
    | refine wpList_store_row rfl 24 (.tmp 7) (.tmp 18) rfl w6.heap.size (vs .u8 I) rfl rfl 24 (vs .u8 Z) (heap_alloc_new w6 (.cells (vs .u8 Z) 24)) sI.out eI.out (vs_all _ _) ?_)
  obtain ⟨q7, hq7⟩ : ∃ q, q = w6.heap.size := ⟨_, rfl⟩
  have FQ : Fr (fun _ => False) w6 ((w6.alloc (.cells (vs .u8 Z) 24)).setRow w6.heap.size (vs .u8 I)) := ((Fr.refl _ w6).alloc _).setRow _ (.inr (Nat.le_refl _))
  have T7 : Hid (Ar ((w6.alloc (.cells (vs .u8 Z) 24)).setRow w6.heap.size (vs .u8 I)) q7 24 .u8 I) := by rw [hq7]; exact (Ar.new w6 24 .u8 Z).row I
  have F7 := Lib.hid (F6.out.trans FQ)
  have BX7 := Lib.hid (cell_fr BX4.out F7.out (fun x => x))
  have S7 := Lib.hid (S4.out.fr F7.out (fun _ x => x))
  have R7 := Lib.hid (R4.out.fr F7.out (fun x => x))
  have H7 := Lib.hid (F4.out.trans F7.out)
  have NQ : Hid (rs < q7 ∧ bx < q7) := ⟨by rw [hq7]; exact Nat.lt_of_lt_of_le R4.out.lt F6.out.size, by rw [hq7]; exact Nat.lt_of_lt_of_le (World.block_lt_of_cell? _ _ BX4.out) F6.out.size⟩
  rw [← hq7] at T7 F7 BX7 S7 R7 H7 ⊢
  generalize (w6.alloc (.cells (vs .u8 Z) 24)).setRow q7 (vs .u8 I) = W7 at *
  clear FQ hq7 F6 F7 F5 X5 NX BX4 S4 R4 F4 CC1 CD1 hz HP
  try simp only [Act.put, List.setIfInBounds_toArray, List.set_cons_succ, List.set_cons_zero]
  have NR : Hid (rs < W7.heap.size) := R7.out.lt
  have NQ7 : Hid (q7 ≠ rs) := by have := NQ.out; show _ ≠ _; omega
  refine wp_region_inv2 (fun b a w' => ∃ ga : Nat, ∃ gb : Nat, Fr (fun j => j = rs) W7 w' ∧ (b 1 = true → W7.heap.size ≤ ga ∧ Ar w' ga 5 .u8 X2) ∧ (b 3 = true → W7.heap.size ≤ gb ∧ w'.heap[gb]? = some (.cells #[.slice (some ⟨q7, 0, none⟩) 32 32] 22 (0, 0))) ∧ Ar w' (rs) 24 .u8 (if b 5 = true then R else Z) ∧ a = ⟨#[Value.slice A1 m1 c1, Value.slice (some { block := gp, off := 0 }) n n, Value.pointer (some { block := bx, off := 0 }), undef, Value.pointer (some { block := rs, off := 0 }), Value.pointer (some { block := q2, off := 0 }), Value.func (Fn.func 33) #[] #[Value.pointer (some { block := bx, off := 0 })], Value.pointer (some { block := q7, off := 0 }), Value.slice A1 m1 c1, Value.int IntKind.i64 ↑m1, Value.bool true, Value.slice A1 m1 c1, Value.agg (vs IntKind.u8 K), Value.slice (some { block := q2, off := 0 }) 32 32, Value.func (Fn.func 33) #[] #[Value.pointer (some { block := bx, off := 0 })], Value.func (Fn.func 33) #[] #[Value.pointer (some { block := bx, off := 0 })], Value.slice (some { block := gx, off := 0 }) 64 64, Value.slice (some { block := gp, off := 0 }) n n, Value.agg (vs IntKind.u8 I), if b 0 = true then Value.func (Fn.func 33) #[] #[Value.pointer (some { block := bx, off := 0 })] else undef, if b 1 = true then .slice (some ⟨ga, 0, none⟩) 64 64 else undef, if b 2 = true then .slice (some ⟨q7, 0, none⟩) 32 32 else undef, if b 3 = true then .slice (some ⟨gb, 0, none⟩) 1 1 else undef, if b 4 = true then .agg (vs .u8 R) else undef], []⟩) (by kernel_rfl) (by kernel_rfl) ?start6 ?step6 ?done6
  case start6 => exact ⟨0, 0, ⟨rfl, rfl, rfl, Nat.le_refl _, fun _ _ _ => rfl⟩, fun h => by simp at h, fun h => by simp at h, by simp only [Bool.false_eq_true, if_false]; exact R7.out, by simp⟩
  case step6 =>
    intro i5 o5 b a w1 ho hI hb hr hcl
    obtain ⟨ga, gb, hF, h1, h3, r5, rfl⟩ := hI
    match i5, ho with
    | 0, ho =>
      injection ho with ho
      subst ho
      refine wp_quiet_here (Value.func (Fn.func 33) #[] #[Value.pointer (some { block := bx, off := 0 })]) (BigFrame.quiet_move _ rfl rfl) (fun w2 hw2 => ?_)
      refine ⟨ga, gb, hF.trans hw2.any, ?_, ?_, ?_, ?_⟩
      · intro hx
        have hy := h1 (by simpa [upd] using hx)
        exact ⟨hy.1, hy.2.fr hw2 (fun x => x)⟩
      · intro hx
        have hy := h3 (by simpa [upd] using hx)
        exact ⟨hy.1, (hw2.block _ (heap_lt hy.2) (fun x => x)).trans hy.2⟩
      · have hh := r5.fr hw2 (fun x => x)
        simpa [upd] using hh
      · simp [upd, Act.put]
    | 1, ho =>
      injection ho with ho
      subst ho
      simp [Region.binds] at hr
      have d0 : b 0 = true := by simp only [hr]
      simp only [hr, if_true]
      refine wp_enter 33 #[.int .u8 92, .pointer (some ⟨bx, 0, none⟩)] (by kernel_rfl) ((CC2 w1 bx gk A m c (cell_fr BX7.out hF NB.out.2.2) (S7.out.fr hF (fun _ => NK.out)) ML.out).mono ?_)
      rintro e w2 ⟨gN, hgN, rfl, hx, hfN⟩
      have hfact : W7.heap.size ≤ gN ∧ Ar w2 gN 5 .u8 X2 := ⟨Nat.le_trans hF.size hgN, hx⟩
      refine ⟨gN, gb, hF.trans hfN.any, ?_, ?_, ?_, ?_⟩
      · exact fun _ => hfact
      · intro hx
        have hy := h3 (by simpa [upd] using hx)
        exact ⟨hy.1, (hfN.block _ (heap_lt hy.2) (fun x => x)).trans hy.2⟩
      · have hh := r5.fr hfN (fun x => x)
        simpa [upd] using hh
      · simp [upd, Act.put, hr]
    | 2, ho =>
      injection ho with ho
      subst ho
      refine wp_quiet_here (.slice (some ⟨q7, 0, none⟩) 32 32) ?_ (fun w2 hw2 => ?_)
      · simp only [Bool.false_eq_true] 
        go_big_quiet_op
        first
          | (simp [Act.put]; done)
          | exact ⟨_, fun _ _ => rfl, by simp [Act.put] <;> assumption⟩
      refine ⟨ga, gb, hF.trans hw2.any, ?_, ?_, ?_, ?_⟩
      · intro hx
        have hy := h1 (by simpa [upd] using hx)
        exact ⟨hy.1, hy.2.fr hw2 (fun x => x)⟩
      · intro hx
        have hy := h3 (by simpa [upd] using hx)
        exact ⟨hy.1, (hw2.block _ (heap_lt hy.2) (fun x => x)).trans hy.2⟩
      · have hh := r5.fr hw2 (fun x => x)
        simpa [upd] using hh
      · simp [upd, Act.put]
    | 3, ho =>
      injection ho with ho
      subst ho
      simp [Region.binds] at hr
      have d2 : b 2 = true := by simp only [hr]
      simp only [hr, if_true]
      refine wp_value _ _ (run_buildS1 (.tmp 21) rfl (some ⟨q7, 0, none⟩) 32 32 rfl w1) ?_
      obtain ⟨gN, hgN⟩ : ∃ g, g = w1.heap.size := ⟨_, rfl⟩
      have hfN : Fr (fun _ => False) w1 (w1.alloc (.cells #[.slice (some ⟨q7, 0, none⟩) 32 32] 22)) := (Fr.refl _ _).alloc _
      have hfact : W7.heap.size ≤ gN ∧ (w1.alloc (.cells #[.slice (some ⟨q7, 0, none⟩) 32 32] 22)).heap[gN]? = some (.cells #[.slice (some ⟨q7, 0, none⟩) 32 32] 22 (0, 0)) := by rw [hgN]; exact ⟨hF.size, heap_alloc_new w1 _⟩
      rw [← hgN]
      refine ⟨ga, gN, hF.trans hfN.any, ?_, ?_, ?_, ?_⟩
      · intro hx
        have hy := h1 (by simpa [upd] using hx)
        exact ⟨hy.1, hy.2.fr hfN (fun x => x)⟩
      · exact fun _ => hfact
      · have hh := r5.fr hfN (fun x => x)
        simpa [upd] using hh
      · simp [upd, Act.put, hr]
    | 4, ho =>
      injection ho with ho
      subst ho
      simp [Region.binds] at hr
      have d1 : b 1 = true := by simp only [hr]
      have d3 : b 3 = true := by simp only [hr]
      simp only [hr, if_true]
      refine wp_quiet_here (.agg (vs .u8 R)) (quiet_call 34 #[.slice (some ⟨ga, 0, none⟩) 64 64, .slice (some ⟨gb, 0, none⟩) 1 1] (.agg (vs .u8 R)) (fun _ => by kernel_rfl) (fun W' hc => (CD2 W' ga gb q7 (((h1 d1).2.fr hc (fun x => x)).slt lX2.out.2 lX2.out.1 (by decide)) (Pcs.one ((hc.block _ (heap_lt (h3 d3).2) (fun x => x)).trans (h3 d3).2) (((T7.out.slt lI.out.2 lI.out.1 (by decide)).fr hF (fun _ => NQ7.out)).fr hc (fun _ x => x))) (Nat.lt_of_lt_of_le (heap_lt (h3 d3).2) hc.size)).mono fun e w' ⟨he, hf⟩ => ⟨he, hc.trans hf⟩) rfl) (fun w2 hw2 => ?_)
      refine ⟨ga, gb, hF.trans hw2.any, ?_, ?_, ?_, ?_⟩
      · intro hx
        have hy := h1 (by simpa [upd] using hx)
        exact ⟨hy.1, hy.2.fr hw2 (fun x => x)⟩
      · intro hx
        have hy := h3 (by simpa [upd] using hx)
        exact ⟨hy.1, (hw2.block _ (heap_lt hy.2) (fun x => x)).trans hy.2⟩
      · have hh := r5.fr hw2 (fun x => x)
        simpa [upd] using hh
      · simp [upd, Act.put, hr]
    | 5, ho =>
      injection ho with ho
      subst ho
      simp [Region.binds] at hr
      have d0 : b 0 = true := by simp only [hr]
      have d1 : b 1 = true := by simp only [hr]
      have d2 : b 2 = true := by simp only [hr]
      have d3 : b 3 = true := by simp only [hr]
      have d4 : b 4 = true := by simp only [hr]
      simp only [hr, if_true]
      have k2 : Ar w1 (rs) 24 .u8 Z := by
        have hh := r5
        simpa only [hb, Bool.false_eq_true, if_false] using hh
      refine wp_store_row 24 (.tmp 4) (.tmp 23) rfl (rs) (vs .u8 R) rfl rfl 24 _ k2 sR.out eR.out (vs_all _ _) ?_
      have hfS : Fr (fun j => j = rs) w1 (w1.setRow (rs) (vs .u8 R)) := (Fr.refl _ _).setRow _ (.inl rfl)
      refine ⟨ga, gb, hF.setRow _ (.inl (by simp)), ?_, ?_, ?_, ?_⟩
      · intro hx
        have hy := h1 (by simpa [upd] using hx)
        exact ⟨hy.1, hy.2.fr hfS (show ¬ ga = rs from fun e => by have := hy.1; have := NR.out; omega)⟩
      · intro hx
        have hy := h3 (by simpa [upd] using hx)
        exact ⟨hy.1, (hfS.block _ (heap_lt hy.2) (show ¬ gb = rs from fun e => by have := hy.1; have := NR.out; omega)).trans hy.2⟩
      · have hh := k2.row R
        simpa [upd] using hh
      · simp [upd, Act.put, hr]
    | j + 6, ho => exact absurd ho (by simp)
  intro b a w9 hall hI
  obtain ⟨ga, gb, hF, h1, h3, r5, rfl⟩ := hI
  have t0 : b 0 = true := hall 0 (by simp)
  have t1 : b 1 = true := hall 1 (by simp)
  have t2 : b 2 = true := hall 2 (by simp)
  have t3 : b 3 = true := hall 3 (by simp)
  have t4 : b 4 = true := hall 4 (by simp)
  have t5 : b 5 = true := hall 5 (by simp)
  simp only [t0, t1, t2, t3, t4, t5, if_true]
  have Pga := Lib.hid (h1 t1)
  have Pgb := Lib.hid (h3 t3)
  simp only [t5, if_true] at r5
  have Q5 := Lib.hid r5
  have G9 := Lib.hid hF
  clear hall hF h1 h3 r5 t0 t1 t2 t3 t4 t5
  have F9 : Hid (Fr (fun _ => False) w w9) := H7.out.trans' G9.out (fun j hj e => by have := NB.out; omega)
  go_wp2
  refine bodyPost_ret (results_cell_row Try.results26 _ _ _ 24 _ (0, 0) _ rfl Q5.out Try.underlying24 rfl sR.out) rfl ⟨rfl, F9.out⟩
end Go.Proofs.Ytebknlhooijkcaa

/- The program's tag, Hmac and Extract: contracts. Conditions: slices that lie in memory, lengths below 2^47. -/
namespace Go.Proofs.Ytebknlhooijkcaa
set_option linter.unusedSimpArgs false
set_option linter.unusedVariables false
open Go.ChangeShapes Go.WideShapes Go.ChangeAt Go.RowKit


theorem tag_is (g1 : Nat) (A1 : Option Addr) (m1 c1 : Nat) (k : List Int) (gp n : Nat) (ps : List Pc) (w : World) (h1 : Sl w g1 (.slice A1 m1 c1) k) (hm1 : m1 ≤ 140737488353280) (hp : Pcs w gp ps) (hn : ps.length = n) (hnn : n ≤ 100) (ht : (flat ps).length ≤ 1125899906842000) (hgp : gp < w.heap.size) :
    Calls Try.prog 26 #[.slice A1 m1 c1, .slice (some ⟨gp, 0, none⟩) n n] w fun e w' => e = .returned (.agg (vs .u8 (hm k (flat ps)))) ∧ Fr (fun _ => False) w w' := by
  by_cases h : 64 < m1
  · exact tag_long g1 A1 m1 c1 k gp n ps w h1 hm1 hp hn hnn ht hgp h
  · exact tag_short g1 A1 m1 c1 k gp n ps w h1 hm1 hp hn hnn ht hgp (by omega)
theorem kb_none : kb [] = kb (List.replicate 32 0) := by decide +kernel
theorem hm_ext (s b : List Int) : hm s b = ext s b := by
  unfold ext
  by_cases h : s.length = 0
  · rw [if_pos h]
    obtain rfl := List.eq_nil_of_length_eq_zero h
    rw [hm, hm, kb_none]
  · rw [if_neg h]

set_option maxRecDepth 100000 in
set_option maxHeartbeats 16000000 in
theorem khmac_is (g1 : Nat) (A1 : Option Addr) (m1 c1 : Nat) (k : List Int) (g2 : Nat) (A2 : Option Addr) (m2 c2 : Nat) (b : List Int) (w : World) (h1 : Sl w g1 (.slice A1 m1 c1) k) (hm1 : m1 ≤ 140737488353280) (h2 : Sl w g2 (.slice A2 m2 c2) b) (hm2 : m2 ≤ 140737488355328) :
    Calls Try.prog 12 #[.slice A1 m1 c1, .slice A2 m2 c2] w fun e w' => e = .returned (.agg (vs .u8 (hm k b))) ∧ Fr (fun _ => False) w w' := by
  obtain ⟨R, hR⟩ : ∃ D, D = hm k b := ⟨_, rfl⟩
  have lR : Hid (R.length = 32) := by show _ = _; rw [hR]; exact hm_length _ _
  have CT : ∀ W gp, Fr (fun _ => False) w W → W.heap[gp]? = some (.cells #[.slice A2 m2 c2] 22 (0, 0)) → Calls Try.prog 26 #[.slice A1 m1 c1, .slice (some ⟨gp, 0, none⟩) 1 1] W fun e w' => e = .returned (.agg (vs .u8 R)) ∧ Fr (fun _ => False) W w' := fun W gp hf hg => by
    have e := tag_is g1 A1 m1 c1 k gp 1 [⟨g2, A2, m2, c2, b⟩] W (h1.fr hf (fun _ x => x)) hm1 (Pcs.one hg (h2.fr hf (fun _ x => x))) rfl (by decide) (by have := h2.len; simp [flat]; omega) (heap_lt hg)
    rw [show flat [⟨g2, A2, m2, c2, b⟩] = b by simp [flat], ← hR] at e
    exact e
  obtain ⟨Z, hZ⟩ : ∃ Z, Z = List.replicate 32 (0 : Int) := ⟨_, rfl⟩
  have hz : ∀ W : World, (zeroValue 24).run Try.prog W = .ok (.agg (vs .u8 Z)) W := fun W => by rw [hZ]; exact zeroA32 W
  have sR : Hid ((Try.prog.info? 24).map (·.size) = some (vs .u8 R).size) := by show _ = _; rw [szA32, vs_size, lR.out]
  have eR : Hid ((vs .u8 Z).size = (vs .u8 R).size) := by show _ = _; rw [vs_size, vs_size, lR.out, hZ]; rfl
  rw [← hR]
  clear hR hZ h1 hm1 h2 hm2
  go_enter Try.func12, Try.ntmps12
  go_upto_region 1 with (fail)
  obtain ⟨rs, hrs⟩ : ∃ x, x = w.heap.size := ⟨_, rfl⟩
  have R0 : Hid (Ar (w.alloc (.cells (vs .u8 Z) 24)) rs 24 .u8 Z) := by rw [hrs]; exact Ar.new w 24 .u8 Z
  have F0 : Hid (Fr (fun _ => False) w (w.alloc (.cells (vs .u8 Z) 24))) := (Fr.refl _ _).alloc _
  have NR : Hid (w.heap.size ≤ rs) := by rw [hrs]; exact Nat.le_refl _
  rw [← hrs]
  generalize w.alloc (.cells (vs .u8 Z) 24) = W0 at *
  clear hz hrs
  try simp only [Act.put, List.setIfInBounds_toArray, List.set_cons_succ, List.set_cons_zero]
  go_wp2_with (first
    | refine wpList_plain rfl fun K' hK' => wp_value _ _ (run_buildS1 (.tmp 6) rfl A2 m2 c2 rfl W0) (hK' _ _ ?_)
    | (go_at_call 26; refine (CT _ _ (F0.out.alloc _) (heap_alloc_new W0 _)).mono ?_; rintro e w1 ⟨rfl, hf⟩; have F1 := Lib.hid ((F0.out.alloc _).trans hf); have R1 := Lib.hid ((R0.out.alloc _).fr hf (fun x => x)); clear hf)
    | refine wpList_store_row rfl 24 (.tmp 4) (.tmp 8) rfl rs (vs .u8 R) rfl rfl 24 _ R1.out sR.out eR.out (vs_all _ _) ?_)
  refine bodyPost_ret (results_cell_row Try.results12 _ _ _ 24 _ (0, 0) _ rfl (setRow_heap _ _ _ _ _ _ R1.out) Try.underlying24 rfl sR.out) rfl ⟨rfl, F1.out.setRow _ (.inr NR.out)⟩

set_option maxRecDepth 100000 in
set_option maxHeartbeats 16000000 in
theorem kextract_is (g1 : Nat) (A1 : Option Addr) (m1 c1 : Nat) (k : List Int) (g2 : Nat) (A2 : Option Addr) (m2 c2 : Nat) (b : List Int) (w : World) (h1 : Sl w g1 (.slice A1 m1 c1) k) (hm1 : m1 ≤ 140737488353280) (h2 : Sl w g2 (.slice A2 m2 c2) b) (hm2 : m2 ≤ 140737488355328) :
    Calls Try.prog 16 #[.slice A1 m1 c1, .slice A2 m2 c2] w fun e w' => e = .returned (.agg (vs .u8 (ext k b))) ∧ Fr (fun _ => False) w w' := by
  obtain ⟨R, hR⟩ : ∃ D, D = ext k b := ⟨_, rfl⟩
  have lR : Hid (R.length = 32) := by show _ = _; rw [hR]; exact ext_length _ _
  have CT : ∀ W gp, Fr (fun _ => False) w W → W.heap[gp]? = some (.cells #[.slice A2 m2 c2] 22 (0, 0)) → Calls Try.prog 26 #[.slice A1 m1 c1, .slice (some ⟨gp, 0, none⟩) 1 1] W fun e w' => e = .returned (.agg (vs .u8 R)) ∧ Fr (fun _ => False) W w' := fun W gp hf hg => by
    have e := tag_is g1 A1 m1 c1 k gp 1 [⟨g2, A2, m2, c2, b⟩] W (h1.fr hf (fun _ x => x)) hm1 (Pcs.one hg (h2.fr hf (fun _ x => x))) rfl (by decide) (by have := h2.len; simp [flat]; omega) (heap_lt hg)
    rw [show flat [⟨g2, A2, m2, c2, b⟩] = b by simp [flat], hm_ext, ← hR] at e
    exact e
  obtain ⟨Z, hZ⟩ : ∃ Z, Z = List.replicate 32 (0 : Int) := ⟨_, rfl⟩
  have hz : ∀ W : World, (zeroValue 24).run Try.prog W = .ok (.agg (vs .u8 Z)) W := fun W => by rw [hZ]; exact zeroA32 W
  have sR : Hid ((Try.prog.info? 24).map (·.size) = some (vs .u8 R).size) := by show _ = _; rw [szA32, vs_size, lR.out]
  have eR : Hid ((vs .u8 Z).size = (vs .u8 R).size) := by show _ = _; rw [vs_size, vs_size, lR.out, hZ]; rfl
  rw [← hR]
  clear hR hZ h1 hm1 h2 hm2
  go_enter Try.func16, Try.ntmps16
  go_upto_region 1 with (fail)
  obtain ⟨rs, hrs⟩ : ∃ x, x = w.heap.size := ⟨_, rfl⟩
  have R0 : Hid (Ar (w.alloc (.cells (vs .u8 Z) 24)) rs 24 .u8 Z) := by rw [hrs]; exact Ar.new w 24 .u8 Z
  have F0 : Hid (Fr (fun _ => False) w (w.alloc (.cells (vs .u8 Z) 24))) := (Fr.refl _ _).alloc _
  have NR : Hid (w.heap.size ≤ rs) := by rw [hrs]; exact Nat.le_refl _
  rw [← hrs]
  generalize w.alloc (.cells (vs .u8 Z) 24) = W0 at *
  clear hz hrs
  try simp only [Act.put, List.setIfInBounds_toArray, List.set_cons_succ, List.set_cons_zero]
  go_wp2_with (first
    | refine wpList_plain rfl fun K' hK' => wp_value _ _ (run_buildS1 (.tmp 6) rfl A2 m2 c2 rfl W0) (hK' _ _ ?_)
    | (go_at_call 26; refine (CT _ _ (F0.out.alloc _) (heap_alloc_new W0 _)).mono ?_; rintro e w1 ⟨rfl, hf⟩; have F1 := Lib.hid ((F0.out.alloc _).trans hf); have R1 := Lib.hid ((R0.out.alloc _).fr hf (fun x => x)); clear hf)
    | refine wpList_store_row rfl 24 (.tmp 4) (.tmp 8) rfl rs (vs .u8 R) rfl rfl 24 _ R1.out sR.out eR.out (vs_all _ _) ?_)
  refine bodyPost_ret (results_cell_row Try.results16 _ _ _ 24 _ (0, 0) _ rfl (setRow_heap _ _ _ _ _ _ R1.out) Try.underlying24 rfl sR.out) rfl ⟨rfl, F1.out.setRow _ (.inr NR.out)⟩
end Go.Proofs.Ytebknlhooijkcaa
