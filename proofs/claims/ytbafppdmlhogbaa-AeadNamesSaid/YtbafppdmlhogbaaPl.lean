/- number.plus: the tag: contract. Conditions: a number below 2^130, two words. -/
import Derived.Test.YtbafppdmlhogbaaLs
import Derived.Test.YtbafppdmlhogbaaK
namespace Go.Proofs.Ytbafppdmlhogbaa
set_option linter.unusedSimpArgs false
set_option linter.unusedVariables false
open Go.RowKit

theorem getD_les (n : Nat) : ∀ (i : Nat) (v : Int), i < n → (les n v)[i]? = some (v / 256 ^ i % 256) := by
  induction n with
  | zero => intro i v h; omega
  | succ n ih =>
    intro i v h
    cases i with
    | zero => simp [les]
    | succ i =>
      simp only [les, List.getElem?_cons_succ]
      rw [ih i (v / 256) (by omega), Int.pow_succ, Int.mul_comm, Int.ediv_ediv_of_nonneg (by decide)]
theorem les_append (n m : Nat) : ∀ (a b : Int), 0 ≤ a → a < 256 ^ n → les n a ++ les m b = les (n + m) (a + 256 ^ n * b) := by
  induction n with
  | zero => intro a b h0 h1; simp at h1; have : a = 0 := by omega
            subst this; simp [les]
  | succ n ih =>
    intro a b h0 h1
    rw [show n + 1 + m = (n + m) + 1 by omega]
    rw [Int.pow_succ] at h1 ⊢
    generalize hp : (256 : Int) ^ n = p at *
    have e : a + p * 256 * b = a + 256 * (p * b) := by rw [Int.mul_comm p 256, Int.mul_assoc]
    have e1 : (a + 256 * (p * b)) % 256 = a % 256 := by omega
    have e2 : (a + 256 * (p * b)) / 256 = a / 256 + p * b := by omega
    simp only [les, List.cons_append, e, e1, e2]
    rw [ih (a / 256) b (by omega) (by omega)]
theorem wp_store_one {o : Oper} {a : Act} {w : World} {K : Act → World → Prop} {Q : Exit → Act → World → Prop} (ty : TypeId) (k : IntKind) (x y : Operand) (ho : o.op = .store ty x y) (q i : Nat) (hx : a.eval x = .pointer (some ⟨q, i, none⟩)) (v : Int) (hy : a.eval y = .int k v)
    (he : Try.prog.underlying ty = some (.int k)) (hz : (Try.prog.info? ty).map (·.size) = some 1) {t : TypeId} {l : List Int} (hA : Ar w q t k l) (hi : i < l.length) (h : K (a.put o.dst undef) (w.setCell ⟨q, i, none⟩ (.int k v))) : o.wp Try.prog a w K Q := by
  have hc := hA.cell (getD_some hi)
  have hf := hA.frozen i
  have hw : (w.cell? ⟨q, i, none⟩).isSome = true := by rw [hc]; rfl
  have hst : (storeVar ty ⟨q, i, none⟩ (.int k v)).run Try.prog w = .ok () (w.setCell ⟨q, i, none⟩ (.int k v)) := by
    cases hq : Try.prog.info? ty with
    | none => simp [hq] at hz
    | some n =>
      have hs : n.size = 1 := by simpa [hq] using hz
      simp [storeVar, sizeOf, typeInfo, hq, hs, Value.cells, storeCells, Addr.add, Sem.run_bind, Sem.run_pure, Result.andThen_ok]
      refine (run_store Try.prog w _ _ _ rfl).trans ?_
      rw [hc]
      simp [hf]
  unfold Oper.wp execOp
  simp only [ho, hx, hy, Instr.storeAt, Instr.sureAddr, Sem.run_bind, Sem.run_pure, Result.andThen_ok, hst]
  exact h

/-- Two halves of eight, each filled from its head. -/
def fl2 (L : List Int) (t : Nat) : List Int := fil (L.take 8) t 0 ++ fil (L.drop 8) t 0
theorem fl2_zero (L : List Int) (h : L.length = 16) : fl2 L 0 = List.replicate 16 0 := by
  unfold fl2
  rw [fil_zero, fil_zero, List.length_take, List.length_drop, h]
  rfl
theorem fl2_length (L : List Int) (h : L.length = 16) (t : Nat) (ht : t ≤ 8) : (fl2 L t).length = 16 := by
  unfold fl2
  rw [List.length_append, fil_length _ _ _ (by rw [List.length_take]; omega), fil_length _ _ _ (by rw [List.length_drop]; omega), List.length_take, List.length_drop]
  omega
theorem fl2_all (L : List Int) (h : L.length = 16) : fl2 L 8 = L := by
  unfold fl2
  have e1 := fil_all (L.take 8) (0 : Int)
  have e2 := fil_all (L.drop 8) (0 : Int)
  rw [List.length_take, h] at e1
  rw [List.length_drop, h] at e2
  rw [show min 8 16 = 8 from rfl] at e1
  rw [show 16 - 8 = 8 from rfl] at e2
  rw [e1, e2, List.take_append_drop]
theorem fl2_set (L : List Int) (h : L.length = 16) (t : Nat) (ht : t < 8) (x y : Int) (hx : L[t]? = some x) (hy : L[8 + t]? = some y) : ((fl2 L t).set t x).set (8 + t) y = fl2 L (t + 1) := by
  unfold fl2
  have l1 : (fil (L.take 8) t 0).length = 8 := by rw [fil_length _ _ _ (by rw [List.length_take]; omega), List.length_take]; omega
  rw [List.set_append_left _ _ (by omega), List.set_append_right _ _ (by rw [List.length_set]; omega), List.length_set, l1, Nat.add_sub_cancel_left]
  rw [fil_set _ _ _ _ (by rw [List.getElem?_take, if_pos ht]; exact hx), fil_set _ _ _ _ (by rw [List.getElem?_drop]; exact hy)]
set_option maxRecDepth 100000 in
set_option maxHeartbeats 8000000 in
theorem plusTag_is (v s0 s1 : Int) (w : World) (h0 : 0 ≤ v) (h1 : v < 1361129467683753853853498429727072845824) (hs0 : WdP s0) (hs1 : WdP s1) :
    Calls Try.prog 41 #[.agg (vs .u64 (num v)), .agg (vs .u64 [s0, s1])] w fun e w' => e = .returned (.agg (vs .u8 (les 16 (v + s0 + 18446744073709551616 * s1)))) ∧ Fr (fun _ => False) w w' := by
  obtain ⟨n0, n1, n2, hn, hn0, hn1, hn2⟩ : ∃ a b c, num v = [a, b, c] ∧ v % 17592186044416 = a ∧ v / 17592186044416 % 17592186044416 = b ∧ v / 309485009821345068724781056 = c := ⟨_, _, _, rfl, rfl, rfl, rfl⟩
  rw [hn]
  obtain ⟨a0, ha0⟩ : ∃ a, v % 18446744073709551616 = a := ⟨_, rfl⟩
  obtain ⟨a1, ha1⟩ : ∃ a, v / 18446744073709551616 % 18446744073709551616 = a := ⟨_, rfl⟩
  have e1 : IntKind.u64.wrap (n1 * 17592186044416) = (n1 % 1048576) * 17592186044416 := by rw [IntKind.wrap_u64]; omega
  have e2 : bits .or .u64 n0 (n1 % 1048576 * 17592186044416) = a0 := (join 44 n0 (n1 % 1048576) (by decide) (by omega) (by omega) (by omega) (by omega)).trans (by omega)
  have e3 : IntKind.u64.wrap (n2 * 16777216) = (n2 % 1099511627776) * 16777216 := by rw [IntKind.wrap_u64]; omega
  have e4 : bits .or .u64 (n1 / 1048576) (n2 % 1099511627776 * 16777216) = a1 := (join 24 (n1 / 1048576) (n2 % 1099511627776) (by decide) (by omega) (by omega) (by omega) (by omega)).trans (by omega)
  obtain ⟨x0, c0, wx0, c00, c01, hx0, f0⟩ := run_add_ex a0 s0 0 ⟨by omega, by omega⟩ hs0 (by decide) (by decide)
  obtain ⟨x1, c1, wx1, c10, c11, hx1, f1⟩ := run_add_ex a1 s1 c0 ⟨by omega, by omega⟩ hs1 c00 c01
  obtain ⟨L, hL⟩ : ∃ L, L = les 16 (v + s0 + 18446744073709551616 * s1) := ⟨_, rfl⟩
  have g0 := hx0.out
  have g1 := hx1.out
  unfold WdP at wx0 wx1
  have HL : Hid (∀ i, i < 8 → L[i]? = some (x0 / 256 ^ i % 256) ∧ L[8 + i]? = some (x1 / 256 ^ i % 256)) := by
    show ∀ i, _
    intro i hi
    have e : les 16 (v + s0 + 18446744073709551616 * s1) = les 8 x0 ++ les 8 x1 := by
      rw [les_append 8 8 x0 x1 wx0.1 (by simpa using wx0.2)]
      apply vl_inj _ _ (les_bys _ _) (les_bys _ _) (by rw [les_length, les_length])
      rw [vl_les, vl_les]
      simp only [Int.reducePow]
      omega
    rw [hL, e]
    refine ⟨?_, ?_⟩
    · rw [List.getElem?_append_left (by rw [les_length]; omega), getD_les 8 i _ hi]
    · rw [List.getElem?_append_right (by rw [les_length]; omega), les_length, Nat.add_sub_cancel_left, getD_les 8 i _ hi]
  have HL1 : Hid (L.length = 16) := by show _ = _; rw [hL, les_length]
  rw [← hL]
  have HX0 := Lib.hid wx0
  have HX1 := Lib.hid wx1
  clear h0 h1 hs0 hs1 hn hn0 hn1 hn2 ha0 ha1 c00 c01 c10 c11 hx0 hx1 g0 g1 wx0 wx1 hL
  go_enter Try.func41, Try.ntmps41
  go_upto_region 1 with (fail)
  generalize hW : ((w.alloc (.cells (vs .u64 [n0, n1, n2]) 62)).alloc (.cells (vs .u64 [s0, s1]) 65)).alloc (.cells #[.int .u8 0, .int .u8 0, .int .u8 0, .int .u8 0, .int .u8 0, .int .u8 0, .int .u8 0, .int .u8 0, .int .u8 0, .int .u8 0, .int .u8 0, .int .u8 0, .int .u8 0, .int .u8 0, .int .u8 0, .int .u8 0] 38) = W0
  have HW := Lib.hid (calm3P hW)
  have X0 : Ar W0 w.heap.size 62 .u64 [n0, n1, n2] := HW.out.1
  have X1 : Ar W0 (w.heap.size + 1) 65 .u64 [s0, s1] := HW.out.2.1
  have X2 : Hid (Ar W0 (w.heap.size + 1 + 1) 38 .u8 (List.replicate 16 0)) := HW.out.2.2.1
  have F0 : Hid (Fr (fun _ => False) w W0) := HW.out.2.2.2
  have k00 := X0.cell (i := 0) rfl
  have k01 := X0.cell (i := 1) rfl
  have k02 := X0.cell (i := 2) rfl
  have k10 := X1.cell (i := 0) rfl
  have k11 := X1.cell (i := 1) rfl
  clear hW HW X0 X1
  have hz : ∀ W : World, (zeroValue 38).run Try.prog W = .ok (.agg (vs .u8 (fil L 0 0))) W := fun W => by rw [fil_zero, HL1.out]; exact zero26 W
  go_upto_region 4 with (fail)
  have HQ : Hid (w.heap.size + 1 + 1 < W0.heap.size) := X2.out.lt
  have A0 : Hid (Ar (W0.alloc (.cells (vs .u8 (fil L 0 0)) 38)) W0.heap.size 38 .u8 (fl2 L 0)) := by
    have h := Ar.new W0 38 .u8 (fil L 0 0)
    have e : fl2 L 0 = fil L 0 0 := by rw [fl2_zero _ HL1.out, fil_zero, HL1.out]
    rw [e]
    exact h
  replace X2 : Hid (Ar (W0.alloc (.cells (vs .u8 (fil L 0 0)) 38)) (w.heap.size + 1 + 1) 38 .u8 (List.replicate 16 0)) := X2.out.alloc _
  have F1 : Hid (Fr (fun _ => False) w (W0.alloc (.cells (vs .u8 (fil L 0 0)) 38))) := F0.out.alloc _
  obtain ⟨q, hq⟩ : ∃ q, q = W0.heap.size := ⟨_, rfl⟩
  rw [← hq] at A0 HQ ⊢
  generalize W0.alloc (.cells (vs .u8 (fil L 0 0)) 38) = W1 at *
  clear hq hz k00 k01 k02 k10 k11 e1 e2 e3 e4 f0 f1 F0
  try simp only [Act.put, List.setIfInBounds_toArray, List.set_cons_succ, List.set_cons_zero]
  go_wp2
  go_loopw [10, 37] (fun u10 u37 wr => ∃ t : Nat, u37 = .int .i64 t ∧ t ≤ 8 ∧ Hid (Ar wr q 38 .u8 (fl2 L t)) ∧ Hid (Ar wr (w.heap.size + 1 + 1) 38 .u8 (List.replicate 16 0)) ∧ Hid (Fr (fun _ => False) w wr))
    (fun _ u37 _ => 8 - (intOf u37).toNat)
  case atStart => exact ⟨0, rfl, by omega, A0, X2, F1⟩
  case round =>
    obtain ⟨t, rfl, ht, hA, hX, hF⟩ := hrel
    by_cases htl : t < 8
    · obtain ⟨p0, hp0⟩ : ∃ p, x0 / 256 ^ t = p := ⟨_, rfl⟩
      obtain ⟨p1, hp1⟩ : ∃ p, x1 / 256 ^ t = p := ⟨_, rfl⟩
      have hs : ∀ (x p : Int), x / 256 ^ t = p → x / 2 ^ (8 * t) = p := fun x p hp => by
        rw [Int.pow_mul]
        simp only [Int.reducePow, hp]
      have hs0 := hs x0 p0 hp0
      have hs1 := hs x1 p1 hp1
      obtain ⟨y0, hy0⟩ : ∃ y, p0 % 256 = y := ⟨_, rfl⟩
      obtain ⟨y1, hy1⟩ : ∃ y, p1 % 256 = y := ⟨_, rfl⟩
      have cv0 : IntKind.u8.wrap p0 = y0 := by rw [IntKind.wrap_u8]; exact hy0
      have cv1 : IntKind.u8.wrap p1 = y1 := by rw [IntKind.wrap_u8]; exact hy1
      have hL := HL.out t htl
      rw [hp0, hp1, hy0, hy1] at hL
      obtain ⟨P0, hP0⟩ : ∃ P, P = fl2 L t := ⟨_, rfl⟩
      obtain ⟨P1, hP1⟩ : ∃ P, P0.set t y0 = P := ⟨_, rfl⟩
      obtain ⟨P2, hP2⟩ : ∃ P, P1.set (8 + t) y1 = P := ⟨_, rfl⟩
      have HP2 : Hid (P2 = fl2 L (t + 1)) := by
        show _ = _
        rw [← hP2, ← hP1, hP0]
        exact fl2_set L HL1.out t htl _ _ hL.1 hL.2
      have lP : P0.length = 16 := by rw [hP0]; exact fl2_length L HL1.out t ht
      have lP1 : P1.length = 16 := by rw [← hP1, List.length_set, lP]
      rw [← hP0] at hA
      have v1 : IntKind.i64.wrap (8 + (t : Int)) = 8 + t := by rw [IntKind.wrap_i64]; omega
      have v2 : IntKind.i64.wrap (8 * (t : Int)) = 8 * t := by rw [IntKind.wrap_i64]; omega
      have j1 : ((t : Int)).toNat = t := by omega
      have j2 : (8 + (t : Int)).toNat = 8 + t := by omega
      have j3 : 0 ≤ (t : Int) := by omega
      have j4 : 0 ≤ 8 + (t : Int) := by omega
      have j5 : (t : Int) < 16 := by omega
      have j6 : 8 + (t : Int) < 16 := by omega
      have A0 := hA
      clear hs hp0 hp1 hy0 hy1 hL hP0
      go_upto_region 7 with (fail)
      generalize decide ((t : Int) < 8) = bz
      refine wp_region_inv2 (fun b a w' => Ar w' (q) 38 .u8 (if b 16 = true then P2 else (if b 14 = true then P1 else (P0))) ∧ Fr (fun k => k = q) wr w' ∧ (b 16 = true → b 14 = true) ∧ a = ⟨#[Value.agg (vs IntKind.u64 [n0, n1, n2]), Value.agg (vs IntKind.u64 [s0, s1]), Value.pointer (some { block := w.heap.size, off := 0 }), Value.pointer (some { block := w.heap.size + 1, off := 0 }), Value.pointer (some { block := w.heap.size + 1 + 1, off := 0 }), Value.int IntKind.u64 x0, Value.int IntKind.u64 c0, Value.int IntKind.u64 x1, Value.int IntKind.u64 c1, Value.pointer (some { block := q, off := 0 }), Value.int IntKind.i64 ↑t, Value.tuple #[Value.int IntKind.u64 x0, Value.int IntKind.u64 c0], Value.pointer (some { block := w.heap.size, off := 0 }), Value.int IntKind.u64 n0, Value.pointer (some { block := w.heap.size, off := 1 }), Value.int IntKind.u64 n1, Value.int IntKind.u64 (n1 % 1048576 * 17592186044416), Value.int IntKind.u64 a0, Value.pointer (some { block := w.heap.size + 1, off := 0 }), Value.int IntKind.u64 s0, Value.tuple #[Value.int IntKind.u64 x0, Value.int IntKind.u64 c0], Value.int IntKind.u64 x0, Value.int IntKind.u64 c0, Value.tuple #[Value.int IntKind.u64 x1, Value.int IntKind.u64 c1], Value.pointer (some { block := w.heap.size, off := 1 }), Value.int IntKind.u64 n1, Value.int IntKind.u64 (n1 / 1048576), Value.pointer (some { block := w.heap.size, off := 2 }), Value.int IntKind.u64 n2, Value.int IntKind.u64 (n2 % 1099511627776 * 16777216), Value.int IntKind.u64 a1, Value.pointer (some { block := w.heap.size + 1, off := 1 }), Value.int IntKind.u64 s1, Value.int IntKind.u64 c0, Value.tuple #[Value.int IntKind.u64 x1, Value.int IntKind.u64 c1], Value.int IntKind.u64 x1, Value.int IntKind.u64 c1, Value.int IntKind.i64 ↑t, .bool bz, Value.int IntKind.i64 ↑t, if b 0 = true then Value.int IntKind.i64 ↑t else u40, if b 1 = true then Value.int IntKind.i64 ↑t else u41, if b 2 = true then .int .i64 (8 + (t : Int)) else u42, if b 3 = true then Value.int IntKind.u64 x0 else u43, if b 4 = true then Value.int IntKind.i64 ↑t else u44, if b 5 = true then .int .i64 (8 * (t : Int)) else u45, if b 6 = true then .int .u64 p0 else u46, if b 7 = true then .int .u8 y0 else u47, if b 8 = true then Value.int IntKind.u64 x1 else u48, if b 9 = true then Value.int IntKind.i64 ↑t else u49, if b 10 = true then .int .i64 (8 * (t : Int)) else u50, if b 11 = true then .int .u64 p1 else u51, if b 12 = true then .int .u8 y1 else u52, if b 13 = true then .pointer (some ⟨q, t, none⟩) else u53, if b 15 = true then .pointer (some ⟨q, 8 + t, none⟩) else u54, u55, undef], []⟩) (by kernel_rfl) (by kernel_rfl) ?start7 ?step7 ?done7
      case start7 => exact ⟨by simp only [Bool.false_eq_true, if_false]; exact A0.out, ⟨rfl, rfl, rfl, Nat.le_refl _, fun _ _ _ => rfl⟩, by simp, by simp⟩
      case step7 =>
        intro i5 o5 b a w1 ho hI hb hr hcl
        obtain ⟨hA, hF, hS, rfl⟩ := hI
        match i5, ho with
        | 0, ho =>
          injection ho with ho
          subst ho
          refine wp_quiet_here (Value.int IntKind.i64 ↑t) (BigFrame.quiet_move _ rfl rfl) (fun w2 hw2 => ?_)
          refine ⟨by simpa [upd] using hA.fr hw2 (fun x => x), hF.trans hw2.any, by simpa [upd] using hS, ?_⟩
          · simp [upd, Act.put]
        | 1, ho =>
          injection ho with ho
          subst ho
          refine wp_quiet_here (Value.int IntKind.i64 ↑t) (BigFrame.quiet_move _ rfl rfl) (fun w2 hw2 => ?_)
          refine ⟨by simpa [upd] using hA.fr hw2 (fun x => x), hF.trans hw2.any, by simpa [upd] using hS, ?_⟩
          · simp [upd, Act.put]
        | 2, ho =>
          injection ho with ho
          subst ho
          simp [Region.binds] at hr
          have d1 : b 1 = true := by simp only [hr]
          simp only [hr, if_true]
          refine wp_quiet_here (.int .i64 (8 + (t : Int))) ?_ (fun w2 hw2 => ?_)
          · go_big_quiet_op
            first
              | (simp [Act.put]; done)
              | exact ⟨_, fun _ _ => rfl, by simp [Act.put] <;> assumption⟩
          refine ⟨by simpa [upd] using hA.fr hw2 (fun x => x), hF.trans hw2.any, by simpa [upd] using hS, ?_⟩
          · simp [upd, Act.put, hr]
        | 3, ho =>
          injection ho with ho
          subst ho
          refine wp_quiet_here (Value.int IntKind.u64 x0) (BigFrame.quiet_move _ rfl rfl) (fun w2 hw2 => ?_)
          refine ⟨by simpa [upd] using hA.fr hw2 (fun x => x), hF.trans hw2.any, by simpa [upd] using hS, ?_⟩
          · simp [upd, Act.put]
        | 4, ho =>
          injection ho with ho
          subst ho
          refine wp_quiet_here (Value.int IntKind.i64 ↑t) (BigFrame.quiet_move _ rfl rfl) (fun w2 hw2 => ?_)
          refine ⟨by simpa [upd] using hA.fr hw2 (fun x => x), hF.trans hw2.any, by simpa [upd] using hS, ?_⟩
          · simp [upd, Act.put]
        | 5, ho =>
          injection ho with ho
          subst ho
          simp [Region.binds] at hr
          have d4 : b 4 = true := by simp only [hr]
          simp only [hr, if_true]
          refine wp_quiet_here (.int .i64 (8 * (t : Int))) ?_ (fun w2 hw2 => ?_)
          · go_big_quiet_op
            first
              | (simp [Act.put]; done)
              | exact ⟨_, fun _ _ => rfl, by simp [Act.put] <;> assumption⟩
          refine ⟨by simpa [upd] using hA.fr hw2 (fun x => x), hF.trans hw2.any, by simpa [upd] using hS, ?_⟩
          · simp [upd, Act.put, hr]
        | 6, ho =>
          injection ho with ho
          subst ho
          simp [Region.binds] at hr
          have d3 : b 3 = true := by simp only [hr]
          have d5 : b 5 = true := by simp only [hr]
          simp only [hr, if_true]
          refine wp_quiet_here (.int .u64 p0) ?_ (fun w2 hw2 => ?_)
          · go_big_quiet_op
            first
              | (simp [Act.put]; done)
              | exact ⟨_, fun _ _ => rfl, by simp [Act.put] <;> assumption⟩
          refine ⟨by simpa [upd] using hA.fr hw2 (fun x => x), hF.trans hw2.any, by simpa [upd] using hS, ?_⟩
          · simp [upd, Act.put, hr]
        | 7, ho =>
          injection ho with ho
          subst ho
          simp [Region.binds] at hr
          have d6 : b 6 = true := by simp only [hr]
          simp only [hr, if_true]
          refine wp_quiet_here (.int .u8 y0) ?_ (fun w2 hw2 => ?_)
          · go_big_quiet_op
            first
              | (simp [Act.put]; done)
              | exact ⟨_, fun _ _ => rfl, by simp [Act.put] <;> assumption⟩
          refine ⟨by simpa [upd] using hA.fr hw2 (fun x => x), hF.trans hw2.any, by simpa [upd] using hS, ?_⟩
          · simp [upd, Act.put, hr]
        | 8, ho =>
          injection ho with ho
          subst ho
          refine wp_quiet_here (Value.int IntKind.u64 x1) (BigFrame.quiet_move _ rfl rfl) (fun w2 hw2 => ?_)
          refine ⟨by simpa [upd] using hA.fr hw2 (fun x => x), hF.trans hw2.any, by simpa [upd] using hS, ?_⟩
          · simp [upd, Act.put]
        | 9, ho =>
          injection ho with ho
          subst ho
          refine wp_quiet_here (Value.int IntKind.i64 ↑t) (BigFrame.quiet_move _ rfl rfl) (fun w2 hw2 => ?_)
          refine ⟨by simpa [upd] using hA.fr hw2 (fun x => x), hF.trans hw2.any, by simpa [upd] using hS, ?_⟩
          · simp [upd, Act.put]
        | 10, ho =>
          injection ho with ho
          subst ho
          simp [Region.binds] at hr
          have d9 : b 9 = true := by simp only [hr]
          simp only [hr, if_true]
          refine wp_quiet_here (.int .i64 (8 * (t : Int))) ?_ (fun w2 hw2 => ?_)
          · go_big_quiet_op
            first
              | (simp [Act.put]; done)
              | exact ⟨_, fun _ _ => rfl, by simp [Act.put] <;> assumption⟩
          refine ⟨by simpa [upd] using hA.fr hw2 (fun x => x), hF.trans hw2.any, by simpa [upd] using hS, ?_⟩
          · simp [upd, Act.put, hr]
        | 11, ho =>
          injection ho with ho
          subst ho
          simp [Region.binds] at hr
          have d8 : b 8 = true := by simp only [hr]
          have d10 : b 10 = true := by simp only [hr]
          simp only [hr, if_true]
          refine wp_quiet_here (.int .u64 p1) ?_ (fun w2 hw2 => ?_)
          · go_big_quiet_op
            first
              | (simp [Act.put]; done)
              | exact ⟨_, fun _ _ => rfl, by simp [Act.put] <;> assumption⟩
          refine ⟨by simpa [upd] using hA.fr hw2 (fun x => x), hF.trans hw2.any, by simpa [upd] using hS, ?_⟩
          · simp [upd, Act.put, hr]
        | 12, ho =>
          injection ho with ho
          subst ho
          simp [Region.binds] at hr
          have d11 : b 11 = true := by simp only [hr]
          simp only [hr, if_true]
          refine wp_quiet_here (.int .u8 y1) ?_ (fun w2 hw2 => ?_)
          · go_big_quiet_op
            first
              | (simp [Act.put]; done)
              | exact ⟨_, fun _ _ => rfl, by simp [Act.put] <;> assumption⟩
          refine ⟨by simpa [upd] using hA.fr hw2 (fun x => x), hF.trans hw2.any, by simpa [upd] using hS, ?_⟩
          · simp [upd, Act.put, hr]
        | 13, ho =>
          injection ho with ho
          subst ho
          simp [Region.binds] at hr
          have d0 : b 0 = true := by simp only [hr]
          have d3 : b 3 = true := by simp only [hr]
          have d4 : b 4 = true := by simp only [hr]
          have d5 : b 5 = true := by simp only [hr]
          have d6 : b 6 = true := by simp only [hr]
          have d7 : b 7 = true := by simp only [hr]
          simp only [hr, if_true]
          refine wp_quiet_here (.pointer (some ⟨q, t, none⟩)) ?_ (fun w2 hw2 => ?_)
          · go_big_quiet_op
            first
              | (simp [Act.put]; done)
              | exact ⟨_, fun _ _ => rfl, by simp [Act.put] <;> assumption⟩
          refine ⟨by simpa [upd] using hA.fr hw2 (fun x => x), hF.trans hw2.any, by simpa [upd] using hS, ?_⟩
          · simp [upd, Act.put, hr]
        | 14, ho =>
          injection ho with ho
          subst ho
          simp [Region.binds] at hr
          have d0 : b 0 = true := by simp only [hr]
          have d3 : b 3 = true := by simp only [hr]
          have d4 : b 4 = true := by simp only [hr]
          have d5 : b 5 = true := by simp only [hr]
          have d6 : b 6 = true := by simp only [hr]
          have d7 : b 7 = true := by simp only [hr]
          have d13 : b 13 = true := by simp only [hr]
          simp only [hr, if_true]
          have n2 : b 16 = false := by
            rcases hbs : b 16 with _ | _
            · rfl
            · rw [hS hbs] at hb
              cases hb
          simp only [hb, n2, Bool.false_eq_true, if_false] at hA
          refine wp_store_one 5 .u8 _ _ rfl (q) (t) rfl (y0) rfl Try.underlying5 size5 hA ?_ ?_
          · rw [lP]; omega
          refine ⟨?_, hF.setCell _ (.inl rfl), ?_, ?_⟩
          · have hh := hA.set (t) (y0)
            rw [hP1] at hh
            simpa [upd, n2] using hh
          · simp [upd]
          · simp [upd, Act.put, hr]
        | 15, ho =>
          injection ho with ho
          subst ho
          simp [Region.binds] at hr
          have d0 : b 0 = true := by simp only [hr]
          have d1 : b 1 = true := by simp only [hr]
          have d2 : b 2 = true := by simp only [hr]
          have d3 : b 3 = true := by simp only [hr]
          have d4 : b 4 = true := by simp only [hr]
          have d5 : b 5 = true := by simp only [hr]
          have d6 : b 6 = true := by simp only [hr]
          have d7 : b 7 = true := by simp only [hr]
          have d8 : b 8 = true := by simp only [hr]
          have d9 : b 9 = true := by simp only [hr]
          have d10 : b 10 = true := by simp only [hr]
          have d11 : b 11 = true := by simp only [hr]
          have d12 : b 12 = true := by simp only [hr]
          have d13 : b 13 = true := by simp only [hr]
          have d14 : b 14 = true := by simp only [hr]
          simp only [hr, if_true]
          refine wp_quiet_here (.pointer (some ⟨q, 8 + t, none⟩)) ?_ (fun w2 hw2 => ?_)
          · go_big_quiet_op
            first
              | (simp [Act.put]; done)
              | exact ⟨_, fun _ _ => rfl, by simp [Act.put] <;> assumption⟩
          refine ⟨by simpa [upd] using hA.fr hw2 (fun x => x), hF.trans hw2.any, by simpa [upd] using hS, ?_⟩
          · simp [upd, Act.put, hr]
        | 16, ho =>
          injection ho with ho
          subst ho
          simp [Region.binds] at hr
          have d0 : b 0 = true := by simp only [hr]
          have d1 : b 1 = true := by simp only [hr]
          have d2 : b 2 = true := by simp only [hr]
          have d3 : b 3 = true := by simp only [hr]
          have d4 : b 4 = true := by simp only [hr]
          have d5 : b 5 = true := by simp only [hr]
          have d6 : b 6 = true := by simp only [hr]
          have d7 : b 7 = true := by simp only [hr]
          have d8 : b 8 = true := by simp only [hr]
          have d9 : b 9 = true := by simp only [hr]
          have d10 : b 10 = true := by simp only [hr]
          have d11 : b 11 = true := by simp only [hr]
          have d12 : b 12 = true := by simp only [hr]
          have d13 : b 13 = true := by simp only [hr]
          have d14 : b 14 = true := by simp only [hr]
          have d15 : b 15 = true := by simp only [hr]
          simp only [hr, if_true]
          simp only [hb, d14, Bool.false_eq_true, if_false, if_true] at hA
          refine wp_store_one 5 .u8 _ _ rfl (q) (8 + t) rfl (y1) rfl Try.underlying5 size5 hA ?_ ?_
          · rw [lP1]; omega
          refine ⟨?_, hF.setCell _ (.inl rfl), ?_, ?_⟩
          · have hh := hA.set (8 + t) (y1)
            rw [hP2] at hh
            simpa [upd] using hh
          · simp [upd, d14]
          · simp [upd, Act.put, hr]
        | j + 17, ho => exact absurd ho (by simp)
      intro b a w9 hall hI
      obtain ⟨A9, G9, hS9, rfl⟩ := hI
      have t0 : b 0 = true := hall 0 (by simp)
      have t1 : b 1 = true := hall 1 (by simp)
      have t2 : b 2 = true := hall 2 (by simp)
      have t3 : b 3 = true := hall 3 (by simp)
      have t4 : b 4 = true := hall 4 (by simp)
      have t5 : b 5 = true := hall 5 (by simp)
      have t6 : b 6 = true := hall 6 (by simp)
      have t7 : b 7 = true := hall 7 (by simp)
      have t8 : b 8 = true := hall 8 (by simp)
      have t9 : b 9 = true := hall 9 (by simp)
      have t10 : b 10 = true := hall 10 (by simp)
      have t11 : b 11 = true := hall 11 (by simp)
      have t12 : b 12 = true := hall 12 (by simp)
      have t13 : b 13 = true := hall 13 (by simp)
      have t14 : b 14 = true := hall 14 (by simp)
      have t15 : b 15 = true := hall 15 (by simp)
      have t16 : b 16 = true := hall 16 (by simp)
      simp only [t0, t1, t2, t3, t4, t5, t6, t7, t8, t9, t10, t11, t12, t13, t14, t15, t16, if_true] at A9 ⊢
      clear hall hS9 t0 t1 t2 t3 t4 t5 t6 t7 t8 t9 t10 t11 t12 t13 t14 t15 t16
      replace A9 := Lib.hid A9
      replace G9 := Lib.hid G9
      have X3 : Hid (Ar w9 (w.heap.size + 1 + 1) 38 .u8 (List.replicate 16 0)) := hX.out.fr G9.out (by have := HQ.out; show ¬ _ = _; omega)
      have F3 : Hid (Fr (fun _ => False) w w9) := hF.out.trans' G9.out (fun k hk e => by have := HQ.out; omega)
      have A3 : Hid (Ar w9 q 38 .u8 (fl2 L (t + 1))) := by rw [← HP2.out]; exact A9.out
      clear hA hX hF A0 A9 G9 HP2
      go_wp2
      go_roundw
      case rel => exact ⟨t + 1, by go_num, by omega, A3, X3, F3⟩
      case measure => simp [intOf]; omega
    · have h8 : t = 8 := by omega
      have X9 : Hid (Ar wr q 38 .u8 L) := by
        have h := hA.out
        rwa [h8, fl2_all L HL1.out] at h
      have sL : Hid ((Try.prog.info? 38).map (·.size) = some (vs .u8 L).size) := by show _ = _; rw [vs_size, HL1.out]; exact info26
      have eL : Hid ((vs .u8 (List.replicate 16 0)).size = (vs .u8 L).size) := by show _ = _; rw [vs_size, vs_size, HL1.out]; rfl
      clear hA
      go_wp2_with (first
        | refine wpList_load_row rfl 38 (.tmp 9) rfl q rfl 38 (vs .u8 L) (0, 0) _ X9.out Try.underlying38 rfl sL.out ?_
        | refine wpList_store_row rfl 38 (.tmp 4) (.tmp 56) rfl (w.heap.size + 1 + 1) (vs .u8 L) rfl rfl 38 _ hX.out sL.out eL.out (vs_all _ _) ?_)
      refine bodyPost_ret (results_cell_row Try.results41 _ _ _ 38 _ (0, 0) _ rfl (setRow_heap _ _ _ _ _ _ hX.out) Try.underlying38 rfl sL.out) rfl ⟨rfl, hF.out.setRow _ (.inr (by omega))⟩
end Go.Proofs.Ytbafppdmlhogbaa
