/- KdfSteps answers true for all keys, infos and numbers: the given statement KdfStepsSaid. No condition. -/
import Derived.Test.YtebknlhooijkcaaYq8
namespace Go.Proofs.Ytebknlhooijkcaa
set_option linter.unusedSimpArgs false
set_option linter.unusedVariables false
open Go.ChangeShapes Go.WideShapes Go.ChangeAt Go.RowKit


theorem info_b5 : (Try.prog.info? 5).map (fun i => (i.zero, i.size)) = some (some (.int .u8 0), 1) := by kernel_rfl
theorem run_build1 {o : Oper} {a : Act} (x : Operand) (ho : o.op = .buildSlice 22 1 #[(0, x)]) (y : Int) (hx : a.eval x = .int .u8 y) (w : World) :
    (execOp a.eval o).run Try.prog w = .ok (.value (.slice (some ⟨w.heap.size, 0, none⟩) 1 1)) (w.alloc (.cells #[.int .u8 y] 5)) := by
  have hi := info_b5
  cases hq : Try.prog.info? 5 with
  | none => simp [hq] at hi
  | some ie =>
    simp only [hq, Option.map_some, Option.some.injEq, Prod.mk.injEq] at hi
    obtain ⟨hz, hs⟩ := hi
    have h := run_buildSlice (P := Try.prog) w 22 5 1 (#[(0, x)].map fun (i, x) => (i, a.eval x)) #[.int .u8 y] ie (.int .u8 0) (by kernel_rfl) hq hz (by rw [hs]; omega) (by rw [hs]; omega) (by rw [hs]; simp only [List.map_toArray, List.map_cons, List.map_nil, hx]; kernel_rfl)
    unfold execOp
    simp only [ho, Sem.run_bind, h, Result.andThen_ok, Sem.run_pure]
/-- What the loop keeps. -/
structure Zs (W1 wr : World) (k info : List Int) (i : Nat) (last : Value) : Prop where
  fr : Fr (fun _ => False) W1 wr
  last : ∃ A m c gl, last = .slice A m c ∧ Sl wr gl (.slice A m c) (ex k info i)
set_option maxRecDepth 100000 in
set_option maxHeartbeats 16000000 in
theorem law_steps_any (k0 : List Int) (g1 : Nat) (A1 : Option Addr) (m1 s1 : Nat) (l1 : List Int) (a2 : Int) (w : World) (lk0 : k0.length = 32) (bk0 : Bys k0) (hs1 : Sl w g1 (.slice A1 m1 s1) l1) (hn1 : m1 ≤ 140737488351232) (hg1 : l1 ≠ [] → g1 < w.heap.size) (ha : -9223372036854775808 ≤ a2 ∧ a2 ≤ 9223372036854775807) :
    Calls Try.prog 8 #[.agg (vs .u8 k0), .slice A1 m1 s1, .int .i64 a2] w fun e w' => e = .returned (.bool true) ∧ Fr (fun _ => False) w w' := by
  obtain ⟨r, hr, CB⟩ : ∃ r : Nat, r < 9 ∧ ∀ W, Calls Try.prog 24 #[.int .i64 a2, .int .i64 9] W fun e w' => e = .returned (.int .i64 r) ∧ W = w' := bring_fix a2 9 ha.1 ha.2 (by decide) (by decide)
  obtain ⟨N, hN⟩ : ∃ N, N = r + 1 := ⟨_, rfl⟩
  have hN9 : N ≤ 9 := by omega
  have hN1 : 1 ≤ N := by omega
  have eN : Unit → 1 + (r : Int) = (N : Int) := fun _ => by omega
  have n32 : IntKind.i64.wrap (32 * (N : Int)) = 32 * (N : Int) := by rw [IntKind.wrap_i64]; omega
  have lK : Hid (k0.length = 32) := lk0
  have bK : Hid (Bys k0) := bk0
  have L1 := Lib.hid hs1.len
  have HM : Hid (m1 ≤ 140737488351232) := hn1
  have H1 := Lib.hid hs1
  have lx : Hid (∀ i, (ex k0 l1 i).length ≤ 32) := fun i => by
    cases i with
    | zero => simp [ex]
    | succ i => rw [ex_length]; exact Nat.le_refl _
  obtain ⟨V, hV⟩ : ∃ V, V = exs k0 l1 N := ⟨_, rfl⟩
  have lV : Hid (V.length = 32 * N) := by show _ = _; rw [hV]; exact exs_length _ _ _
  have VE : Hid (∀ i, i < N → (V.drop (32 * i)).take (32 * (i + 1) - 32 * i) = ex k0 l1 (i + 1)) := fun i hi => by rw [hV]; exact exs_piece k0 l1 i N hi
  have CE : ∀ W, Fr (fun _ => False) w W → Calls Try.prog 18 #[.agg (vs .u8 k0), .slice A1 m1 s1, .int .i64 (32 * (N : Int))] W fun e w' => ∃ v, e = .returned (.tuple #[v, .int .i64 0]) ∧ Nw W w' v V ∧ Fr (fun _ => False) W w' := fun W hf => by
    have e := kexpand_is k0 g1 A1 m1 s1 l1 (32 * (N : Int)) W lk0 bk0 (hs1.fr hf (fun _ x => x)) hn1
    have e2 : expv k0 l1 (32 * (N : Int)) = (V, 0) := by
      have h := (expv_len k0 l1 (32 * N) (by omega)).1
      rw [show ((32 * N : Nat) : Int) = 32 * (N : Int) by omega, show (32 * N + 31) / 32 = N by omega, List.take_of_length_le (by rw [exs_length]; exact Nat.le_refl _), ← hV] at h
      exact h
    rw [e2] at e
    exact e
  have CH : ∀ W bx v i, Ar W bx 24 .u8 k0 → i < N → Ow W v ((ex k0 l1 i ++ l1) ++ [(i : Int) + 1]) → Calls Try.prog 12 #[.slice (some ⟨bx, 0, none⟩) 32 32, v] W fun e w' => e = .returned (.agg (vs .u8 (ex k0 l1 (i + 1)))) ∧ Fr (fun _ => False) W w' := fun W bx v i h1 h2 h3 => by
    obtain ⟨A, n, c, rfl, hn⟩ := h3.shape
    have e := khmac_is bx _ 32 32 k0 _ A n c _ W (h1.slt bK.out lK.out (by decide)) (by decide) h3.sl (by
      have e1 := lx.out i
      have := L1.out
      have := HM.out
      rw [hn]
      simp only [List.length_append, List.length_cons, List.length_nil]
      omega)
    rw [ex, show ((i + 1 : Nat) : Int) % 256 = (i : Int) + 1 by omega]
    exact e
  obtain ⟨Z, hZ⟩ : ∃ Z, Z = List.replicate 32 (0 : Int) := ⟨_, rfl⟩
  have hz : ∀ W : World, (zeroValue 24).run Try.prog W = .ok (.agg (vs .u8 Z)) W := fun W => by rw [hZ]; exact zeroA32 W
  have LZ : Hid (Z.length = 32) := by show _ = _; rw [hZ]; rfl
  have sk : Hid ((Try.prog.info? 24).map (·.size) = some (vs .u8 k0).size) := by show _ = _; rw [szA32, vs_size, lk0]
  clear hV hZ ha hs1 hn1 hg1 lk0 bk0
  go_enter Try.func8, Try.ntmps8
  go_upto_region 1 with (fail)
  obtain ⟨bx, hbx⟩ : ∃ x, x = w.heap.size := ⟨_, rfl⟩
  have K0 : Hid (Ar (w.alloc (.cells (vs .u8 k0) 24)) bx 24 .u8 k0) := by rw [hbx]; exact Ar.new w 24 .u8 k0
  have F0 : Hid (Fr (fun _ => False) w (w.alloc (.cells (vs .u8 k0) 24))) := (Fr.refl _ _).alloc _
  rw [← hbx]
  generalize w.alloc (.cells (vs .u8 k0) 24) = W0 at *
  clear hbx
  try simp only [Act.put, List.setIfInBounds_toArray, List.set_cons_succ, List.set_cons_zero]
  go_upto_region 3 with (go_at_call 15; refine (works_is _).mono ?_; rintro e w2 ⟨rfl, hf⟩; have K2 := Lib.hid (K0.out.fr hf (fun x => x)); have F2 := Lib.hid (F0.out.trans hf); clear hf)
  clear K0 F0
  go_upto_region 4 with (go_at_call 24; refine (CB _).mono ?_; rintro e w3 ⟨rfl, rfl⟩)
  clear CB hN
  rw [eN ()]
  clear eN hr
  go_upto_region 5 with (first
    | refine wpList_load_row rfl 24 (.tmp 3) rfl bx rfl 24 (vs .u8 k0) (0, 0) _ K2.out Try.underlying24 rfl sk.out ?_
    | (go_at_call 18; refine (CE _ F2.out).mono ?_; rintro e w4 ⟨v4, rfl, hn, hf⟩; have N4 := Lib.hid hn; have K4 := Lib.hid (K2.out.fr hf (fun x => x)); have F4 := Lib.hid (F2.out.trans hf); clear hn hf))
  obtain ⟨gb, cb, rfl, _, hcb, hsb⟩ := N4.out.open (by rw [lV.out]; omega)
  rw [lV.out] at hsb hcb
  rw [lV.out]
  have SB4 := Lib.hid hsb
  have HCB : Hid (32 * N ≤ cb) := hcb
  clear hsb hcb N4 K2 F2 CE
  have X4 : Hid (Zs w4 w4 k0 l1 0 (.slice none 0 0)) := ⟨Fr.refl _ _, none, 0, 0, 0, rfl, Sl.nil _ _⟩
  go_upto_region 9 with (fail)
  go_loopw [10, 9] (fun u10 u9 wr => ∃ i : Nat, u10 = .int .i64 ((i : Int) + 1) ∧ i ≤ N ∧ Hid (Zs w4 wr k0 l1 i u9)) (fun u10 _ _ => 256 - (intOf u10).toNat)
  case atStart => exact ⟨0, rfl, Nat.zero_le _, X4⟩
  case round =>
  clear X4
  obtain ⟨i, rfl, hi, hX⟩ := hrel
  obtain ⟨hF, A, m, c, gl0, rfl, hS⟩ := hX.out
  have FF := Lib.hid hF
  have SS := Lib.hid hS
  clear hF hS hX
  by_cases hil : i < N
  · have t1 : (i : Int) + 1 ≤ N := by omega
    have t2 : i + 1 ≤ 9 := by omega
    have LL := Lib.hid (lx.out i)
    have K5 := Lib.hid (K4.out.fr FF.out (fun x => x))
    go_upto_region 12 with (first
      | (go_at_call 11; refine (copy_new wr wr SS.out (by have := LL.out; have := SS.out.len; omega) (Fr.refl _ _)).mono ?_; rintro e w6 ⟨v6, rfl, hn, hf⟩; have N6 := Lib.hid hn; have F6 := Lib.hid hf; clear hn hf)
      | (at_builtin; refine wpList_own rfl (.tmp 41) (.tmp 42) rfl N6.out.1 rfl rfl (H1.out.fr ((F4.out.trans FF.out).trans F6.out) (fun _ x => x)) (by have := LL.out; have := HM.out; omega) ?_; intro A7 N7 c7 w7 hap hN7; have HA := Lib.hid hap; clear hap hN7))
    obtain ⟨r1, r2⟩ := Nw.app N6.out F6.out (Fr.refl _ _) HA.out
    have O7 := Lib.hid r1
    have F7 := Lib.hid r2
    clear r1 r2 HA N6 F6
    have K7 := Lib.hid (K5.out.fr F7.out (fun x => x))
    have S7 := Lib.hid (SB4.out.fr (FF.out.trans F7.out) (fun _ x => x))
    have LV7 : Hid (∀ j, (Value.slice A7 N7 c7).ownBlock = some j → j < w7.heap.size ∧ wr.heap.size ≤ j) := fun j hj => ⟨O7.out.1.lt j hj, O7.out.2 j hj⟩
    have NX : Hid (bx < wr.heap.size) := K5.out.lt
    obtain ⟨E, hE⟩ : ∃ E, E = ex k0 l1 (i + 1) := ⟨_, rfl⟩
    have lE : Hid (E.length = 32 ∧ Bys E) := by rw [hE]; exact ⟨ex_length _ _ _, ex_bys _ _ _⟩
    have sE : Hid ((Try.prog.info? 24).map (·.size) = some (vs .u8 E).size) := by show _ = _; rw [szA32, vs_size, lE.out.1]
    have eE : Hid ((vs .u8 Z).size = (vs .u8 E).size) := by show _ = _; rw [vs_size, vs_size, lE.out.1, LZ.out]
    have CH7 : ∀ W v, Ar W bx 24 .u8 k0 → Ow W v ((ex k0 l1 i ++ l1) ++ [(i : Int) + 1]) → Calls Try.prog 12 #[.slice (some ⟨bx, 0, none⟩) 32 32, v] W fun e w' => e = .returned (.agg (vs .u8 E)) ∧ Fr (fun _ => False) W w' := fun W v h1 h2 => by rw [hE]; exact CH W bx v i h1 hil h2
    have UE : Unit → E = ex k0 l1 (i + 1) := fun _ => hE
    have VE7 : Unit → (V.drop (32 * i)).take (32 * (i + 1) - 32 * i) = E := fun _ => by rw [hE]; exact VE.out i hil
    have HB7 : Hid ((ex k0 l1 i ++ l1).length + 1 ≤ 140737488355328) := by show _ ≤ _; have := LL.out; have := L1.out; have := HM.out; rw [List.length_append]; omega
    clear hE CH
    refine wp_region_inv2 (fun b a w' => ∃ gl : Nat, ∃ vA : Value, ∃ gt : Nat, Fr (fun j => (Value.slice A7 N7 c7).ownBlock = some j) w7 w' ∧ (b 4 = true → b 8 = false → w7.heap.size ≤ gl ∧ Sl w' gl (.slice (some ⟨gl, 0, none⟩) 1 1) [(i : Int) + 1]) ∧ (b 5 = true → b 8 = false → True ∧ Ow w' vA ((ex k0 l1 i ++ l1) ++ [(i : Int) + 1])) ∧ (b 7 = true → b 8 = false → w7.heap.size ≤ gt ∧ Ar w' gt 24 .u8 Z) ∧ (b 5 = false → Ow w' (.slice A7 N7 c7) (ex k0 l1 i ++ l1)) ∧ (b 8 = true → w7.heap.size ≤ gt ∧ Ar w' gt 24 .u8 E) ∧ a = ⟨#[Value.agg (vs IntKind.u8 k0), Value.slice A1 m1 s1, Value.int IntKind.i64 ↑N, Value.pointer (some { block := bx, off := 0 }), undef, undef, u6, Value.slice (some { block := gb, off := 0 }) (32 * N) cb, Value.int IntKind.i64 0, Value.slice A m c, Value.int IntKind.i64 (↑i + 1), Value.slice A7 N7 c7, if b 7 = true then .pointer (some ⟨gt, 0, none⟩) else u12, Value.bool true, Value.bool false, Value.int IntKind.i64 a2, Value.int IntKind.i64 ↑r, Value.int IntKind.i64 ↑N, Value.tuple #[Value.slice (some { block := gb, off := 0 }) (32 * N) cb, Value.int IntKind.i64 0], Value.agg (vs IntKind.u8 k0), Value.slice A1 m1 s1, Value.int IntKind.i64 ↑N, Value.int IntKind.i64 (32 * ↑N), Value.tuple #[Value.slice (some { block := gb, off := 0 }) (32 * N) cb, Value.int IntKind.i64 0], Value.slice (some { block := gb, off := 0 }) (32 * N) cb, Value.int IntKind.i64 0, Value.int IntKind.i64 0, Value.bool false, Value.bool false, Value.slice (some { block := gb, off := 0 }) (32 * N) cb, Value.int IntKind.i64 (32 * ↑N), Value.int IntKind.i64 ↑N, Value.int IntKind.i64 (32 * ↑N), Value.bool false, Value.bool false, Value.int IntKind.i64 (↑i + 1), Value.int IntKind.i64 ↑N, Value.bool true, u38, u39, Value.slice A m c, v6, Value.slice A1 m1 s1, Value.slice A7 N7 c7, if b 0 = true then .slice (some ⟨bx, 0, none⟩) 32 32 else u44, if b 1 = true then Value.slice A7 N7 c7 else u45, if b 2 = true then Value.int IntKind.i64 (↑i + 1) else u46, if b 3 = true then .int .u8 ((i : Int) + 1) else u47, if b 4 = true then .slice (some ⟨gl, 0, none⟩) 1 1 else u48, if b 5 = true then vA else u49, if b 6 = true then .agg (vs .u8 E) else u50, u51, u52, u53, u54, u55, u56, u57, u58, u59, u60, u61], []⟩) (by kernel_rfl) (by kernel_rfl) ?start12 ?step12 ?done12
    case start12 => exact ⟨0, undef, 0, ⟨rfl, rfl, rfl, Nat.le_refl _, fun _ _ _ => rfl⟩, fun h => by simp at h, fun h => by simp at h, fun h => by simp at h, fun _ => O7.out.1.keep (show Fr (fun _ => False) w7 _ from ⟨rfl, rfl, rfl, Nat.le_refl _, fun _ _ _ => rfl⟩) (fun _ _ x => x), fun h => by simp at h, by simp⟩
    case step12 =>
      intro i5 o5 b a w1 ho hI hb hr hcl
      obtain ⟨gl, vA, gt, hF, h4, h5, h7, hpre0, hfinal, rfl⟩ := hI
      match i5, ho with
      | 0, ho =>
        injection ho with ho
        subst ho
        have nfin : b 8 = false := by
          rcases hbs : b 8 with _ | _
          · rfl
          · rw [chain hcl 8 0 rfl hbs (by simp [Region.binds])] at hb
            cases hb
        refine wp_quiet_here (.slice (some ⟨bx, 0, none⟩) 32 32) ?_ (fun w2 hw2 => ?_)
        · simp only [Bool.false_eq_true] 
          go_big_quiet_op
          first
            | (simp [Act.put]; done)
            | exact ⟨_, fun _ _ => rfl, by simp [Act.put] <;> assumption⟩
        refine ⟨gl, vA, gt, hF.trans hw2.any, ?_, ?_, ?_, ?_, ?_, ?_⟩
        · intro hx _
          have hy := h4 (by simpa [upd] using hx) nfin
          exact ⟨hy.1, hy.2.fr hw2 (fun _ => by first | exact fun x => x | (intro hj; have h8 := LV7.out _ hj; have h9 := hy.1; omega))⟩
        · intro hx _
          have hy := h5 (by simpa [upd] using hx) nfin
          exact ⟨trivial, hy.2.keep hw2 (fun _ _ x => x)⟩
        · intro hx _
          have hy := h7 (by simpa [upd] using hx) nfin
          exact ⟨hy.1, hy.2.fr hw2 (by first | exact fun x => x | (intro hj; have h8 := LV7.out _ hj; have h9 := hy.1; omega))⟩
        · intro hx
          have hy := hpre0 (by simpa [upd] using hx)
          exact hy.keep hw2 (fun _ _ x => x)
        · intro hx
          simp [upd, nfin] at hx
        · simp [upd, Act.put]
      | 1, ho =>
        injection ho with ho
        subst ho
        have nfin : b 8 = false := by
          rcases hbs : b 8 with _ | _
          · rfl
          · rw [chain hcl 8 1 rfl hbs (by simp [Region.binds])] at hb
            cases hb
        refine wp_quiet_here (Value.slice A7 N7 c7) (BigFrame.quiet_move _ rfl rfl) (fun w2 hw2 => ?_)
        refine ⟨gl, vA, gt, hF.trans hw2.any, ?_, ?_, ?_, ?_, ?_, ?_⟩
        · intro hx _
          have hy := h4 (by simpa [upd] using hx) nfin
          exact ⟨hy.1, hy.2.fr hw2 (fun _ => by first | exact fun x => x | (intro hj; have h8 := LV7.out _ hj; have h9 := hy.1; omega))⟩
        · intro hx _
          have hy := h5 (by simpa [upd] using hx) nfin
          exact ⟨trivial, hy.2.keep hw2 (fun _ _ x => x)⟩
        · intro hx _
          have hy := h7 (by simpa [upd] using hx) nfin
          exact ⟨hy.1, hy.2.fr hw2 (by first | exact fun x => x | (intro hj; have h8 := LV7.out _ hj; have h9 := hy.1; omega))⟩
        · intro hx
          have hy := hpre0 (by simpa [upd] using hx)
          exact hy.keep hw2 (fun _ _ x => x)
        · intro hx
          simp [upd, nfin] at hx
        · simp [upd, Act.put]
      | 2, ho =>
        injection ho with ho
        subst ho
        have nfin : b 8 = false := by
          rcases hbs : b 8 with _ | _
          · rfl
          · rw [chain hcl 8 2 rfl hbs (by simp [Region.binds])] at hb
            cases hb
        refine wp_quiet_here (Value.int IntKind.i64 (↑i + 1)) (BigFrame.quiet_move _ rfl rfl) (fun w2 hw2 => ?_)
        refine ⟨gl, vA, gt, hF.trans hw2.any, ?_, ?_, ?_, ?_, ?_, ?_⟩
        · intro hx _
          have hy := h4 (by simpa [upd] using hx) nfin
          exact ⟨hy.1, hy.2.fr hw2 (fun _ => by first | exact fun x => x | (intro hj; have h8 := LV7.out _ hj; have h9 := hy.1; omega))⟩
        · intro hx _
          have hy := h5 (by simpa [upd] using hx) nfin
          exact ⟨trivial, hy.2.keep hw2 (fun _ _ x => x)⟩
        · intro hx _
          have hy := h7 (by simpa [upd] using hx) nfin
          exact ⟨hy.1, hy.2.fr hw2 (by first | exact fun x => x | (intro hj; have h8 := LV7.out _ hj; have h9 := hy.1; omega))⟩
        · intro hx
          have hy := hpre0 (by simpa [upd] using hx)
          exact hy.keep hw2 (fun _ _ x => x)
        · intro hx
          simp [upd, nfin] at hx
        · simp [upd, Act.put]
      | 3, ho =>
        injection ho with ho
        subst ho
        simp [Region.binds] at hr
        have d2 : b 2 = true := by simp only [hr]
        simp only [hr, if_true]
        have nfin : b 8 = false := by
          rcases hbs : b 8 with _ | _
          · rfl
          · rw [chain hcl 8 3 rfl hbs (by simp [Region.binds])] at hb
            cases hb
        refine wp_quiet_here (.int .u8 ((i : Int) + 1)) ?_ (fun w2 hw2 => ?_)
        · go_big_quiet_op
          first
            | (simp [Act.put]; done)
            | exact ⟨_, fun _ _ => rfl, by simp [Act.put] <;> assumption⟩
        refine ⟨gl, vA, gt, hF.trans hw2.any, ?_, ?_, ?_, ?_, ?_, ?_⟩
        · intro hx _
          have hy := h4 (by simpa [upd] using hx) nfin
          exact ⟨hy.1, hy.2.fr hw2 (fun _ => by first | exact fun x => x | (intro hj; have h8 := LV7.out _ hj; have h9 := hy.1; omega))⟩
        · intro hx _
          have hy := h5 (by simpa [upd] using hx) nfin
          exact ⟨trivial, hy.2.keep hw2 (fun _ _ x => x)⟩
        · intro hx _
          have hy := h7 (by simpa [upd] using hx) nfin
          exact ⟨hy.1, hy.2.fr hw2 (by first | exact fun x => x | (intro hj; have h8 := LV7.out _ hj; have h9 := hy.1; omega))⟩
        · intro hx
          have hy := hpre0 (by simpa [upd] using hx)
          exact hy.keep hw2 (fun _ _ x => x)
        · intro hx
          simp [upd, nfin] at hx
        · simp [upd, Act.put, hr]
      | 4, ho =>
        injection ho with ho
        subst ho
        simp [Region.binds] at hr
        have d3 : b 3 = true := by simp only [hr]
        simp only [hr, if_true]
        have nfin : b 8 = false := by
          rcases hbs : b 8 with _ | _
          · rfl
          · rw [chain hcl 8 4 rfl hbs (by simp [Region.binds])] at hb
            cases hb
        refine wp_value _ _ (run_build1 (.tmp 47) rfl ((i : Int) + 1) rfl w1) ?_
        obtain ⟨gN, hgN⟩ : ∃ g, g = w1.heap.size := ⟨_, rfl⟩
        have hfN : Fr (fun _ => False) w1 (w1.alloc (.cells #[.int .u8 ((i : Int) + 1)] 5)) := (Fr.refl _ _).alloc _
        have hfact : w7.heap.size ≤ gN ∧ Sl (w1.alloc (.cells #[.int .u8 ((i : Int) + 1)] 5)) gN (.slice (some ⟨gN, 0, none⟩) 1 1) [(i : Int) + 1] := by rw [hgN]; exact ⟨hF.size, lit_sl w1 _ (by omega)⟩
        rw [← hgN]
        refine ⟨gN, vA, gt, hF.trans hfN.any, ?_, ?_, ?_, ?_, ?_, ?_⟩
        · exact fun _ _ => hfact
        · intro hx _
          have hy := h5 (by simpa [upd] using hx) nfin
          exact ⟨trivial, hy.2.keep hfN (fun _ _ x => x)⟩
        · intro hx _
          have hy := h7 (by simpa [upd] using hx) nfin
          exact ⟨hy.1, hy.2.fr hfN (by first | exact fun x => x | (intro hj; have h8 := LV7.out _ hj; have h9 := hy.1; omega))⟩
        · intro hx
          have hy := hpre0 (by simpa [upd] using hx)
          exact hy.keep hfN (fun _ _ x => x)
        · intro hx
          simp [upd, nfin] at hx
        · simp [upd, Act.put, hr]
      | 5, ho =>
        injection ho with ho
        subst ho
        simp [Region.binds] at hr
        have d1 : b 1 = true := by simp only [hr]
        have d4 : b 4 = true := by simp only [hr]
        simp only [hr, if_true]
        have nfin : b 8 = false := by
          rcases hbs : b 8 with _ | _
          · rfl
          · rw [chain hcl 8 5 rfl hbs (by simp [Region.binds])] at hb
            cases hb
        obtain ⟨A', N', c', w2, hrn, hap, hNN⟩ := run_own 22 (hpre0 hb) (h4 d4 nfin).2 HB7.out
        obtain ⟨gN, hgN⟩ : ∃ v, v = Value.slice A' N' c' := ⟨_, rfl⟩
        refine wp_value gN w2 (by rw [hgN]; exact run_app2 (.tmp 45) (.tmp 48) rfl rfl rfl hrn) ?_
        have hfN : Fr (fun j => (Value.slice A7 N7 c7).ownBlock = some j) w1 w2 := (Fr.refl _ _).grown hap.grown (fun j hj => .inl hj)
        have hfact : True ∧ Ow w2 gN ((ex k0 l1 i ++ l1) ++ [(i : Int) + 1]) := by rw [hgN]; exact ⟨trivial, hap.own⟩
        refine ⟨gl, gN, gt, hF.trans hfN, ?_, ?_, ?_, ?_, ?_, ?_⟩
        · intro hx _
          have hy := h4 (by simpa [upd] using hx) nfin
          exact ⟨hy.1, hy.2.fr hfN (fun _ => by first | exact fun x => x | (intro hj; have h8 := LV7.out _ hj; have h9 := hy.1; omega))⟩
        · exact fun _ _ => hfact
        · intro hx _
          have hy := h7 (by simpa [upd] using hx) nfin
          exact ⟨hy.1, hy.2.fr hfN (by first | exact fun x => x | (intro hj; have h8 := LV7.out _ hj; have h9 := hy.1; omega))⟩
        · intro hx
          simp [upd] at hx
        · intro hx
          simp [upd, nfin] at hx
        · simp [upd, Act.put, hr]
      | 6, ho =>
        injection ho with ho
        subst ho
        simp [Region.binds] at hr
        have d0 : b 0 = true := by simp only [hr]
        have d5 : b 5 = true := by simp only [hr]
        simp only [hr, if_true]
        have nfin : b 8 = false := by
          rcases hbs : b 8 with _ | _
          · rfl
          · rw [chain hcl 8 6 rfl hbs (by simp [Region.binds])] at hb
            cases hb
        refine wp_quiet_here (.agg (vs .u8 E)) (quiet_call 12 #[.slice (some ⟨bx, 0, none⟩) 32 32, vA] (.agg (vs .u8 E)) (fun _ => by kernel_rfl) (fun W' hc => (CH7 W' vA ((K7.out.fr hF (fun hj => by have h8 := LV7.out _ hj; have h9 := NX.out; omega)).fr hc (fun x => x)) ((h5 d5 nfin).2.keep hc (fun _ _ x => x))).mono fun e w' ⟨he, hf⟩ => ⟨he, hc.trans hf⟩) rfl) (fun w2 hw2 => ?_)
        refine ⟨gl, vA, gt, hF.trans hw2.any, ?_, ?_, ?_, ?_, ?_, ?_⟩
        · intro hx _
          have hy := h4 (by simpa [upd] using hx) nfin
          exact ⟨hy.1, hy.2.fr hw2 (fun _ => by first | exact fun x => x | (intro hj; have h8 := LV7.out _ hj; have h9 := hy.1; omega))⟩
        · intro hx _
          have hy := h5 (by simpa [upd] using hx) nfin
          exact ⟨trivial, hy.2.keep hw2 (fun _ _ x => x)⟩
        · intro hx _
          have hy := h7 (by simpa [upd] using hx) nfin
          exact ⟨hy.1, hy.2.fr hw2 (by first | exact fun x => x | (intro hj; have h8 := LV7.out _ hj; have h9 := hy.1; omega))⟩
        · intro hx
          have hy := hpre0 (by simpa [upd] using hx)
          exact hy.keep hw2 (fun _ _ x => x)
        · intro hx
          simp [upd, nfin] at hx
        · simp [upd, Act.put, hr]
      | 7, ho =>
        injection ho with ho
        subst ho
        have nfin : b 8 = false := by
          rcases hbs : b 8 with _ | _
          · rfl
          · rw [chain hcl 8 7 rfl hbs (by simp [Region.binds])] at hb
            cases hb
        refine wp_alloc_any 24 rfl (vs .u8 Z) hz ?_
        obtain ⟨gN, hgN⟩ : ∃ g, g = w1.heap.size := ⟨_, rfl⟩
        have hfN : Fr (fun _ => False) w1 (w1.alloc (.cells (vs .u8 Z) 24)) := (Fr.refl _ _).alloc _
        have hfact : w7.heap.size ≤ gN ∧ Ar (w1.alloc (.cells (vs .u8 Z) 24)) gN 24 .u8 Z := by rw [hgN]; exact ⟨hF.size, Ar.new w1 24 .u8 Z⟩
        rw [← hgN]
        refine ⟨gl, vA, gN, hF.trans hfN.any, ?_, ?_, ?_, ?_, ?_, ?_⟩
        · intro hx _
          have hy := h4 (by simpa [upd] using hx) nfin
          exact ⟨hy.1, hy.2.fr hfN (fun _ => by first | exact fun x => x | (intro hj; have h8 := LV7.out _ hj; have h9 := hy.1; omega))⟩
        · intro hx _
          have hy := h5 (by simpa [upd] using hx) nfin
          exact ⟨trivial, hy.2.keep hfN (fun _ _ x => x)⟩
        · exact fun _ _ => hfact
        · intro hx
          have hy := hpre0 (by simpa [upd] using hx)
          exact hy.keep hfN (fun _ _ x => x)
        · intro hx
          simp [upd, nfin] at hx
        · simp [upd, Act.put]
      | 8, ho =>
        injection ho with ho
        subst ho
        simp [Region.binds] at hr
        have d0 : b 0 = true := by simp only [hr]
        have d1 : b 1 = true := by simp only [hr]
        have d2 : b 2 = true := by simp only [hr]
        have d3 : b 3 = true := by simp only [hr]
        have d4 : b 4 = true := by simp only [hr]
        have d5 : b 5 = true := by simp only [hr]
        have d6 : b 6 = true := by simp only [hr]
        have d7 : b 7 = true := by simp only [hr]
        simp only [hr, if_true]
        have k7 := h7 d7 hb
        refine wp_store_row 24 (.tmp 12) (.tmp 50) rfl gt (vs .u8 E) rfl rfl 24 _ k7.2 sE.out eE.out (vs_all _ _) ?_
        have hfin : w7.heap.size ≤ gt ∧ Ar (w1.setRow gt (vs .u8 E)) gt 24 .u8 E := ⟨k7.1, k7.2.row E⟩
        have hFn : Fr (fun j => (Value.slice A7 N7 c7).ownBlock = some j) w7 (w1.setRow gt (vs .u8 E)) := hF.setRow _ (.inr k7.1)
        refine ⟨gl, vA, gt, hFn, ?_, ?_, ?_, ?_, ?_, ?_⟩
        · intro _ hy
          simp [upd] at hy
        · intro _ hy
          simp [upd] at hy
        · intro _ hy
          simp [upd] at hy
        · intro hx
          exact absurd hx (by simp [upd, d5])
        · exact fun _ => hfin
        · simp [upd, Act.put, hr]
      | j + 9, ho => exact absurd ho (by simp)
    intro b a w9 hall hI
    obtain ⟨gl, vA, gt, hF, h4, h5, h7, hpre0, hfinal, rfl⟩ := hI
    have t0 : b 0 = true := hall 0 (by simp)
    have t1 : b 1 = true := hall 1 (by simp)
    have t2 : b 2 = true := hall 2 (by simp)
    have t3 : b 3 = true := hall 3 (by simp)
    have t4 : b 4 = true := hall 4 (by simp)
    have t5 : b 5 = true := hall 5 (by simp)
    have t6 : b 6 = true := hall 6 (by simp)
    have t7 : b 7 = true := hall 7 (by simp)
    have t8 : b 8 = true := hall 8 (by simp)
    simp only [t0, t1, t2, t3, t4, t5, t6, t7, t8, if_true]
    have PF := Lib.hid (hfinal t8)
    have G9 := Lib.hid hF
    clear hall hF h4 h5 h7 hfinal t0 t1 t2 t3 t4 t5 t6 t7 t8
    try clear hpre0
    have F9 : Hid (Fr (fun _ => False) wr w9) := F7.out.trans' G9.out (fun j hj e => by have := LV7.out j e; omega)
    have K9 := Lib.hid (K7.out.fr G9.out (fun hj => by have h8 := LV7.out _ hj; have h9 := NX.out; omega))
    have S9 := Lib.hid (SB4.out.fr (FF.out.trans F9.out) (fun _ x => x))
    have T9 := Lib.hid (PF.out.2.slt lE.out.2 lE.out.1 (by decide))
    clear PF K7 S7 LV7 O7 F7 G9 HB7 CH7
    obtain ⟨A5, hA5⟩ : ∃ A, A = cutA (some ⟨gb, 0, none⟩) cb (32 * i) := ⟨_, rfl⟩
    have HC5 : Hid (32 * i ≤ 32 * (i + 1) ∧ 32 * (i + 1) ≤ cb) := by have := HCB.out; show _ ∧ _; omega
    have HV5 : Hid (Value.slice A5 32 (cb - 32 * i) = .slice (cutA (some ⟨gb, 0, none⟩) cb (32 * i)) (32 * (i + 1) - 32 * i) (cb - 32 * i)) := by show _ = _; rw [hA5, show 32 * (i + 1) - 32 * i = 32 by omega]
    have S5 : Hid (Sl w9 gb (.slice A5 32 (cb - 32 * i)) E) := by
      have h := S9.out.mid (32 * i) (32 * (i + 1)) (by omega) (by omega)
      rw [VE7 (), ← HV5.out] at h
      exact h
    clear hA5
    go_upto_region 14 with (refine wpList_plain rfl fun K' hK' => wp_value (.slice A5 32 (cb - 32 * i)) _ (run_slice_midV (.tmp 51) (.tmp 54) (.tmp 56) (some ⟨gb, 0, none⟩) (32 * N) cb (32 * i) (32 * (i + 1)) _ _ _ (by omega) (by omega) HV5.out HC5.out.1 HC5.out.2 rfl rfl rfl rfl w9) (hK' _ _ ?_))
    go_upto_region 10 with (go_at_call 14; refine (eq_yes _ T9.out S5.out rfl).mono ?_; rintro e w10 ⟨rfl, hf⟩; have F10 := Lib.hid (F9.out.trans hf); have S10 := Lib.hid (S5.out.fr hf (fun _ x => x)); clear hf)
    have X10 : Hid (Zs w4 w10 k0 l1 (i + 1) (.slice A5 32 (cb - 32 * i))) := ⟨FF.out.trans F10.out, _, _, _, gb, rfl, by rw [← UE ()]; exact S10.out⟩
    clear UE VE7 S5 S10 T9 F10 F9 K9 S9 HV5 HC5
    go_wp2
    go_roundw
    case rel => exact ⟨i + 1, by go_num, by omega, X10⟩
    case measure => simp [intOf]; omega
  obtain rfl : i = N := by omega
  have t1 : ¬ (i : Int) + 1 ≤ i := by omega
  clear CH SS
  go_wp2
  go_ret
  exact ⟨rfl, F4.out.trans FF.out⟩

set_option maxRecDepth 100000 in
theorem law_steps_lifted (os : Os) (started : os.Started) (H : Type) (enc : TypeId × Value → H) :
    ReturnsInHanded {} Try.checked os 8 .any (Rows.kdfStepsSpec.pre6 enc Try.prog Try.f8 Rows.kdfStepsRow.domain false) (Rows.kdfStepsSpec.post enc Try.prog Try.f8 false true false false) := by
  refine returnsInHanded_of_change_sized (C := Try.checked) own started (by kernel_rfl) Try.func8
    (ChangeSpec.witness6 (enc := enc) (C := Try.checked) false ⟨#[], #[.agg (vs .u8 (List.replicate 32 0)), .slice none 0 0, .int .i64 0], []⟩ 8 (by kernel_rfl) (by kernel_rfl) (by kernel_rfl) (by kernel_rfl)) ?_
  intro W base args ds gs before hval0 hW hcnd hsz0 _
  have hsz : (DataW.weightsEach Try.prog (Try.f8.params.toList ++ Rows.kdfStepsSpec.plain.varTypes Try.prog) (ds ++ gs)).all (· ≤ reachBytes) = true := hsz0
  clear hsz0
  have hval : ∀ (j : Nat) t v, Try.f8.params[j]? = some t → args[j]? = some v → Value.okWide Try.prog W .any base t v := hval0
  have hW' := hW
  obtain ⟨p, q, hA0, hV, rfl, hfz, hnd⟩ := hW
  have hA : DataW.TrodAll enc Try.prog W 0 (fun _ => true) true Try.f8.params.toList args.toList ds p := hA0
  rw [Try.params8] at hA hval hsz
  obtain ⟨v0, vs0, d0, ds0, p0, q0, hargs, rfl, rfl, h0, r0⟩ := trodAll_cons hA
  obtain ⟨v1, vs1, d1, ds1, p1, q1, rfl, rfl, rfl, h1, r1⟩ := trodAll_cons r0
  obtain ⟨v2, vs2, d2, ds2, p2, q2, rfl, rfl, rfl, h2, r2⟩ := trodAll_cons r1
  obtain ⟨rfl, rfl, rfl⟩ := trodAll_nil r2
  obtain rfl : args = #[v0, v1, v2] := by cases args; simp_all
  obtain ⟨rfl, rfl⟩ := trodVars_none hV
  have hlt1 : ∀ x ∈ p1, x.block < W.heap.size := fun x hx => hW'.lt x (by simp [hx])
  obtain ⟨k0, rfl, lk0, bk0⟩ := open_a32 (hval 0 24 v0 rfl rfl) h0
  obtain ⟨A1, m1, s1, g1, l1, rfl, hs1, hg1⟩ := open_sl (hval 1 22 v1 rfl rfl) h1 hlt1
  have hn1 : m1 ≤ 140737488351232 := by
    rcases open_len h1 with e | ⟨el, sp, rfl, hle⟩
    · omega
    · have := sized_slice hsz (j := 1) (t := 22) (e := 5) rfl rfl Try.underlying22
      rw [Try.bytes5] at this
      simp only [reachBytes] at this
      omega
  obtain ⟨a2, rfl, rfl, rfl, w2⟩ := open_int Try.underlying3 (hval 2 3 v2 rfl rfl) h2
  clear hA0 hval0
  refine (law_steps_any k0 g1 A1 m1 s1 l1 a2 W lk0 bk0 hs1 hn1 hg1 (wf_i64 w2)).mono fun e W' ⟨he, hg⟩ => ?_
  subst he
  exact ⟨_, rfl, post_true rfl hW' (by kernel_rfl) rfl rfl hg⟩

theorem kdfSteps_holds : Rows.KdfStepsSaid :=
  OpenClaim.holds_of_wide 8 Try.f8 rfl rfl rfl rfl rfl rfl rfl ⟨rfl, rfl, rfl, rfl, rfl⟩ rfl rfl rfl rfl rfl (by kernel_rfl) Try.func8 (by kernel_rfl)
    (of_decide_eq_true (by kernel_rfl)) (by unfold Func.isWrapper; first | (rw [if_pos (by decide +kernel)]; kernel_rfl) | (rw [if_neg (by decide +kernel)]; exact ⟨rfl, rfl⟩))
    (fun os started H enc _ => law_steps_lifted os started H enc)
#print axioms kdfSteps_holds
end Go.Proofs.Ytebknlhooijkcaa
