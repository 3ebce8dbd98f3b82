/- The program's expanded: contract. Conditions: a key of 32 bytes, slices that lie in memory, 8160 bytes at most. -/
import Derived.Test.YtebknlhooijkcaaYt
import Derived.OwnWalk
import Derived.Laws.Cover3
namespace Go.Proofs.Ytebknlhooijkcaa
set_option linter.unusedSimpArgs false
set_option linter.unusedVariables false
open Go.ChangeShapes Go.WideShapes Go.ChangeAt Go.RowKit


theorem heap2 (w : World) (X Y : Obj) : ((w.alloc X).alloc Y).heap[w.heap.size + 1]? = some Y := (calm2 rfl).2.1
theorem exs_round (k info : List Int) (i n : Nat) (h : 32 * i < n) : (exs k info i).take n ++ (ex k info (i + 1)).take (min 32 (n - 32 * i)) = (exs k info (i + 1)).take n := by
  have e1 := exs_length k info i
  have e2 := ex_length k info i
  rw [exs, List.take_append, e1, List.take_of_length_le (by omega : (exs k info i).length ≤ n)]
  congr 1
  rcases Nat.le_total (n - 32 * i) 32 with h | h
  · rw [Nat.min_eq_right h]
  · rw [Nat.min_eq_left h, List.take_of_length_le (by omega), List.take_of_length_le (by omega)]
theorem exs_len (k info : List Int) (i n : Nat) (h : 32 * i ≤ n) : ((exs k info i).take n).length = 32 * i := by
  rw [List.length_take, exs_length]; omega
/-- What the loop keeps: the bytes so far and the last tag. -/
structure Xs (w W1 wr : World) (k info : List Int) (n i : Nat) (out last : Value) : Prop where
  fr : Fr (fun _ => False) W1 wr
  out : Nw W1 wr out ((exs k info i).take n)
  last : ∃ A m c gl, last = .slice A m c ∧ Sl wr gl (.slice A m c) (ex k info i)
set_option maxRecDepth 100000 in
set_option maxHeartbeats 16000000 in
theorem expanded_is (k : List Int) (g2 : Nat) (A2 : Option Addr) (m2 c2 : Nat) (b : List Int) (n : Nat) (w : World) (lk : k.length = 32) (bk : Bys k) (h2 : Sl w g2 (.slice A2 m2 c2) b) (hm2 : m2 ≤ 140737488351232) (hn : n ≤ 8160) :
    Calls Try.prog 30 #[.agg (vs .u8 k), .slice A2 m2 c2, .int .i64 (n : Int)] w fun e w' => ∃ v, e = .returned v ∧ Nw w w' v ((exs k b ((n + 31) / 32)).take n) ∧ Fr (fun _ => False) w w' := by
  have LK : Hid (k.length = 32) := lk
  have BK : Hid (Bys k) := bk
  have H2 := Lib.hid h2
  have L2 := Lib.hid h2.len
  have HM := Lib.hid hm2
  have HN := Lib.hid hn
  obtain ⟨N, hN⟩ : ∃ N, N = (n + 31) / 32 := ⟨_, rfl⟩
  have EN : Hid (N = (n + 31) / 32) := hN
  have BN : Hid (N ≤ 255 ∧ ∀ i, i < N → 32 * i < n) := ⟨by omega, fun i hi => by omega⟩
  have CT : ∀ W bx gp gl (A : Option Addr) (m c gy i : Nat) , Ar W bx 24 .u8 k → i < 255 → Sl W gl (.slice A m c) (ex k b i) → Fr (fun _ => False) w W → Sl W gy (.slice (some ⟨gy, 0, none⟩) 1 1) [(i : Int) + 1] → W.heap[gp]? = some (.cells #[.slice A m c, .slice A2 m2 c2, .slice (some ⟨gy, 0, none⟩) 1 1] 22 (0, 0)) → Calls Try.prog 26 #[.slice (some ⟨bx, 0, none⟩) 32 32, .slice (some ⟨gp, 0, none⟩) 3 3] W fun e w' => e = .returned (.agg (vs .u8 (ex k b (i + 1)))) ∧ Fr (fun _ => False) W w' := fun W bx gp gl A m c gy i a1 a2 a3 a4 a5 a6 => by
    have e := tag_is bx (some ⟨bx, 0, none⟩) 32 32 k gp 3 [⟨gl, A, m, c, ex k b i⟩, ⟨g2, A2, m2, c2, b⟩, ⟨gy, some ⟨gy, 0, none⟩, 1, 1, [(i : Int) + 1]⟩] W (a1.slt BK.out LK.out (by decide)) (by decide) (Pcs.three a6 a3 (H2.out.fr a4 (fun _ x => x)) a5) rfl (by decide) (by
      have e1 : (ex k b i).length ≤ 32 := by
        cases i with
        | zero => simp [ex]
        | succ i => rw [ex_length]; exact Nat.le_refl _
      have := L2.out
      have := HM.out
      simp [flat]; omega) (heap_lt a6)
    rw [show flat [⟨gl, A, m, c, ex k b i⟩, ⟨g2, A2, m2, c2, b⟩, ⟨gy, some ⟨gy, 0, none⟩, 1, 1, [(i : Int) + 1]⟩] = (ex k b i ++ b) ++ [(i : Int) + 1] by simp [flat]] at e
    rw [ex, show ((i + 1 : Nat) : Int) % 256 = (i : Int) + 1 by omega]
    exact e
  obtain ⟨Z, hZ⟩ : ∃ Z, Z = List.replicate 32 (0 : Int) := ⟨_, rfl⟩
  have hz : ∀ W : World, (zeroValue 24).run Try.prog W = .ok (.agg (vs .u8 Z)) W := fun W => by rw [hZ]; exact zeroA32 W
  have sX : ∀ i, Hid ((Try.prog.info? 24).map (·.size) = some (vs .u8 (ex k b (i + 1))).size) := fun i => by show _ = _; rw [szA32, vs_size, ex_length]
  have eX : ∀ i, Hid ((vs .u8 Z).size = (vs .u8 (ex k b (i + 1))).size) := fun i => by show _ = _; rw [vs_size, vs_size, ex_length, hZ]; rfl
  rw [← hN]
  have j3 : ((n : Int) + 32 - 1).tdiv 32 = (N : Int) := by rw [hN, Int.tdiv_eq_ediv_of_nonneg (by omega)]; omega
  have j4 : ((n : Int) + 31).tdiv 32 = (N : Int) := by rw [hN, Int.tdiv_eq_ediv_of_nonneg (by omega)]; omega
  have j5 : N ≤ 255 := BN.out.1
  clear hN hZ h2 hm2 lk bk
  go_enter Try.func30, Try.ntmps30
  go_upto_region 1 with (fail)
  obtain ⟨bx, hbx⟩ : ∃ x, x = w.heap.size := ⟨_, rfl⟩
  have K0 : Hid (Ar (w.alloc (.cells (vs .u8 k) 24)) bx 24 .u8 k) := by rw [hbx]; exact Ar.new w 24 .u8 k
  have F0 : Hid (Fr (fun _ => False) w (w.alloc (.cells (vs .u8 k) 24))) := (Fr.refl _ _).alloc _
  rw [← hbx]
  generalize w.alloc (.cells (vs .u8 k) 24) = W0 at *
  clear hbx
  try simp only [Act.put, List.setIfInBounds_toArray, List.set_cons_succ, List.set_cons_zero]
  obtain ⟨i5, hi5, hz5, hs5, hb5⟩ := info_parts Try.info5
  have I5 : Hid (i5.bytes * n ≤ 281474976710656 ∧ n ≤ maxLen) := by have := HN.out; refine ⟨by rw [hb5]; omega, by simp only [maxLen]; omega⟩
  go_upto_region 2 with (refine wpList_make_own W0 rfl _ _ 22 rfl 0 5 i5 (.int .u8 0) 1 Try.underlying22 hi5 hz5 hs5 .i64 .i64 (n : Int) n rfl rfl rfl I5.out.1 I5.out.2 (Nat.zero_le _) ?_; intro w1 ho hgr; have O1 := Lib.hid ho; have GR := Lib.hid hgr; clear ho hgr)
  have F1 : Hid (Fr (fun _ => False) W0 w1) := (Fr.refl _ _).grown GR.out (fun j hj => by cases hj)
  have X1 : Hid (Xs w W0 w1 k b n 0 (.slice (some ⟨W0.heap.size, 0, none⟩) 0 n) (.slice none 0 0)) := ⟨F1.out, by rw [show (exs k b 0).take n = [] by simp [exs]]; exact ⟨⟨O1.out, Bys.nil⟩, fun j hj => by injection hj with hj; rw [← hj]; exact Nat.le_refl _⟩, none, 0, 0, 0, rfl, Sl.nil _ _⟩
  clear O1 GR F1 I5 hi5 hz5 hs5 hb5
  generalize Value.slice (some ⟨W0.heap.size, 0, none⟩) 0 n = out0 at *
  go_upto_region 4 with (fail)
  go_loopw [17, 7, 8] (fun u17 u7 u8 wr => ∃ i : Nat, u17 = .int .i64 i ∧ i ≤ N ∧ Hid (Xs w W0 wr k b n i u7 u8)) (fun u17 _ _ _ => N - (intOf u17).toNat)
  case atStart => exact ⟨0, rfl, Nat.zero_le _, X1⟩
  case round =>
  clear X1
  obtain ⟨i, rfl, hi, hX⟩ := hrel
  by_cases hil : i < N
  · have hlo := BN.out.2 i hil
    obtain ⟨hF, hO, A, m, c, gl, rfl, hS⟩ := hX.out
    obtain ⟨Ao, co, ho⟩ := hO.shape
    rw [exs_len k b i n (by omega)] at ho
    subst ho
    have FF := Lib.hid hF
    have OO := Lib.hid hO
    have SS := Lib.hid hS
    obtain ⟨M, hM⟩ : ∃ M, M = min 32 (n - 32 * i) := ⟨_, rfl⟩
    have EM := Lib.hid hM
    have m1 : M ≤ 32 := by omega
    have eM : (if (n : Int) - 32 * (i : Int) < 32 then (n : Int) - 32 * (i : Int) else 32) = (M : Int) := by split <;> omega
    have t1 : (i : Int) < N := by omega
    have t2 : ((M : Int)).toNat = M := by omega
    have t3 : 0 ≤ (M : Int) := by omega
    have t4 : (M : Int) ≤ 32 := by omega
    have t5 : i + 1 ≤ 255 := by omega
    clear hF hO hS hX hM
    go_upto_region 7 with (first
      | (go_at_call 26; refine (CT _ bx (wr.heap.size + 1) gl A m c wr.heap.size i (K0.out.fr ((FF.out.alloc _).alloc _) (fun x => x)) (by omega) (SS.out.fr (((Fr.refl (fun _ => False) wr).alloc _).alloc _) (fun _ x => x)) ((F0.out.trans FF.out).alloc _ |>.alloc _) ((lit_sl wr ((i : Int) + 1) (by omega)).fr ((Fr.refl (fun _ => False) _).alloc _) (fun _ x => x)) (heap2 wr _ _)).mono ?_; rintro e w5 ⟨rfl, hf⟩; have F5 := Lib.hid ((((Fr.refl (fun _ => False) wr).alloc _).alloc _).trans hf); clear hf)
      | refine wpList_store_row rfl 24 (.tmp 10) (.tmp 28) rfl w5.heap.size (vs .u8 (ex k b (i + 1))) rfl rfl 24 (vs .u8 Z) (heap_alloc_new w5 (.cells (vs .u8 Z) 24)) (sX i).out (eX i).out (vs_all _ _) ?_)
    obtain ⟨E, hE⟩ : ∃ E, E = ex k b (i + 1) := ⟨_, rfl⟩
    have lE : Hid (E.length = 32 ∧ Bys E) := by rw [hE]; exact ⟨ex_length _ _ _, ex_bys _ _ _⟩
    have UE : Unit → ex k b (i + 1) = E := fun _ => hE.symm
    obtain ⟨q, hq⟩ : ∃ q, q = w5.heap.size := ⟨_, rfl⟩
    have FQ : Fr (fun _ => False) w5 ((w5.alloc (.cells (vs .u8 Z) 24)).setRow w5.heap.size (vs .u8 E)) := ((Fr.refl _ w5).alloc _).setRow _ (.inr (Nat.le_refl _))
    have T7 : Hid (Ar ((w5.alloc (.cells (vs .u8 Z) 24)).setRow w5.heap.size (vs .u8 E)) q 24 .u8 E) := by rw [hq]; exact (Ar.new w5 24 .u8 Z).row E
    have F7 := Lib.hid (F5.out.trans FQ)
    have NQ : Hid (wr.heap.size ≤ q) := by rw [hq]; exact F5.out.size
    rw [← hE]
    rw [← hq] at T7 F7 ⊢
    generalize (w5.alloc (.cells (vs .u8 Z) 24)).setRow q (vs .u8 E) = W7 at *
    clear FQ hq F5 hE
    try simp only [Act.put, List.setIfInBounds_toArray, List.set_cons_succ, List.set_cons_zero]
    have O7 := Lib.hid (OO.out.fr F7.out (fun _ x => x))
    have G7 := Lib.hid (FF.out.trans F7.out)
    have S7 : Hid (Sl W7 q (.slice (some ⟨q, 0, none⟩) 32 32) E) := T7.out.slt lE.out.2 lE.out.1 (by decide)
    have LO : Hid (∀ j, (Value.slice Ao (32 * i) co).ownBlock = some j → j ≠ q) := by
      show ∀ _, _ → _
      intro j hj
      have h1 := OO.out.1.lt j hj
      have h2 := NQ.out
      omega
    have SM := Lib.hid (S7.out.take M (by rw [lE.out.1]; exact m1))
    have HL : Hid (((exs k b i).take n).length + M ≤ 140737488355328) := by
      show _ ≤ _
      rw [List.length_take]; omega
    clear OO FF SS T7 F7 CT
    go_upto_region 8 with (fail)
    go_upto_region 9 with (at_builtin; refine wpList_own rfl (.tmp 30) (.tmp 37) rfl O7.out.1 rfl rfl SM.out HL.out ?_; intro A3 N3 c3 w8 hap hN; have HA := Lib.hid hap; clear hap hN)
    obtain ⟨r1, r2⟩ := Nw.app O7.out G7.out (Fr.refl _ _) HA.out
    have X8 : Hid (Xs w W0 w8 k b n (i + 1) (.slice A3 N3 c3) (.slice (some ⟨q, 0, none⟩) 32 32)) := ⟨r2, by rw [← exs_round k b i n hlo, UE (), ← EM.out]; exact r1, _, _, _, q, rfl, by rw [UE ()]; exact S7.out.fr ((Fr.refl (fun j => (Value.slice Ao (32 * i) co).ownBlock = some j) W7).grown HA.out.grown (fun j hj => .inl hj)) (fun _ hj => LO.out q hj rfl)⟩
    clear r1 r2 HA O7 G7 S7 SM LO HL EM UE
    go_wp2
    go_roundw
    case rel => exact ⟨i + 1, by go_num, by omega, X8⟩
    case measure => simp [intOf]; omega
  obtain rfl : i = N := by omega
  clear CT
  go_wp2
  go_ret
  exact ⟨_, rfl, hX.out.out.of F0.out, F0.out.trans hX.out.fr⟩
end Go.Proofs.Ytebknlhooijkcaa

/- The program's Expand, Two, Three: contracts. Conditions: keys of 32 bytes, slices that lie in memory, lengths below 2^47. -/
namespace Go.Proofs.Ytebknlhooijkcaa
set_option linter.unusedSimpArgs false
set_option linter.unusedVariables false
open Go.ChangeShapes Go.WideShapes Go.ChangeAt Go.RowKit

theorem results_two_rows {P : Program} {fn : Func} {p q : Tmp} {ty ty' : TypeId} (h : fn.results = #[.cell p ty, .cell q ty']) (tmps : Array Value) (w : World) (g g' : Nat) (t t' : TypeId) (cs cs' : Array Value) (fr fr' : Nat × Nat) (d d' : TypeDesc)
    (hp : tmps.getD p undef = .pointer (some ⟨g, 0, none⟩)) (hg : w.heap[g]? = some (.cells cs t fr)) (hu : P.underlying ty = some d) (hd : (match d with | .struct _ | .array _ _ => true | _ => false) = true) (hi : (P.info? ty).map (·.size) = some cs.size)
    (hp2 : tmps.getD q undef = .pointer (some ⟨g', 0, none⟩)) (hg' : w.heap[g']? = some (.cells cs' t' fr')) (hu' : P.underlying ty' = some d') (hd' : (match d' with | .struct _ | .array _ _ => true | _ => false) = true) (hi' : (P.info? ty').map (·.size) = some cs'.size) :
    (results fn tmps).run P w = .ok (.tuple #[.agg cs, .agg cs']) w := by
  have k1 : tmps[p]?.getD undef = .pointer (some ⟨g, 0, none⟩) := by simpa using hp
  have k2 : tmps[q]?.getD undef = .pointer (some ⟨g', 0, none⟩) := by simpa using hp2
  simp [results, h, k1, k2, asAddr, run_loadVar_row w g t ty cs fr d hg hu hd hi, run_loadVar_row w g' t' ty' cs' fr' d' hg' hu' hd' hi']
theorem results_three_rows {P : Program} {fn : Func} {p q r : Tmp} {ty ty' ty'' : TypeId} (h : fn.results = #[.cell p ty, .cell q ty', .cell r ty'']) (tmps : Array Value) (w : World) (g g' g'' : Nat) (t t' t'' : TypeId) (cs cs' cs'' : Array Value) (fr fr' fr'' : Nat × Nat) (d d' d'' : TypeDesc)
    (hp : tmps.getD p undef = .pointer (some ⟨g, 0, none⟩)) (hg : w.heap[g]? = some (.cells cs t fr)) (hu : P.underlying ty = some d) (hd : (match d with | .struct _ | .array _ _ => true | _ => false) = true) (hi : (P.info? ty).map (·.size) = some cs.size)
    (hp2 : tmps.getD q undef = .pointer (some ⟨g', 0, none⟩)) (hg' : w.heap[g']? = some (.cells cs' t' fr')) (hu' : P.underlying ty' = some d') (hd' : (match d' with | .struct _ | .array _ _ => true | _ => false) = true) (hi' : (P.info? ty').map (·.size) = some cs'.size)
    (hp3 : tmps.getD r undef = .pointer (some ⟨g'', 0, none⟩)) (hg'' : w.heap[g'']? = some (.cells cs'' t'' fr'')) (hu'' : P.underlying ty'' = some d'') (hd'' : (match d'' with | .struct _ | .array _ _ => true | _ => false) = true) (hi'' : (P.info? ty'').map (·.size) = some cs''.size) :
    (results fn tmps).run P w = .ok (.tuple #[.agg cs, .agg cs', .agg cs'']) w := by
  have k1 : tmps[p]?.getD undef = .pointer (some ⟨g, 0, none⟩) := by simpa using hp
  have k2 : tmps[q]?.getD undef = .pointer (some ⟨g', 0, none⟩) := by simpa using hp2
  have k3 : tmps[r]?.getD undef = .pointer (some ⟨g'', 0, none⟩) := by simpa using hp3
  simp [results, h, k1, k2, k3, asAddr, run_loadVar_row w g t ty cs fr d hg hu hd hi, run_loadVar_row w g' t' ty' cs' fr' d' hg' hu' hd' hi', run_loadVar_row w g'' t'' ty'' cs'' fr'' d'' hg'' hu'' hd'' hi'']

theorem range_at {w : World} {g n c off : Nat} {l E : List Int} (h : Sl w g (.slice (some ⟨g, 0, none⟩) n c) l) (hl : l.length = n) (hE : ∀ j x, E[j]? = some x → l[off + j]? = some x) : w.rangeAt g off (vs .u8 E).toList := fun j v hj => by
  rw [show (vs .u8 E).toList = bs E from rfl, bs_get] at hj
  obtain ⟨x, hx, rfl⟩ := Option.map_eq_some_iff.1 hj
  have h1 := hE j x hx
  have hi := (List.getElem?_eq_some_iff.1 h1).1
  obtain ⟨o, ho, hc⟩ := h.at_ (by omega)
  injection ho with ho
  injection ho with _ ho _
  subst ho
  have := hc (off + j) (by omega)
  rw [Nat.zero_add, List.getD_eq_getElem?_getD, h1] at this
  exact this
theorem range_fr {S : Nat → Prop} {w w' : World} {g off : Nat} {cs : List Value} (h : w.rangeAt g off cs) (hf : Fr S w w') (hs : ¬ S g) : w'.rangeAt g off cs := fun j v hj => cell_fr (h j v hj) hf hs
theorem run_slice_hi {o : Oper} {a : Act} (x z : Operand) (ho : o.op = .slice 22 x none (some z) none) (A : Option Addr) (n c hi : Nat) (h : Int) (hh : h = (hi : Int)) (h2 : hi ≤ c) (hx : a.eval x = .slice A n c) (hz : a.eval z = .int .i64 h) (W : World) :
    (execOp a.eval o).run Try.prog W = .ok (.value (.slice A hi c)) W := by
  subst hh
  have e2 : Try.prog.elem 22 = 5 := by kernel_rfl
  have e3 : Try.prog.underlying 22 = some (.slice (Try.prog.elem 22)) := by kernel_rfl
  have h := run_slice_h (P := Try.prog) (w := W) 22 A n c e3 .i64 (hi : Int) (by omega) (by omega)
  unfold execOp
  simp only [ho, hx, hz, Option.map_some, Option.map_none, Sem.run_bind, run_sliceAt_slice (P := Try.prog) (w := W) 22 _ _ _ _ e3, h]
  cases hq : Try.prog.info? 5 with
  | none => have := size5; simp [hq] at this
  | some i =>
    have hi' : i.size = 1 := by have := size5; simpa [hq] using this
    simp [sizeOf, typeInfo, e2, sliced, hq, hi']
    intro _
    rcases A with _ | ⟨b, o, sp⟩
    · rfl
    · rcases sp with _ | sp <;> simp [Addr.add]
theorem cutA_at (g c lo : Nat) (h : lo < c) (hlo : 0 < lo) : cutA (some ⟨g, 0, none⟩) c lo = some ⟨g, lo, none⟩ := by
  unfold cutA
  rw [if_neg (by omega)]
  simp [Addr_add_none]
set_option maxRecDepth 100000 in
set_option maxHeartbeats 16000000 in
theorem kexpand_is (k : List Int) (g2 : Nat) (A2 : Option Addr) (m2 c2 : Nat) (b : List Int) (x : Int) (w : World) (lk : k.length = 32) (bk : Bys k) (h2 : Sl w g2 (.slice A2 m2 c2) b) (hm2 : m2 ≤ 140737488351232) :
    Calls Try.prog 18 #[.agg (vs .u8 k), .slice A2 m2 c2, .int .i64 x] w fun e w' => ∃ v, e = .returned (.tuple #[v, .int .i64 (expv k b x).2]) ∧ Nw w w' v (expv k b x).1 ∧ Fr (fun _ => False) w w' := by
  have hc : (x < 0 ∧ expv k b x = ([], 2)) ∨ (¬ x < 0 ∧ 8160 < x ∧ expv k b x = ([], 5)) ∨ ∃ n : Nat, x = n ∧ n ≤ 8160 ∧ expv k b x = ((exs k b ((n + 31) / 32)).take n, 0) := by
    by_cases h1 : x < 0
    · exact .inl ⟨h1, by rw [expv, if_pos h1]⟩
    · by_cases h2 : 8160 < x
      · exact .inr (.inl ⟨h1, h2, by rw [expv, if_neg h1, if_pos h2]⟩)
      · refine .inr (.inr ⟨x.toNat, by omega, by omega, by rw [expv, if_neg h1, if_neg h2]⟩)
  rcases hc with ⟨j1, e⟩ | ⟨j1, j2, e⟩ | ⟨n, rfl, hn, e⟩
  · rw [e]
    clear e lk bk h2 hm2
    go_enter Try.func18, Try.ntmps18
    go_wp2
    go_ret2
    exact ⟨_, rfl, Nw.nil _ _, (Fr.refl _ _).alloc _⟩
  · rw [e]
    clear e lk bk h2 hm2
    go_enter Try.func18, Try.ntmps18
    go_wp2
    go_ret2
    exact ⟨_, rfl, Nw.nil _ _, (Fr.refl _ _).alloc _⟩
  · rw [e]
    have C : ∀ W, Fr (fun _ => False) w W → Calls Try.prog 30 #[.agg (vs .u8 k), .slice A2 m2 c2, .int .i64 (n : Int)] W fun e w' => ∃ v, e = .returned v ∧ Nw W w' v ((exs k b ((n + 31) / 32)).take n) ∧ Fr (fun _ => False) W w' := fun W hf => expanded_is k g2 A2 m2 c2 b n W lk bk (h2.fr hf (fun _ x => x)) hm2 hn
    obtain ⟨V, hV⟩ : ∃ V, V = (exs k b ((n + 31) / 32)).take n := ⟨_, rfl⟩
    rw [← hV] at C ⊢
    have sk : Hid ((Try.prog.info? 24).map (·.size) = some (vs .u8 k).size) := by show _ = _; rw [szA32, vs_size, lk]
    have j1 : ¬ (n : Int) < 0 := by omega
    have j2 : ¬ 8160 < (n : Int) := by omega
    clear e hV lk bk h2 hm2 hn
    go_enter Try.func18, Try.ntmps18
    go_upto_region 1 with (fail)
    obtain ⟨bx, hbx⟩ : ∃ x, x = w.heap.size := ⟨_, rfl⟩
    have K0 : Hid (Ar (w.alloc (.cells (vs .u8 k) 24)) bx 24 .u8 k) := by rw [hbx]; exact Ar.new w 24 .u8 k
    have F0 : Hid (Fr (fun _ => False) w (w.alloc (.cells (vs .u8 k) 24))) := (Fr.refl _ _).alloc _
    rw [← hbx]
    generalize w.alloc (.cells (vs .u8 k) 24) = W0 at *
    clear hbx
    go_wp2_with (first
      | refine wpList_load_row rfl 24 (.tmp 3) rfl bx rfl 24 (vs .u8 k) (0, 0) _ K0.out Try.underlying24 rfl sk.out ?_
      | (go_at_call 30; refine (C _ F0.out).mono ?_; rintro e w1 ⟨v, rfl, hn, hf⟩; have N1 := Lib.hid hn; have F1 := Lib.hid hf; clear hn hf))
    go_ret2
    exact ⟨_, rfl, N1.out.of F0.out, F0.out.trans F1.out⟩
end Go.Proofs.Ytebknlhooijkcaa
