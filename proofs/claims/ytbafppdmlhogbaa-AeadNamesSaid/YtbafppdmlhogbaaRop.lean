/- The reference's Open: contract, of all keys, nonces, ads and boxes. Condition: lengths below 2^47. -/
import Derived.Test.YtbafppdmlhogbaaRse
namespace Go.Proofs.Ytbafppdmlhogbaa
set_option linter.unusedSimpArgs false
set_option linter.unusedVariables false
open Go.ChangeShapes Go.WideShapes Go.ChangeAt Go.RowKit


set_option maxHeartbeats 4000000 in
theorem ropen_limit (k n : List Int) (A2 : Option Addr) (m2 c2 : Nat) (A3 : Option Addr) (m3 c3 : Nat) (w : World) (h : 4096 < m2 ∨ 4112 < m3) :
    Calls Try.prog 20 #[.agg (vs .u8 k), .agg (vs .u8 n), .slice A2 m2 c2, .slice A3 m3 c3] w fun e w' => e = .returned (.tuple #[.slice none 0 0, .int .i64 5]) ∧ Fr (fun _ => False) w w' := by
  by_cases h2 : 4096 < m2
  · have j : (4096 : Int) < m2 := by omega
    clear h h2
    go_enter Try.func20, Try.ntmps20
    go_wp2
    go_ret2
    exact ⟨rfl, ((Fr.refl _ _).alloc _).alloc _⟩
  · have j : ¬ (4096 : Int) < m2 := by omega
    have j3 : (4112 : Int) < m3 := by omega
    clear h h2
    go_enter Try.func20, Try.ntmps20
    go_wp2
    go_ret2
    exact ⟨rfl, ((Fr.refl _ _).alloc _).alloc _⟩
set_option maxHeartbeats 4000000 in
theorem ropen_trunc (k n : List Int) (A2 : Option Addr) (m2 c2 : Nat) (A3 : Option Addr) (m3 c3 : Nat) (w : World) (h2 : m2 ≤ 4096) (h : m3 < 16) :
    Calls Try.prog 20 #[.agg (vs .u8 k), .agg (vs .u8 n), .slice A2 m2 c2, .slice A3 m3 c3] w fun e w' => e = .returned (.tuple #[.slice none 0 0, .int .i64 3]) ∧ Fr (fun _ => False) w w' := by
  have j : ¬ (4096 : Int) < m2 := by omega
  have j3 : ¬ (4112 : Int) < m3 := by omega
  have j4 : (m3 : Int) < 16 := by omega
  clear h h2
  go_enter Try.func20, Try.ntmps20
  go_wp2
  go_ret2
  exact ⟨rfl, ((Fr.refl _ _).alloc _).alloc _⟩
/-- Both contracts that are left: the tag is right, or not. -/
def openEnd (k n ad bx : List Int) (m3 : Nat) (w : World) (e : Ending) (w' : World) : Prop :=
  if atag k n ad (bx.take (m3 - 16)) = bx.drop (m3 - 16) then ∃ v, e = .returned (.tuple #[v, .int .i64 0]) ∧ Nw w w' v (xo k 1 n (bx.take (m3 - 16))) ∧ Fr (fun _ => False) w w'
  else e = .returned (.tuple #[.slice none 0 0, .int .i64 60]) ∧ Fr (fun _ => False) w w'
set_option maxRecDepth 100000 in
set_option maxHeartbeats 8000000 in
theorem ropen_rest (k n : List Int) (g2 : Nat) (A2 : Option Addr) (m2 c2 : Nat) (ad : List Int) (g3 : Nat) (A3 : Option Addr) (m3 c3 : Nat) (bx : List Int) (w : World) (hk : k.length = 32) (bk : Bys k) (hn : n.length = 12) (bn : Bys n)
    (h2 : Sl w g2 (.slice A2 m2 c2) ad) (h3 : Sl w g3 (.slice A3 m3 c3) bx) (l2 : m2 ≤ 4096) (l3 : 16 ≤ m3) (l4 : m3 ≤ 4112) :
    Calls Try.prog 20 #[.agg (vs .u8 k), .agg (vs .u8 n), .slice A2 m2 c2, .slice A3 m3 c3] w (openEnd k n ad bx m3 w) := by
  obtain ⟨d, hd⟩ : ∃ d, d = m3 - 16 := ⟨_, rfl⟩
  have hl := h3.len
  obtain ⟨t, ht⟩ : ∃ t, t = atag k n ad (bx.take d) := ⟨_, rfl⟩
  obtain ⟨X, hX⟩ : ∃ X, X = xo k 1 n (bx.take d) := ⟨_, rfl⟩
  have HE : Unit → ∀ e w', openEnd k n ad bx m3 w e w' = if t = bx.drop d then (∃ v, e = .returned (.tuple #[v, .int .i64 0]) ∧ Nw w w' v X ∧ Fr (fun _ => False) w w') else (e = .returned (.tuple #[.slice none 0 0, .int .i64 60]) ∧ Fr (fun _ => False) w w') := fun _ e w' => by
    rw [openEnd, ← hd, ← ht, ← hX]
  have Ht : Hid (t.length = 16 ∧ Bys t) := by rw [ht]; exact ⟨atag_length _ _ _ _, atag_bys _ _ _ _⟩
  obtain ⟨ov, hA, _⟩ := h3.at_ (by omega)
  subst hA
  have hc3 : m3 ≤ c3 := by
    obtain ⟨_, A', c', e, h3, _⟩ := h3
    injection e with _ e2 e3
    omega
  have HT : ∀ W, Fr (fun _ => False) w W → Calls Try.prog 31 #[.agg (vs .u8 k), .agg (vs .u8 n), .slice A2 m2 c2, .slice (some ⟨g3, ov, none⟩) d c3] W fun e w' => e = .returned (.agg (vs .u8 t)) ∧ Fr (fun _ => False) W w' := fun W hf => by
    rw [ht]
    exact rtag6_is k n g2 A2 m2 c2 ad g3 _ d c3 (bx.take d) W hk bk hn bn (h2.fr hf (fun _ x => x)) ((h3.fr hf (fun _ x => x)).take d (by omega)) (by omega) (by omega)
  have HX : ∀ W, Fr (fun _ => False) w W → Calls Try.prog 30 #[.agg (vs .u8 k), .int .u32 1, .agg (vs .u8 n), .slice (some ⟨g3, ov, none⟩) d c3] W fun e w' => ∃ v, e = .returned (.tuple #[v, .int .i64 0]) ∧ Nw w w' v X ∧ Fr (fun _ => False) W w' := fun W hf => by
    rw [hX]
    have hs := (h3.fr hf (fun _ x => x)).take d (by omega)
    exact (rxor_yes k 1 n g3 _ d c3 (bx.take d) W hk bk wd1 hn bn hs (by omega) (by omega) (fun h0 => hs.hgb (fun e => by have := hs.len; rw [e] at this; simp at this; omega))).mono fun e w' ⟨v, h1, h2, h3, h4⟩ => ⟨v, h1, Nw.of ⟨h2, h3⟩ hf, h4⟩
  have HQ : ∀ W g1, Fr (fun _ => False) w W → Ar W g1 38 .u8 t → Calls Try.prog 18 #[.slice (some ⟨g1, 0, none⟩) 16 16, .slice (some ⟨g3, ov + d, none⟩) (m3 - d) (c3 - d)] W fun e w' => e = .returned (.bool (decide (t = bx.drop d))) ∧ Fr (fun _ => False) W w' := fun W g1 hf ha => by
    have hs := (h3.fr hf (fun _ x => x)).drop d (by omega)
    rw [hl, if_neg (by omega), Option.map_some, Addr_add_none] at hs
    exact (eqBytes_any g1 g3 _ _ 16 (m3 - d) 16 (c3 - d) t (bx.drop d) W (ha.slt Ht.out.2 Ht.out.1 (by decide)) hs).mono fun e w' ⟨he, hq⟩ => ⟨he, by first | exact hq | (obtain ⟨q, rfl⟩ := hq; exact Fr.drewN (Fr.refl _ _) q)⟩
  obtain ⟨q, hT2⟩ : ∃ x, decide (t = bx.drop d) = x := ⟨_, rfl⟩
  rw [hT2] at HQ
  have HE' : Unit → ∀ e w', openEnd k n ad bx m3 w e w' = if q = true then (∃ v, e = .returned (.tuple #[v, .int .i64 0]) ∧ Nw w w' v X ∧ Fr (fun _ => False) w w') else (e = .returned (.tuple #[.slice none 0 0, .int .i64 60]) ∧ Fr (fun _ => False) w w') := fun _ e w' => by
    rw [HE (), ← hT2]
    simp only [decide_eq_true_eq]
  clear HE
  have sK := Lib.hid (keys_info hk)
  have sN : Hid ((Try.prog.info? 22).map (·.size) = some (vs .u8 n).size) := by show _ = _; rw [size29, vs_size, hn]
  have st : Hid ((Try.prog.info? 38).map (·.size) = some (vs .u8 t).size) := tags_info Ht.out.1
  obtain ⟨Z, hZ⟩ : ∃ Z, Z = List.replicate 16 (0 : Int) := ⟨_, rfl⟩
  have hz2 : ∀ W : World, (zeroValue 38).run Try.prog W = .ok (.agg (vs .u8 Z)) W := fun W => by rw [hZ]; exact zero26 W
  have lZ : Hid ((vs .u8 Z).size = (vs .u8 t).size) := by show _ = _; rw [vs_size, vs_size, hZ, Ht.out.1]; rfl
  have j : ¬ (4096 : Int) < m2 := by omega
  have j3 : ¬ (4112 : Int) < m3 := by omega
  have j4 : ¬ (m3 : Int) < 16 := by omega
  have j5 : IntKind.i64.wrap ((m3 : Int) - 16) = (d : Int) := by rw [IntKind.wrap_i64]; omega
  have jd1 : ((d : Int)).toNat = d := by omega
  have jd2 : 0 ≤ (d : Int) := by omega
  have jd3 : (d : Int) ≤ m3 := by omega
  have jd4 : (d : Int) ≤ c3 := by omega
  have hcd : ¬ c3 = d := by omega
  clear hd hl ht hX hZ hT2 hk bk hn bn h2 h3 l2 l3 l4 hc3
  go_enter Try.func20, Try.ntmps20
  go_upto_region 6 with (fail)
  generalize hW : (w.alloc (.cells (vs .u8 k) 28)).alloc (.cells (vs .u8 n) 22) = W0
  have HW := Lib.hid (calm2 hW)
  clear hW j j3 j4 j5
  have K0 : Hid (Ar W0 w.heap.size 28 .u8 k) := HW.out.1
  have N0 : Hid (Ar W0 (w.heap.size + 1) 22 .u8 n) := HW.out.2.1
  have F0 : Hid (Fr (fun _ => False) w W0) := HW.out.2.2
  clear HW
  refine wp_region_inv2 (fun b a w' => ∃ g11 : Nat, Fr (fun _ => False) W0 w' ∧ (b 7 = true → W0.heap.size ≤ g11 ∧ w'.heap[g11]? = some (.cells (if b 8 = true then vs .u8 t else vs .u8 Z) 38 (0, 0))) ∧ (b 8 = true → b 7 = true) ∧ a = ⟨#[.agg (vs .u8 k), .agg (vs .u8 n), .slice A2 m2 c2, .slice (some ⟨g3, ov, none⟩) m3 c3, .pointer (some ⟨w.heap.size, 0, none⟩), .pointer (some ⟨w.heap.size + 1, 0, none⟩), undef, undef, Value.slice none 0 0, Value.int IntKind.i64 0, .int .i64 (d : Int), if b 7 = true then .pointer (some ⟨g11, 0, none⟩) else undef, undef, undef, Value.slice A2 m2 c2, Value.int IntKind.i64 ↑m2, Value.bool false, Value.bool false, Value.slice (some { block := g3, off := ov }) m3 c3, Value.int IntKind.i64 ↑m3, Value.bool false, Value.bool false, Value.slice (some { block := g3, off := ov }) m3 c3, Value.int IntKind.i64 ↑m3, Value.bool false, Value.slice (some { block := g3, off := ov }) m3 c3, Value.int IntKind.i64 ↑m3, Value.int IntKind.i64 ↑d, if b 0 = true then .agg (vs .u8 k) else undef, if b 1 = true then .agg (vs .u8 n) else undef, if b 2 = true then .slice A2 m2 c2 else undef, if b 3 = true then .slice (some ⟨g3, ov, none⟩) m3 c3 else undef, if b 4 = true then .int .i64 (d : Int) else undef, if b 5 = true then .slice (some ⟨g3, ov, none⟩) d c3 else undef, if b 6 = true then .agg (vs .u8 t) else undef, undef, undef, undef, undef, undef, undef, undef, undef, undef, undef, undef, undef, undef, undef, undef, undef], []⟩) (by kernel_rfl) (by kernel_rfl) ?start6 ?step6 ?done6
  case start6 => exact ⟨0, ⟨rfl, rfl, rfl, Nat.le_refl _, fun _ _ _ => rfl⟩, by simp, by simp, by simp⟩
  case step6 =>
    intro i o b a w1 ho hI hb hr hc
    obtain ⟨g11, hF, h7, hq7, rfl⟩ := hI
    match i, ho with
    | 0, ho =>
      injection ho with ho
      subst ho
      refine wp_quiet_here _ (quiet_load 28 (.tmp 4) rfl (w.heap.size) rfl 28 _ (0, 0) _ (fun _ h => (Fr.block h _ (Nat.lt_of_lt_of_le (heap_lt K0.out) hF.size) (fun x => x)).trans ((hF.block _ (heap_lt K0.out) (fun x => x)).trans K0.out)) Try.underlying28 rfl sK.out rfl) (fun w2 hw2 => ?_)
      refine ⟨g11, hF.trans hw2, ?_, ?_, ?_⟩
      · intro hx
        replace hx : b 7 = true := by simpa [upd] using hx
        obtain ⟨k1', k2⟩ := h7 hx
        refine ⟨k1', (hw2.block _ (heap_lt k2) (fun x => x)).trans ?_⟩
        rw [k2]
        simp [upd]
      · simpa [upd] using hq7
      · simp [upd, Act.put]
    | 1, ho =>
      injection ho with ho
      subst ho
      refine wp_quiet_here _ (quiet_load 22 (.tmp 5) rfl (w.heap.size + 1) rfl 22 _ (0, 0) _ (fun _ h => (Fr.block h _ (Nat.lt_of_lt_of_le (heap_lt N0.out) hF.size) (fun x => x)).trans ((hF.block _ (heap_lt N0.out) (fun x => x)).trans N0.out)) Try.underlying22 rfl sN.out rfl) (fun w2 hw2 => ?_)
      refine ⟨g11, hF.trans hw2, ?_, ?_, ?_⟩
      · intro hx
        replace hx : b 7 = true := by simpa [upd] using hx
        obtain ⟨k1', k2⟩ := h7 hx
        refine ⟨k1', (hw2.block _ (heap_lt k2) (fun x => x)).trans ?_⟩
        rw [k2]
        simp [upd]
      · simpa [upd] using hq7
      · simp [upd, Act.put]
    | 2, ho =>
      injection ho with ho
      subst ho
      refine wp_quiet_here (.slice A2 m2 c2) (BigFrame.quiet_move _ rfl rfl) (fun w2 hw2 => ?_)
      refine ⟨g11, hF.trans hw2, ?_, ?_, ?_⟩
      · intro hx
        replace hx : b 7 = true := by simpa [upd] using hx
        obtain ⟨k1', k2⟩ := h7 hx
        refine ⟨k1', (hw2.block _ (heap_lt k2) (fun x => x)).trans ?_⟩
        rw [k2]
        simp [upd]
      · simpa [upd] using hq7
      · simp [upd, Act.put]
    | 3, ho =>
      injection ho with ho
      subst ho
      refine wp_quiet_here (.slice (some ⟨g3, ov, none⟩) m3 c3) (BigFrame.quiet_move _ rfl rfl) (fun w2 hw2 => ?_)
      refine ⟨g11, hF.trans hw2, ?_, ?_, ?_⟩
      · intro hx
        replace hx : b 7 = true := by simpa [upd] using hx
        obtain ⟨k1', k2⟩ := h7 hx
        refine ⟨k1', (hw2.block _ (heap_lt k2) (fun x => x)).trans ?_⟩
        rw [k2]
        simp [upd]
      · simpa [upd] using hq7
      · simp [upd, Act.put]
    | 4, ho =>
      injection ho with ho
      subst ho
      refine wp_quiet_here (.int .i64 (d : Int)) (BigFrame.quiet_move _ rfl rfl) (fun w2 hw2 => ?_)
      refine ⟨g11, hF.trans hw2, ?_, ?_, ?_⟩
      · intro hx
        replace hx : b 7 = true := by simpa [upd] using hx
        obtain ⟨k1', k2⟩ := h7 hx
        refine ⟨k1', (hw2.block _ (heap_lt k2) (fun x => x)).trans ?_⟩
        rw [k2]
        simp [upd]
      · simpa [upd] using hq7
      · simp [upd, Act.put]
    | 5, ho =>
      injection ho with ho
      subst ho
      simp [Region.binds] at hr
      have d3 : b 3 = true := by simp only [hr]
      have d4 : b 4 = true := by simp only [hr]
      simp only [hr, if_true]
      refine wp_quiet_here (.slice (some ⟨g3, ov, none⟩) d c3) ?_ (fun w2 hw2 => ?_)
      · go_big_quiet_op
        first
          | (simp [Act.put]; done)
          | exact ⟨_, fun _ _ => rfl, by simp [Act.put]⟩
      refine ⟨g11, hF.trans hw2, ?_, ?_, ?_⟩
      · intro hx
        replace hx : b 7 = true := by simpa [upd] using hx
        obtain ⟨k1', k2⟩ := h7 hx
        refine ⟨k1', (hw2.block _ (heap_lt k2) (fun x => x)).trans ?_⟩
        rw [k2]
        simp [upd]
      · simpa [upd] using hq7
      · simp [upd, Act.put, hr]
    | 6, ho =>
      injection ho with ho
      subst ho
      simp [Region.binds] at hr
      have d0 : b 0 = true := by simp only [hr]
      have d1 : b 1 = true := by simp only [hr]
      have d2 : b 2 = true := by simp only [hr]
      have d5 : b 5 = true := by simp only [hr]
      simp only [hr, if_true]
      refine wp_quiet_here (.agg (vs .u8 t)) ?_ (fun w2 hw2 => ?_)
      · go_big_quiet_op
        exact ⟨_, fun V hV => (HT V ((F0.out.trans hF).trans hV)).mono (fun _ _ ⟨he, hf⟩ => ⟨he, Fr.trans hV hf⟩), by simp [Act.put]⟩
      refine ⟨g11, hF.trans hw2, ?_, ?_, ?_⟩
      · intro hx
        replace hx : b 7 = true := by simpa [upd] using hx
        obtain ⟨k1', k2⟩ := h7 hx
        refine ⟨k1', (hw2.block _ (heap_lt k2) (fun x => x)).trans ?_⟩
        rw [k2]
        simp [upd]
      · simpa [upd] using hq7
      · simp [upd, Act.put, hr]
    | 7, ho =>
      injection ho with ho
      subst ho
      refine wp_alloc_any 38 rfl (vs .u8 Z) hz2 ?_
      refine ⟨w1.heap.size, hF.alloc _, ?_, ?_, ?_⟩
      · intro _
        refine ⟨hF.size, (heap_alloc_new w1 _).trans ?_⟩
        have hs : b 8 = false := by
          rcases hbs : b 8 with _ | _
          · rfl
          · rw [hq7 hbs] at hb
            cases hb
        simp [upd, hs]
      · simp [upd]
      · simp [upd, Act.put]
    | 8, ho =>
      injection ho with ho
      subst ho
      simp [Region.binds] at hr
      have d6 : b 6 = true := by simp only [hr]
      have d7 : b 7 = true := by simp only [hr]
      simp only [hr, if_true]
      obtain ⟨k1, k2⟩ := h7 d7
      rw [hb] at k2
      simp only [Bool.false_eq_true, if_false] at k2
      refine wp_store_row 38 (.tmp 11) (.tmp 34) rfl g11 (vs .u8 t) rfl rfl 38 _ k2 st.out lZ.out (vs_all _ _) ?_
      refine ⟨g11, hF.setRow _ (.inr k1), ?_, ?_, ?_⟩
      · intro _
        refine ⟨k1, (setRow_heap _ _ _ _ _ _ k2).trans ?_⟩
        simp [upd]
      · simp [upd, d7]
      · simp [upd, Act.put, hr]
    | j + 9, ho => exact absurd ho (by simp)
  intro b a W7 hall hI
  obtain ⟨g11, hF, h7, hq7, rfl⟩ := hI
  have t0 : b 0 = true := hall 0 (by simp)
  have t1 : b 1 = true := hall 1 (by simp)
  have t2 : b 2 = true := hall 2 (by simp)
  have t3 : b 3 = true := hall 3 (by simp)
  have t4 : b 4 = true := hall 4 (by simp)
  have t5 : b 5 = true := hall 5 (by simp)
  have t6 : b 6 = true := hall 6 (by simp)
  have t7 : b 7 = true := hall 7 (by simp)
  have t8 : b 8 = true := hall 8 (by simp)
  simp only [t0, t1, t2, t3, t4, t5, t6, t7, t8, if_true, true_implies] at h7 hq7 ⊢
  have F7 : Hid (Fr (fun _ => False) w W7) := F0.out.trans hF
  have X7_0 := Lib.hid ((hF.block _ (heap_lt K0.out) (fun x => x)).trans K0.out)
  have X7_1 := Lib.hid ((hF.block _ (heap_lt N0.out) (fun x => x)).trans N0.out)
  have X7_2 := Lib.hid h7.2
  have Yg11 : w.heap.size ≤ g11 := Nat.le_trans F0.out.size h7.1
  clear hall hF h7 hq7 t0 t1 t2 t3 t4 t5 t6 t7 t8 F0
  have K5 := X7_0
  have N5 := X7_1
  have T5 := X7_2
  have F5 := F7
  have hbq : g11 = g11 := rfl
  generalize g11 = bq at *
  clear X7_0 X7_1 X7_2 F7 hbq
  go_upto_region 7 with (fail)
  obtain ⟨W5, rfl⟩ : ∃ W5 : World, W5 = W7 := ⟨_, rfl⟩
  refine wp_region_quiet (C := Calm W5) (by kernel_rfl) (by kernel_rfl) (Calm.start _ _ (Fr.refl _ _)) ?_
  refine BigFrame.wpQuiet_want rfl fun K hK => ?_
  try simp only [Act.put, List.setIfInBounds_toArray, List.set_cons_succ, List.set_cons_zero]
  go_big_quiet_op
  first
    | refine ⟨_, fun _ _ => rfl, hK _ ?_⟩
    | refine hK _ ?_
  refine BigFrame.wpQuiet_want rfl fun K hK => ?_
  try simp only [Act.put, List.setIfInBounds_toArray, List.set_cons_succ, List.set_cons_zero]
  go_big_quiet_op
  refine hK _ ?_
  refine BigFrame.wpQuiet_want rfl fun K hK => ?_
  try simp only [Act.put, List.setIfInBounds_toArray, List.set_cons_succ, List.set_cons_zero]
  go_big_quiet_op
  refine hK _ ?_
  refine BigFrame.wpQuiet_want rfl fun K hK => ?_
  try simp only [Act.put, List.setIfInBounds_toArray, List.set_cons_succ, List.set_cons_zero]
  go_big_quiet_op
  first
    | refine ⟨_, fun _ _ => rfl, hK _ ?_⟩
    | refine hK _ ?_
  refine BigFrame.wpQuiet_want rfl fun K hK => ?_
  try simp only [Act.put, List.setIfInBounds_toArray, List.set_cons_succ, List.set_cons_zero]
  go_big_quiet_op
  refine ⟨_, fun V hV => (HQ V bq (F5.out.trans hV) (Ar.fr T5.out hV (fun x => x))).mono (fun _ _ ⟨he, hf⟩ => ⟨he, Fr.trans hV hf⟩), hK _ ?_⟩
  refine BigFrame.wpQuiet_want rfl fun K hK => ?_
  try simp only [Act.put, List.setIfInBounds_toArray, List.set_cons_succ, List.set_cons_zero]
  go_big_quiet_op
  first
    | refine ⟨_, fun _ _ => rfl, hK _ ?_⟩
    | refine hK _ ?_
  refine wpQuiet_nil ?_
  intro w2 hw2
  have F2 : Hid (Fr (fun _ => False) w w2) := F5.out.trans hw2
  have G2 := Lib.hid hw2
  clear hw2
  try simp only [Act.put, List.setIfInBounds_toArray, List.set_cons_succ, List.set_cons_zero]
  clear T5
  have K6 := Lib.hid (Ar.fr K5.out G2.out (fun x => x))
  have N6 := Lib.hid (Ar.fr N5.out G2.out (fun x => x))
  clear K5 N5 G2 F5
  rcases q with _ | _
  rotate_left
  · have HE2 : Unit → ∀ e w', openEnd k n ad bx m3 w e w' = (∃ v, e = .returned (.tuple #[v, .int .i64 0]) ∧ Nw w w' v X ∧ Fr (fun _ => False) w w') := fun _ e w' => by rw [HE' (), if_pos rfl]
    clear HE'
    go_upto_region 9 with (fail)
    refine wp_region_inv2 (fun b a w' => ∃ vx : Value, Fr (fun _ => False) w2 w' ∧ (b 5 = true → Nw w w' vx X) ∧ a = ⟨#[Value.agg (vs IntKind.u8 k), Value.agg (vs IntKind.u8 n), Value.slice A2 m2 c2, Value.slice (some { block := g3, off := ov }) m3 c3, Value.pointer (some { block := w.heap.size, off := 0 }), Value.pointer (some { block := w.heap.size + 1, off := 0 }), undef, undef, Value.slice none 0 0, Value.int IntKind.i64 0, Value.int IntKind.i64 ↑d, Value.pointer (some { block := bq, off := 0 }), if b 9 = true then vx else undef, if b 10 = true then .int .i64 0 else undef, Value.slice A2 m2 c2, Value.int IntKind.i64 ↑m2, Value.bool false, Value.bool false, Value.slice (some { block := g3, off := ov }) m3 c3, Value.int IntKind.i64 ↑m3, Value.bool false, Value.bool false, Value.slice (some { block := g3, off := ov }) m3 c3, Value.int IntKind.i64 ↑m3, Value.bool false, Value.slice (some { block := g3, off := ov }) m3 c3, Value.int IntKind.i64 ↑m3, Value.int IntKind.i64 ↑d, Value.agg (vs IntKind.u8 k), Value.agg (vs IntKind.u8 n), Value.slice A2 m2 c2, Value.slice (some { block := g3, off := ov }) m3 c3, Value.int IntKind.i64 ↑d, Value.slice (some { block := g3, off := ov }) d c3, Value.agg (vs IntKind.u8 t), Value.slice (some { block := bq, off := 0 }) 16 16, Value.slice (some { block := g3, off := ov }) m3 c3, Value.int IntKind.i64 ↑d, Value.slice (some { block := g3, off := ov + d }) (m3 - d) (c3 - d), Value.bool true, Value.bool !true, if b 6 = true then .tuple #[vx, .int .i64 0] else undef, if b 0 = true then .agg (vs .u8 k) else undef, if b 1 = true then .agg (vs .u8 n) else undef, if b 2 = true then Value.slice (some { block := g3, off := ov }) m3 c3 else undef, if b 3 = true then Value.int IntKind.i64 ↑d else undef, if b 4 = true then .slice (some ⟨g3, ov, none⟩) d c3 else undef, if b 5 = true then .tuple #[vx, .int .i64 0] else undef, if b 7 = true then vx else undef, if b 8 = true then .int .i64 0 else undef, undef], []⟩) (by kernel_rfl) (by kernel_rfl) ?start9 ?step9 ?done9
    case start9 => exact ⟨undef, ⟨rfl, rfl, rfl, Nat.le_refl _, fun _ _ _ => rfl⟩, fun h => by simp at h, by simp⟩
    case step9 =>
      intro i5 o5 b a w1 ho hI hb hr hcl
      obtain ⟨vx, hF, h5, rfl⟩ := hI
      match i5, ho with
      | 0, ho =>
        injection ho with ho
        subst ho
        refine wp_quiet_here (.agg (vs .u8 k)) (quiet_load 28 (.tmp 4) rfl (w.heap.size) rfl 28 _ (0, 0) _ (fun _ h => Calm.at (Calm.at K6.out hF) h) Try.underlying28 rfl sK.out rfl) (fun w2 hw2 => ?_)
        refine ⟨vx, hF.trans hw2, ?_, ?_⟩
        · intro hx
          have hy := h5 (by simpa [upd] using hx)
          exact hy.fr hw2 (fun _ x => x)
        · simp [upd, Act.put]
      | 1, ho =>
        injection ho with ho
        subst ho
        refine wp_quiet_here (.agg (vs .u8 n)) (quiet_load 22 (.tmp 5) rfl (w.heap.size + 1) rfl 22 _ (0, 0) _ (fun _ h => Calm.at (Calm.at N6.out hF) h) Try.underlying22 rfl sN.out rfl) (fun w2 hw2 => ?_)
        refine ⟨vx, hF.trans hw2, ?_, ?_⟩
        · intro hx
          have hy := h5 (by simpa [upd] using hx)
          exact hy.fr hw2 (fun _ x => x)
        · simp [upd, Act.put]
      | 2, ho =>
        injection ho with ho
        subst ho
        refine wp_quiet_here (Value.slice (some { block := g3, off := ov }) m3 c3) (BigFrame.quiet_move _ rfl rfl) (fun w2 hw2 => ?_)
        refine ⟨vx, hF.trans hw2, ?_, ?_⟩
        · intro hx
          have hy := h5 (by simpa [upd] using hx)
          exact hy.fr hw2 (fun _ x => x)
        · simp [upd, Act.put]
      | 3, ho =>
        injection ho with ho
        subst ho
        refine wp_quiet_here (Value.int IntKind.i64 ↑d) (BigFrame.quiet_move _ rfl rfl) (fun w2 hw2 => ?_)
        refine ⟨vx, hF.trans hw2, ?_, ?_⟩
        · intro hx
          have hy := h5 (by simpa [upd] using hx)
          exact hy.fr hw2 (fun _ x => x)
        · simp [upd, Act.put]
      | 4, ho =>
        injection ho with ho
        subst ho
        simp [Region.binds] at hr
        have d2 : b 2 = true := by simp only [hr]
        have d3 : b 3 = true := by simp only [hr]
        simp only [hr, if_true]
        refine wp_quiet_here (.slice (some ⟨g3, ov, none⟩) d c3) ?_ (fun w2 hw2 => ?_)
        · go_big_quiet_op
          first
            | (simp [Act.put]; done)
            | exact ⟨_, fun _ _ => rfl, by simp [Act.put] <;> assumption⟩
        refine ⟨vx, hF.trans hw2, ?_, ?_⟩
        · intro hx
          have hy := h5 (by simpa [upd] using hx)
          exact hy.fr hw2 (fun _ x => x)
        · simp [upd, Act.put, hr]
      | 5, ho =>
        injection ho with ho
        subst ho
        simp [Region.binds] at hr
        have d0 : b 0 = true := by simp only [hr]
        have d1 : b 1 = true := by simp only [hr]
        have d4 : b 4 = true := by simp only [hr]
        simp only [hr, if_true]
        have n6 : b 6 = false := by
          rcases hbs : b 6 with _ | _
          · rfl
          · rw [chain hcl 6 5 rfl hbs (by simp [Region.binds])] at hb
            cases hb
        have n7 : b 7 = false := by
          rcases hbs : b 7 with _ | _
          · rfl
          · rw [chain hcl 6 5 rfl (chain hcl 7 6 rfl hbs (by simp [Region.binds])) (by simp [Region.binds])] at hb
            cases hb
        have n9 : b 9 = false := by
          rcases hbs : b 9 with _ | _
          · rfl
          · rw [chain hcl 9 5 rfl hbs (by simp [Region.binds])] at hb
            cases hb
        refine wp_enter 30 #[.agg (vs .u8 k), .int .u32 1, .agg (vs .u8 n), .slice (some ⟨g3, ov, none⟩) d c3] (by kernel_rfl) ((HX _ (F2.out.trans hF)).mono ?_)
        rintro e w2 ⟨gN, rfl, hfact, hfN⟩
        refine ⟨gN, hF.trans hfN, ?_, ?_⟩
        · exact fun _ => hfact
        · simp [upd, Act.put, hr, n6, n7, n9]
      | 6, ho =>
        injection ho with ho
        subst ho
        simp [Region.binds] at hr
        have d5 : b 5 = true := by simp only [hr]
        simp only [hr, if_true]
        refine wp_quiet_here (.tuple #[vx, .int .i64 0]) ?_ (fun w2 hw2 => ?_)
        · go_big_quiet_op
          first
            | (simp [Act.put]; done)
            | exact ⟨_, fun _ _ => rfl, by simp [Act.put] <;> assumption⟩
        refine ⟨vx, hF.trans hw2, ?_, ?_⟩
        · intro hx
          have hy := h5 (by simpa [upd] using hx)
          exact hy.fr hw2 (fun _ x => x)
        · simp [upd, Act.put, hr]
      | 7, ho =>
        injection ho with ho
        subst ho
        simp [Region.binds] at hr
        have d6 : b 6 = true := by simp only [hr]
        simp only [hr, if_true]
        refine wp_quiet_here (vx) ?_ (fun w2 hw2 => ?_)
        · go_big_quiet_op
          first
            | (simp [Act.put]; done)
            | exact ⟨_, fun _ _ => rfl, by simp [Act.put] <;> assumption⟩
        refine ⟨vx, hF.trans hw2, ?_, ?_⟩
        · intro hx
          have hy := h5 (by simpa [upd] using hx)
          exact hy.fr hw2 (fun _ x => x)
        · simp [upd, Act.put, hr]
      | 8, ho =>
        injection ho with ho
        subst ho
        simp [Region.binds] at hr
        have d6 : b 6 = true := by simp only [hr]
        simp only [hr, if_true]
        refine wp_quiet_here (.int .i64 0) ?_ (fun w2 hw2 => ?_)
        · go_big_quiet_op
          first
            | (simp [Act.put]; done)
            | exact ⟨_, fun _ _ => rfl, by simp [Act.put] <;> assumption⟩
        refine ⟨vx, hF.trans hw2, ?_, ?_⟩
        · intro hx
          have hy := h5 (by simpa [upd] using hx)
          exact hy.fr hw2 (fun _ x => x)
        · simp [upd, Act.put, hr]
      | 9, ho =>
        injection ho with ho
        subst ho
        simp [Region.binds] at hr
        have d0 : b 0 = true := by simp only [hr]
        have d1 : b 1 = true := by simp only [hr]
        have d2 : b 2 = true := by simp only [hr]
        have d3 : b 3 = true := by simp only [hr]
        have d4 : b 4 = true := by simp only [hr]
        have d5 : b 5 = true := by simp only [hr]
        have d6 : b 6 = true := by simp only [hr]
        have d7 : b 7 = true := by simp only [hr]
        simp only [hr, if_true]
        refine wp_quiet_here (vx) (BigFrame.quiet_assign _ rfl rfl) (fun w2 hw2 => ?_)
        refine ⟨vx, hF.trans hw2, ?_, ?_⟩
        · intro hx
          have hy := h5 (by simpa [upd] using hx)
          exact hy.fr hw2 (fun _ x => x)
        · simp [upd, Act.put, hr]
      | 10, ho =>
        injection ho with ho
        subst ho
        simp [Region.binds] at hr
        have d0 : b 0 = true := by simp only [hr]
        have d1 : b 1 = true := by simp only [hr]
        have d2 : b 2 = true := by simp only [hr]
        have d3 : b 3 = true := by simp only [hr]
        have d4 : b 4 = true := by simp only [hr]
        have d5 : b 5 = true := by simp only [hr]
        have d6 : b 6 = true := by simp only [hr]
        have d7 : b 7 = true := by simp only [hr]
        have d8 : b 8 = true := by simp only [hr]
        have d9 : b 9 = true := by simp only [hr]
        simp only [hr, if_true]
        refine wp_quiet_here (.int .i64 0) (BigFrame.quiet_assign _ rfl rfl) (fun w2 hw2 => ?_)
        refine ⟨vx, hF.trans hw2, ?_, ?_⟩
        · intro hx
          have hy := h5 (by simpa [upd] using hx)
          exact hy.fr hw2 (fun _ x => x)
        · simp [upd, Act.put, hr]
      | j + 11, ho => exact absurd ho (by simp)
    intro b a w9 hall hI
    obtain ⟨vx, hF, h5, rfl⟩ := hI
    have t0 : b 0 = true := hall 0 (by simp)
    have t1 : b 1 = true := hall 1 (by simp)
    have t2 : b 2 = true := hall 2 (by simp)
    have t3 : b 3 = true := hall 3 (by simp)
    have t4 : b 4 = true := hall 4 (by simp)
    have t5 : b 5 = true := hall 5 (by simp)
    have t6 : b 6 = true := hall 6 (by simp)
    have t7 : b 7 = true := hall 7 (by simp)
    have t8 : b 8 = true := hall 8 (by simp)
    have t9 : b 9 = true := hall 9 (by simp)
    have t10 : b 10 = true := hall 10 (by simp)
    simp only [t0, t1, t2, t3, t4, t5, t6, t7, t8, t9, t10, if_true]
    have Pvx := Lib.hid (h5 t5)
    have F9 : Hid (Fr (fun _ => False) w w9) := F2.out.trans hF
    have G9 := Lib.hid hF
    clear hall hF h5 t0 t1 t2 t3 t4 t5 t6 t7 t8 t9 t10
    try simp only [Act.put, List.setIfInBounds_toArray, List.set_cons_succ, List.set_cons_zero]
    go_wp2
    go_ret2
    rw [HE2 ()]
    exact ⟨_, rfl, Pvx.out, F9.out⟩
  · have HE2 : Unit → ∀ e w', openEnd k n ad bx m3 w e w' = (e = .returned (.tuple #[.slice none 0 0, .int .i64 60]) ∧ Fr (fun _ => False) w w') := fun _ e w' => by rw [HE' (), if_neg (by simp)]
    clear HE'
    go_wp2
    go_ret2
    rw [HE2 ()]
    exact ⟨rfl, F2.out⟩
/-- What Open answers. -/
theorem ropen_is (k n : List Int) (g2 : Nat) (A2 : Option Addr) (m2 c2 : Nat) (ad : List Int) (g3 : Nat) (A3 : Option Addr) (m3 c3 : Nat) (bx : List Int) (w : World) (hk : k.length = 32) (bk : Bys k) (hn : n.length = 12) (bn : Bys n)
    (h2 : Sl w g2 (.slice A2 m2 c2) ad) (h3 : Sl w g3 (.slice A3 m3 c3) bx) :
    Calls Try.prog 20 #[.agg (vs .u8 k), .agg (vs .u8 n), .slice A2 m2 c2, .slice A3 m3 c3] w fun e w' => ∃ v, e = .returned (.tuple #[v, .int .i64 (openv k n ad bx).2]) ∧ Nw w w' v (openv k n ad bx).1 ∧ Fr (fun _ => False) w w' := by
  have e2 := h2.len
  have e3 := h3.len
  unfold openv
  by_cases h : 4096 < ad.length ∨ 4112 < bx.length
  · rw [if_pos h]
    exact (ropen_limit k n A2 m2 c2 A3 m3 c3 w (by omega)).mono fun e w' ⟨he, hf⟩ => ⟨_, he, Nw.nil _ _, hf⟩
  · rw [if_neg h]
    by_cases h4 : bx.length < 16
    · rw [if_pos h4]
      exact (ropen_trunc k n A2 m2 c2 A3 m3 c3 w (by omega) (by omega)).mono fun e w' ⟨he, hf⟩ => ⟨_, he, Nw.nil _ _, hf⟩
    · rw [if_neg h4, e3]
      refine (ropen_rest k n g2 A2 m2 c2 ad g3 A3 m3 c3 bx w hk bk hn bn h2 h3 (by omega) (by omega) (by omega)).mono fun e w' he => ?_
      unfold openEnd at he
      by_cases h5 : atag k n ad (bx.take (m3 - 16)) = bx.drop (m3 - 16)
      · rw [if_pos h5] at he ⊢
        exact he
      · rw [if_neg h5] at he ⊢
        exact ⟨_, he.1, Nw.nil _ _, he.2⟩
end Go.Proofs.Ytbafppdmlhogbaa
