/- PolyPieces answers true for all keys and pieces, and its arguments read behind the call as they did: the given statement PolyPiecesSaid. No condition. -/
import Derived.Test.YtcoggpedpclkaaaRw
import Derived.Test.YtcoggpedpclkaaaRh
namespace Go.Proofs.Ytcoggpedpclkaaa
set_option linter.unusedSimpArgs false
set_option linter.unusedVariables false
open Go.ChangeShapes Go.WideShapes Go.ChangeAt Go.RowKit

theorem Ow.blk {w : World} {v : Value} {l : List Int} (h : Ow w v l) : ∀ k, v.ownBlock = some k → k < w.heap.size := fun k hk => by
  rcases h.1.2 with ⟨hv, _⟩ | ⟨g, cap, cur, hv, _, hh, _⟩
  · rw [hv] at hk; cases hk
  · rw [hv] at hk
    have hk : some g = some k := hk
    injection hk with hk
    rw [← hk]
    exact heap_lt hh
/-- The bytes of a row of the call's own, cell by cell. -/
theorem Ow.cells {w : World} {A : Option Addr} {n c : Nat} {l : List Int} (h : Ow w (.slice A n c) l) (b0 : Nat) (hb : ∀ k, (Value.slice A n c).ownBlock = some k → b0 ≤ k) (hs : b0 ≤ w.heap.size) :
    ∃ g, b0 ≤ g ∧ (0 < n → g < w.heap.size ∧ A = some ⟨g, 0, none⟩ ∧ ∀ i, i < n → w.cell? ⟨g, i, none⟩ = some (.int .u8 (l.getD i 0)) ∧ w.frozen? ⟨g, i, none⟩ = false) ∧ (∀ k, (Value.slice A n c).ownBlock = some k → k = g) ∧ Sl w g (.slice A n c) l := by
  rcases h.1.2 with ⟨hv, h0⟩ | ⟨g, cap, cur, hv, _, hh, hn, hm, hs, ht⟩
  · injection hv with e1 e2 e3
    subst e1 e2 e3
    exact ⟨w.heap.size, hs, fun h => absurd h (Nat.lt_irrefl _), (fun k hk => by cases hk), by rw [List.eq_nil_of_length_eq_zero h0]; exact Sl.nil _ _⟩
  · injection hv with e1 e2 e3
    subst e1 e2
    refine ⟨g, hb g rfl, fun _ => ⟨heap_lt hh, rfl, fun i hi => ⟨?_, frozen_of_row _ _ _ _ _ hh⟩⟩, (fun k hk => ?_), h.sl⟩
    · rw [Nat.mul_one] at ht
      rw [cell_of_row _ _ _ _ _ _ hh]
      have hc : cur[i]? = (bs l)[i]? := by rw [← ht, List.getElem?_take, if_pos hi]; simp
      rw [hc, bs_get, getD_some hi]
      rfl
    · have hk : some g = some k := hk
      injection hk with hk
      exact hk.symm
/-- A row's bytes from a place on. -/
def Cl (W : World) (g : Nat) (A : Option Addr) (k n : Nat) (l : List Int) : Prop := 0 < n → g < W.heap.size ∧ A = some ⟨g, 0, none⟩ ∧ ∀ i, k ≤ i → i < n → W.cell? ⟨g, i, none⟩ = some (.int .u8 (l.getD i 0)) ∧ W.frozen? ⟨g, i, none⟩ = false
theorem Cl.fr {W W' : World} {g : Nat} {A : Option Addr} {k n : Nat} {l : List Int} (h : Cl W g A k n l) {S : Nat → Prop} (hf : Fr S W W') (hs : ¬ S g) : Cl W' g A k n l := fun h0 => by
  obtain ⟨h1, h2, h3⟩ := h h0
  have e := hf.block g h1 hs
  exact ⟨Nat.lt_of_lt_of_le h1 hf.size, h2, fun i a b => ⟨(World.cell?_of_block (w := W) e).trans (h3 i a b).1, (World.frozen?_of_block (w := W) e).trans (h3 i a b).2⟩⟩
theorem Cl.set {W : World} {g : Nat} {A : Option Addr} {k n : Nat} {l : List Int} (h : Cl W g A k n l) (v : Value) : Cl (W.setCell ⟨g, k, none⟩ v) g A (k + 1) n l := fun h0 => by
  obtain ⟨h1, h2, h3⟩ := h h0
  exact ⟨by simpa using h1, h2, fun i a b => ⟨(World.cell?_setCell_other (w := W) (v := v) (a := ⟨g, k, none⟩) (b := ⟨g, i, none⟩) (by intro e; injection e with _ e _; omega)).trans (h3 i (by omega) b).1, by rw [World.frozen?_setCell]; exact (h3 i (by omega) b).2⟩⟩
theorem take_min {l : List Int} {n M : Nat} (h : l.length = n) (hM : M = min n 1000) : (l.take M).length = M := by rw [List.length_take]; omega
set_option maxRecDepth 100000 in
set_option maxHeartbeats 16000000 in
theorem law_pieces_any (k0 : List Int) (A0 : Option Addr) (la ca : Nat) (w : World) (lk0 : k0.length = 32) (bk0 : Bys k0)
    (hR : 0 < la → ∃ (b off : Nat) (D : Nat → List Int), A0 = some ⟨b, off, none⟩ ∧ ∀ i, i < la → ∃ A m c g, RowAt w b off i A m c g (D i)) (hla : la ≤ 140737488355328) :
    Calls Try.prog 4 #[.agg (vs .u8 k0), .slice A0 la ca] w fun e w' => e = .returned (.bool true) ∧ Fr (fun _ => False) w w' := by
  have s23 := Lib.hid (keys_info lk0)
  have HK := Lib.hid (And.intro lk0 bk0)
  have HR := Lib.hid hR
  clear hR lk0 bk0
  go_enter Try.func4, Try.ntmps4
  go_upto_region 1 with (fail)
  have X0 : Hid (Ar (w.alloc (.cells (vs .u8 k0) 23)) w.heap.size 23 .u8 k0) := heap_alloc_new w _
  have F0 : Hid (Fr (fun _ => False) w (w.alloc (.cells (vs .u8 k0) 23))) := (Fr.refl _ _).alloc _
  generalize w.alloc (.cells (vs .u8 k0) 23) = W0 at *
  refine wp_region_inv2 (fun b a w' => ∃ gp go : Nat, Fr (fun _ => False) W0 w' ∧ (b 1 = true → W0.heap.size ≤ gp ∧ PolyAt w' gp k0 []) ∧ (b 3 = true → W0.heap.size ≤ go ∧ PolyAt w' go k0 []) ∧ (b 1 = true → b 3 = true → gp ≠ go) ∧ a = ⟨#[.agg (vs .u8 k0), .slice A0 la ca, .pointer (some ⟨w.heap.size, 0, none⟩), undef, .bool false, if b 4 = true then .pointer (some ⟨gp, 0, none⟩) else undef, if b 5 = true then .pointer (some ⟨go, 0, none⟩) else undef, undef, undef, undef, undef, undef, if b 0 = true then .agg (vs .u8 k0) else undef, if b 1 = true then .pointer (some ⟨gp, 0, none⟩) else undef, if b 2 = true then .agg (vs .u8 k0) else undef, if b 3 = true then .pointer (some ⟨go, 0, none⟩) else undef, undef, undef, undef, undef, undef, undef, undef, undef, undef, undef, undef, undef, undef, undef, undef, undef, undef, undef, undef, undef, undef, undef, undef, undef, undef, undef, undef, undef, undef, undef, undef, undef, undef, undef, undef, undef, undef, undef, undef, undef, undef, undef, undef, undef, undef, undef, undef, undef, undef, undef, undef, undef, undef, undef, undef, undef, undef, undef, undef, undef, undef, undef, undef, undef, undef, undef, undef, undef, undef, undef, undef, undef], []⟩) (by kernel_rfl) (by kernel_rfl) ?start1 ?step1 ?done1
  case start1 => exact ⟨0, 0, ⟨rfl, rfl, rfl, Nat.le_refl _, fun _ _ _ => rfl⟩, fun h => by simp at h, fun h => by simp at h, fun h => by simp at h, by simp⟩
  case step1 =>
    intro i5 o5 b a w1 ho hI hb hr hcl
    obtain ⟨gp, go, hF, h1, h3, hd1_3, rfl⟩ := hI
    match i5, ho with
    | 0, ho =>
      injection ho with ho
      subst ho
      refine wp_quiet_here (.agg (vs .u8 k0)) (quiet_load 23 (.tmp 2) rfl (w.heap.size) rfl 23 _ (0, 0) _ (fun _ h => Calm.at (Calm.at X0.out hF) h) Try.underlying23 rfl s23.out rfl) (fun w2 hw2 => ?_)
      refine ⟨gp, go, hF.trans hw2, ?_, ?_, ?_, ?_⟩
      · intro hx
        have hy := h1 (by simpa [upd] using hx)
        exact ⟨hy.1, hy.2.fr hw2 (fun x => x)⟩
      · intro hx
        have hy := h3 (by simpa [upd] using hx)
        exact ⟨hy.1, hy.2.fr hw2 (fun x => x)⟩
      · exact fun hx hy => hd1_3 (by simpa [upd] using hx) (by simpa [upd] using hy)
      · simp [upd, Act.put]
    | 1, ho =>
      injection ho with ho
      subst ho
      simp [Region.binds] at hr
      have d0 : b 0 = true := by simp only [hr]
      simp only [hr, if_true]
      have n4 : b 4 = false := by
        rcases hbs : b 4 with _ | _
        · rfl
        · rw [chain hcl 4 1 rfl hbs (by simp [Region.binds])] at hb
          cases hb
      refine wp_enter 19 #[.agg (vs .u8 k0)] (by kernel_rfl) ((new_is k0 w1 HK.out.1 HK.out.2).mono ?_)
      rintro e w2 ⟨gN, hgN, rfl, hfact, hfN⟩
      refine ⟨gN, go, hF.trans hfN, ?_, ?_, ?_, ?_⟩
      · exact fun _ => ⟨Nat.le_trans hF.size hgN, hfact⟩
      · intro hx
        have hy := h3 (by simpa [upd] using hx)
        exact ⟨hy.1, hy.2.fr hfN (fun x => x)⟩
      · intro hx hy
        have hz := (h3 (by simpa [upd] using hy)).2.lt
        omega
      · simp [upd, Act.put, hr, n4]
    | 2, ho =>
      injection ho with ho
      subst ho
      refine wp_quiet_here (.agg (vs .u8 k0)) (quiet_load 23 (.tmp 2) rfl (w.heap.size) rfl 23 _ (0, 0) _ (fun _ h => Calm.at (Calm.at X0.out hF) h) Try.underlying23 rfl s23.out rfl) (fun w2 hw2 => ?_)
      refine ⟨gp, go, hF.trans hw2, ?_, ?_, ?_, ?_⟩
      · intro hx
        have hy := h1 (by simpa [upd] using hx)
        exact ⟨hy.1, hy.2.fr hw2 (fun x => x)⟩
      · intro hx
        have hy := h3 (by simpa [upd] using hx)
        exact ⟨hy.1, hy.2.fr hw2 (fun x => x)⟩
      · exact fun hx hy => hd1_3 (by simpa [upd] using hx) (by simpa [upd] using hy)
      · simp [upd, Act.put]
    | 3, ho =>
      injection ho with ho
      subst ho
      simp [Region.binds] at hr
      have d1 : b 1 = true := by simp only [hr]
      have d2 : b 2 = true := by simp only [hr]
      simp only [hr, if_true]
      have n5 : b 5 = false := by
        rcases hbs : b 5 with _ | _
        · rfl
        · rw [chain hcl 5 3 rfl hbs (by simp [Region.binds])] at hb
          cases hb
      refine wp_enter 19 #[.agg (vs .u8 k0)] (by kernel_rfl) ((new_is k0 w1 HK.out.1 HK.out.2).mono ?_)
      rintro e w2 ⟨gN, hgN, rfl, hfact, hfN⟩
      refine ⟨gp, gN, hF.trans hfN, ?_, ?_, ?_, ?_⟩
      · intro hx
        have hy := h1 (by simpa [upd] using hx)
        exact ⟨hy.1, hy.2.fr hfN (fun x => x)⟩
      · exact fun _ => ⟨Nat.le_trans hF.size hgN, hfact⟩
      · intro hx hy
        have hz := (h1 (by simpa [upd] using hx)).2.lt
        omega
      · simp [upd, Act.put, hr, n5]
    | 4, ho =>
      injection ho with ho
      subst ho
      simp [Region.binds] at hr
      have d0 : b 0 = true := by simp only [hr]
      have d1 : b 1 = true := by simp only [hr]
      have d3 : b 3 = true := by simp only [hr]
      simp only [hr, if_true]
      refine wp_quiet_here (.pointer (some ⟨gp, 0, none⟩)) (BigFrame.quiet_assign _ rfl rfl) (fun w2 hw2 => ?_)
      refine ⟨gp, go, hF.trans hw2, ?_, ?_, ?_, ?_⟩
      · intro hx
        have hy := h1 (by simpa [upd] using hx)
        exact ⟨hy.1, hy.2.fr hw2 (fun x => x)⟩
      · intro hx
        have hy := h3 (by simpa [upd] using hx)
        exact ⟨hy.1, hy.2.fr hw2 (fun x => x)⟩
      · exact fun hx hy => hd1_3 (by simpa [upd] using hx) (by simpa [upd] using hy)
      · simp [upd, Act.put, hr]
    | 5, ho =>
      injection ho with ho
      subst ho
      simp [Region.binds] at hr
      have d0 : b 0 = true := by simp only [hr]
      have d1 : b 1 = true := by simp only [hr]
      have d2 : b 2 = true := by simp only [hr]
      have d3 : b 3 = true := by simp only [hr]
      have d4 : b 4 = true := by simp only [hr]
      simp only [hr, if_true]
      refine wp_quiet_here (.pointer (some ⟨go, 0, none⟩)) (BigFrame.quiet_assign _ rfl rfl) (fun w2 hw2 => ?_)
      refine ⟨gp, go, hF.trans hw2, ?_, ?_, ?_, ?_⟩
      · intro hx
        have hy := h1 (by simpa [upd] using hx)
        exact ⟨hy.1, hy.2.fr hw2 (fun x => x)⟩
      · intro hx
        have hy := h3 (by simpa [upd] using hx)
        exact ⟨hy.1, hy.2.fr hw2 (fun x => x)⟩
      · exact fun hx hy => hd1_3 (by simpa [upd] using hx) (by simpa [upd] using hy)
      · simp [upd, Act.put, hr]
    | j + 6, ho => exact absurd ho (by simp)
  intro b a w9 hall hI
  obtain ⟨gp, go, hF, h1, h3, hd1_3, rfl⟩ := hI
  have t0 : b 0 = true := hall 0 (by simp)
  have t1 : b 1 = true := hall 1 (by simp)
  have t2 : b 2 = true := hall 2 (by simp)
  have t3 : b 3 = true := hall 3 (by simp)
  have t4 : b 4 = true := hall 4 (by simp)
  have t5 : b 5 = true := hall 5 (by simp)
  simp only [t0, t1, t2, t3, t4, t5, if_true]
  have Ygp := Lib.hid (h1 t1).1
  have Pgp := Lib.hid (h1 t1).2
  have Ygo := Lib.hid (h3 t3).1
  have Pgo := Lib.hid (h3 t3).2
  have D1_3 := hd1_3 t1 t3
  have F9 : Hid (Fr (fun _ => False) w w9) := F0.out.trans hF
  have G9 := Lib.hid hF
  clear hall hF h1 h3 hd1_3 t0 t1 t2 t3 t4 t5
  have X9 : Hid (Ar w9 w.heap.size 23 .u8 k0) := X0.out.fr G9.out (fun x => x)
  have lp := Pgp.out.lt
  have lo := Pgo.out.lt
  have gx : w.heap.size < gp := Nat.lt_of_lt_of_le X0.out.lt Ygp.out
  have ox : w.heap.size < go := Nat.lt_of_lt_of_le X0.out.lt Ygo.out
  clear X0 F0 G9 Ygp Ygo
  obtain ⟨q0, hq0⟩ : ∃ q, q = w9.heap.size := ⟨_, rfl⟩
  go_wp2
  go_loopw [7, 8, 9, 10, 11] (fun u7 u8 _ _ _ wr => ∃ (i n c : Nat) (A : Option Addr) (L N : List Int), u8 = .int .i64 i ∧ i ≤ 64 ∧ i ≤ la ∧ u7 = .slice A n c ∧ Hid (Ow wr (.slice A n c) L) ∧ Hid (∀ k, (Value.slice A n c).ownBlock = some k → q0 ≤ k) ∧ n ≤ 1000 * i ∧ Hid (PolyAt wr gp k0 L) ∧ Hid (PolyAt wr go k0 N) ∧ Hid (Ar wr w.heap.size 23 .u8 k0) ∧ Hid (Fr (fun _ => False) w wr) ∧ q0 ≤ wr.heap.size)
    (fun _ u8 _ _ _ _ => la - (intOf u8).toNat)
  case atStart => exact ⟨0, 0, 0, none, [], [], rfl, by omega, by omega, rfl, Ow.nil _, (fun k hk => by cases hk), by omega, Pgp, Pgo, X9, F9, by omega⟩
  case round =>
    clear Pgp Pgo X9 F9
    obtain ⟨i, n, c, A, L, N, rfl, h64, hila, rfl, hO, hB, hn, hP, hQ, hX, hF, hqr⟩ := hrel
    rw [← hq0] at lp lo
    clear hq0
    by_cases hil : i < la
    · by_cases hi6 : i < 64
      · obtain ⟨bb, off, D, rfl, hD⟩ := HR.out (by omega)
        obtain ⟨Ap, m, cp, ga, ra⟩ := hD i hil
        have hcapa : m ≤ cp := by
          obtain ⟨_, A', c', e, h3, h4, _⟩ := ra.sl
          injection e with _ e2 e3
          omega
        obtain ⟨M, hM⟩ : ∃ M, M = min m 1000 := ⟨_, rfl⟩
        have hmin : (if (1000 : Int) < (m : Int) then (1000 : Int) else (m : Int)) = (M : Int) := by split <;> omega
        have hM1 : M ≤ 1000 := by omega
        have hMm : M ≤ m := by omega
        obtain ⟨P, hPe⟩ : ∃ P, P = (D i).take M := ⟨_, rfl⟩
        have TA : Hid (Sl w ga (.slice Ap M cp) P) := by show Sl _ _ _ _; rw [hPe]; exact ra.sl.take M (by rw [ra.sl.len]; omega)
        have GA : Hid (P ≠ [] → ga < w.heap.size) := fun h => ra.lt (by intro e; rw [hPe] at h; exact h (by rw [e, List.take_nil]))
        have lP := Lib.hid TA.out.len
        have ca0 := Lib.hid (ra.keep hF.out).c0
        have lbb : bb < wr.heap.size := World.block_lt_of_cell? _ _ ca0.out
        have j1 : ((i : Int)).toNat = i := by omega
        have j2 : 0 ≤ (i : Int) := by omega
        have j3 : (i : Int) < (la : Int) := by omega
        have j4 : (i : Int) < 64 := by omega
        have j5 : ((M : Int)).toNat = M := by omega
        have j6 : 0 ≤ (M : Int) := by omega
        have j7 : (M : Int) ≤ (m : Int) := by omega
        have j8 : (M : Int) ≤ (cp : Int) := by omega
        clear ra hM hPe hD
        go_upto_region 6 with (fail)
        refine wp_region_quiet (C := Calm wr) (by kernel_rfl) (by kernel_rfl) (Calm.start _ _ (Fr.refl _ _)) ?_
        refine BigFrame.wpQuiet_want rfl fun K hK => ?_
        try simp only [Act.put, List.setIfInBounds_toArray, List.set_cons_succ, List.set_cons_zero]
        go_big_quiet_op
        refine hK _ ?_
        refine BigFrame.wpQuiet_want rfl fun K hK => ?_
        try simp only [Act.put, List.setIfInBounds_toArray, List.set_cons_succ, List.set_cons_zero]
        go_big_quiet_op
        refine hK _ ?_
        refine BigFrame.wpQuiet_want rfl fun K hK => ?_
        try simp only [Act.put, List.setIfInBounds_toArray, List.set_cons_succ, List.set_cons_zero]
        go_big_quiet_op
        first
          | refine ⟨_, fun _ _ => rfl, hK _ ?_⟩
          | refine hK _ ?_
        refine BigFrame.wpQuiet_want rfl fun K hK => quiet_sl (.tmp 28) rfl bb (off + i) rfl Ap m cp (fun _ h => (World.cell?_of_block (w := wr) (Fr.block h bb lbb (fun x => x))).trans ca0.out) (hK _ ?_)
        refine BigFrame.wpQuiet_want rfl fun K hK => ?_
        try simp only [Act.put, List.setIfInBounds_toArray, List.set_cons_succ, List.set_cons_zero]
        go_big_quiet_op
        refine hK _ ?_
        refine BigFrame.wpQuiet_want rfl fun K hK => ?_
        try simp only [Act.put, List.setIfInBounds_toArray, List.set_cons_succ, List.set_cons_zero]
        go_big_quiet_op
        refine hK _ ?_
        refine BigFrame.wpQuiet_want rfl fun K hK => ?_
        try simp only [Act.put, List.setIfInBounds_toArray, List.set_cons_succ, List.set_cons_zero]
        go_big_quiet_op
        first
          | refine ⟨_, fun _ _ => rfl, hK _ ?_⟩
          | refine hK _ ?_
        refine BigFrame.wpQuiet_want rfl fun K hK => quiet_sl (.tmp 32) rfl bb (off + i) rfl Ap m cp (fun _ h => (World.cell?_of_block (w := wr) (Fr.block h bb lbb (fun x => x))).trans ca0.out) (hK _ ?_)
        refine BigFrame.wpQuiet_want rfl fun K hK => ?_
        try simp only [Act.put, List.setIfInBounds_toArray, List.set_cons_succ, List.set_cons_zero]
        go_big_quiet_op
        first
          | refine ⟨_, fun _ _ => rfl, hK _ ?_⟩
          | refine hK _ ?_
        refine BigFrame.wpQuiet_want rfl fun K hK => ?_
        try simp only [Act.put, List.setIfInBounds_toArray, List.set_cons_succ, List.set_cons_zero]
        go_big_quiet_op
        first
          | refine ⟨_, fun _ _ => rfl, hK _ ?_⟩
          | refine hK _ ?_
        refine BigFrame.wpQuiet_want rfl fun K hK => ?_
        try simp only [Act.put, List.setIfInBounds_toArray, List.set_cons_succ, List.set_cons_zero]
        go_big_quiet_op
        first
          | refine ⟨_, fun _ _ => rfl, hK _ ?_⟩
          | refine hK _ ?_
        refine BigFrame.wpQuiet_want rfl fun K hK => ?_
        try simp only [Act.put, List.setIfInBounds_toArray, List.set_cons_succ, List.set_cons_zero]
        go_big_quiet_op
        refine hK _ ?_
        refine wpQuiet_nil ?_
        intro w1 hw1
        have F1 : Hid (Fr (fun _ => False) w w1) := hF.out.trans hw1
        have G1 := Lib.hid hw1
        clear hw1
        try simp only [Act.put, List.setIfInBounds_toArray, List.set_cons_succ, List.set_cons_zero]
        have O1 := Lib.hid (hO.out.keep G1.out (fun _ _ x => x))
        have P1 := Lib.hid (hP.out.fr G1.out (fun x => x))
        have Q1 := Lib.hid (hQ.out.fr G1.out (fun x => x))
        have X1 := Lib.hid (Ar.fr hX.out G1.out (fun x => x))
        have HBk := Lib.hid hO.out.blk
        have z1 := Nat.le_trans hqr G1.out.size
        clear hO hP hQ hX
        go_upto_region 8 with (go_at_call 14; refine (copyBytes_any ga Ap M cp P w1 (TA.out.fr F1.out (fun _ x => x)) (by omega)).mono ?_; rintro e w2 ⟨A2, c2, rfl, r1, r2, r3⟩)
        obtain ⟨gi, hgi, hci, hgk, hSi⟩ := r1.cells wr.heap.size (fun k hk => Nat.le_trans G1.out.size (r2 k hk)) (Nat.le_trans G1.out.size r3.size)
        have C2 : Hid (Cl w2 gi A2 0 M P) := fun h0 => ⟨(hci h0).1, (hci h0).2.1, fun i _ b => (hci h0).2.2 i b⟩
        have S2 := Lib.hid hSi
        have L2 : Hid (P ≠ [] → gi < w2.heap.size) := fun h => (hci (by rw [← lP.out]; exact List.length_pos_iff.2 h)).1
        have O2 := Lib.hid (O1.out.keep r3 (fun _ _ x => x))
        have P2 := Lib.hid (P1.out.fr r3 (fun x => x))
        have Q2 := Lib.hid (Q1.out.fr r3 (fun x => x))
        have X2 := Lib.hid (Ar.fr X1.out r3 (fun x => x))
        have F2 : Hid (Fr (fun _ => False) w w2) := F1.out.trans r3
        have z2 := Nat.le_trans z1 r3.size
        clear O1 P1 Q1 X1 F1 G1 r1 r2 r3 hci hgk hSi z1
        have W2 := write_is k0 L gp gi A2 M c2 P w2 HK.out.1 HK.out.2 P2.out S2.out (by omega) L2.out
        go_upto_region 9 with (go_at_call 20; refine W2.mono ?_; rintro e w3 ⟨rfl, hp3, hf3⟩)
        have P3 := Lib.hid hp3
        have O3 := Lib.hid (O2.out.keep hf3 (fun k hk e => by have := hB.out k hk; omega))
        have Q3 := Lib.hid (Q2.out.fr hf3 (fun e => D1_3 e.symm))
        have X3 := Lib.hid (Ar.fr X2.out hf3 (show ¬ _ = gp by omega))
        have C3 := Lib.hid (C2.out.fr hf3 (show ¬ gi = gp by omega))
        have F3 : Hid (Fr (fun _ => False) w w3) := F2.out.trans' hf3 (fun i hi e => absurd e (by omega))
        have z3 := Nat.le_trans z2 hf3.size
        clear P2 O2 Q2 X2 C2 F2 W2 S2 L2 hp3 hf3 z2
        obtain ⟨x, hx⟩ : ∃ x, x = IntKind.u8.wrap (i : Int) := ⟨_, rfl⟩
        have hxb : Bys [x] := by
          intro b hb
          have : b = x := by simpa using hb
          rw [this, hx, IntKind.wrap_u8]
          omega
        have HX : IntKind.u8.wrap (i : Int) = x := hx.symm
        have SX : Hid (Sl (w3.alloc (.cells #[.int .u8 x] 5)) w3.heap.size (.slice (some ⟨w3.heap.size, 0, none⟩) 1 1) [x]) := Sl.block hxb (heap_alloc_new w3 _) (fun j _ => by simp [bs]) (by simp) (by decide)
        have lo3 := Q3.out.lt
        have W3 := write_is k0 N go w3.heap.size (some ⟨w3.heap.size, 0, none⟩) 1 1 [x] (w3.alloc (.cells #[.int .u8 x] 5)) HK.out.1 HK.out.2 (Q3.out.fr (S := fun _ => False) ((Fr.refl _ _).alloc _) (fun x => x)) SX.out (by omega) (fun _ => by simp)
        clear hx hxb
        go_upto_region 10 with (go_at_call 20; refine W3.mono ?_; rintro e w4 ⟨rfl, hp4, hf4⟩)
        have Q4 := Lib.hid hp4
        have hf5 : Fr (fun i => i = go) w3 w4 := ((Fr.refl _ _).alloc _).trans hf4
        have O4 := Lib.hid (O3.out.keep hf5 (fun k hk e => by have := hB.out k hk; omega))
        have P4 := Lib.hid (P3.out.fr hf5 D1_3)
        have X4 := Lib.hid (Ar.fr X3.out hf5 (show ¬ _ = go by omega))
        have C4 := Lib.hid (C3.out.fr hf5 (show ¬ gi = go by omega))
        have F4 : Hid (Fr (fun _ => False) w w4) := F3.out.trans' hf5 (fun i hi e => absurd e (by omega))
        have z4 := Nat.le_trans z3 hf5.size
        clear P3 O3 Q3 X3 C3 F3 W3 SX hp4 hf4 hf5 HX z3
        go_wp2
        obtain ⟨wo, rfl⟩ : ∃ wo : World, wo = wr := ⟨_, rfl⟩
        have hgi0 : w.heap.size ≤ gi := by omega
        go_loopw [4, 11] (fun _ u11 wr => ∃ k : Nat, u11 = .int .i64 k ∧ k ≤ M ∧ Hid (Cl wr gi A2 k M P) ∧ Hid (Fr (fun j => j = gi) w4 wr)) (fun _ u11 _ => M - (intOf u11).toNat)
        case atStart => exact ⟨0, rfl, by omega, C4, Fr.refl _ _⟩
        case round =>
          clear C4
          obtain ⟨k, rfl, hkM, hC, hV⟩ := hrel
          by_cases hk : k < M
          · obtain ⟨hgv, rfl, hcl⟩ := hC.out (by omega)
            obtain ⟨o, rfl, hcp⟩ := TA.out.at_ (by omega)
            obtain ⟨y, hy⟩ : ∃ y, y = P.getD k 0 := ⟨_, rfl⟩
            have c1 := (hcl k (Nat.le_refl _) hk).1
            have f1 := (hcl k (Nat.le_refl _) hk).2
            have c2' := hcp k hk
            rw [← hy] at c1 c2'
            have gaw : ga < w.heap.size := World.block_lt_of_cell? _ _ c2'
            have FV : Hid (Fr (fun _ => False) w wr) := F4.out.trans' hV.out (fun i hi e => absurd e (by omega))
            have c3 : wr.cell? ⟨ga, o + k, none⟩ = some (.int .u8 y) := (World.cell?_of_block (w := w) (FV.out.block ga gaw (fun x => x))).trans c2'
            have lgv : ga < wr.heap.size := Nat.lt_of_lt_of_le gaw FV.out.size
            have HC1 := Lib.hid c1
            have HC3 := Lib.hid c3
            have HF1 := Lib.hid f1
            have a1 : ((k : Int)).toNat = k := by omega
            have a2 : 0 ≤ (k : Int) := by omega
            have a3 : (k : Int) < (M : Int) := by omega
            clear c1 c2' c3 f1 hcl hcp hy
            go_upto_region 13 with (fail)
            refine wp_region_quiet (C := Calm wr) (by kernel_rfl) (by kernel_rfl) (Calm.start _ _ (Fr.refl _ _)) ?_
            refine BigFrame.wpQuiet_want rfl fun K hK => ?_
            try simp only [Act.put, List.setIfInBounds_toArray, List.set_cons_succ, List.set_cons_zero]
            go_big_quiet_op
            refine hK _ ?_
            refine BigFrame.wpQuiet_want rfl fun K hK => ?_
            try simp only [Act.put, List.setIfInBounds_toArray, List.set_cons_succ, List.set_cons_zero]
            go_big_quiet_op
            refine hK _ ?_
            refine BigFrame.wpQuiet_want rfl fun K hK => ?_
            try simp only [Act.put, List.setIfInBounds_toArray, List.set_cons_succ, List.set_cons_zero]
            go_big_quiet_op
            first
              | refine ⟨_, fun _ _ => rfl, hK _ ?_⟩
              | refine hK _ ?_
            refine BigFrame.wpQuiet_want rfl fun K hK => quiet_one 5 .u8 (.tmp 55) rfl (gi) (k) rfl (y) Try.underlying5 (fun _ h => (World.cell?_of_block (w := wr) (Fr.block h gi hgv (fun x => x))).trans HC1.out) (hK _ ?_)
            refine BigFrame.wpQuiet_want rfl fun K hK => ?_
            try simp only [Act.put, List.setIfInBounds_toArray, List.set_cons_succ, List.set_cons_zero]
            go_big_quiet_op
            refine hK _ ?_
            refine BigFrame.wpQuiet_want rfl fun K hK => ?_
            try simp only [Act.put, List.setIfInBounds_toArray, List.set_cons_succ, List.set_cons_zero]
            go_big_quiet_op
            refine hK _ ?_
            refine BigFrame.wpQuiet_want rfl fun K hK => ?_
            try simp only [Act.put, List.setIfInBounds_toArray, List.set_cons_succ, List.set_cons_zero]
            go_big_quiet_op
            first
              | refine ⟨_, fun _ _ => rfl, hK _ ?_⟩
              | refine hK _ ?_
            refine BigFrame.wpQuiet_want rfl fun K hK => quiet_one 5 .u8 (.tmp 59) rfl (ga) (o + k) rfl (y) Try.underlying5 (fun _ h => (World.cell?_of_block (w := wr) (Fr.block h ga lgv (fun x => x))).trans HC3.out) (hK _ ?_)
            refine BigFrame.wpQuiet_want rfl fun K hK => ?_
            try simp only [Act.put, List.setIfInBounds_toArray, List.set_cons_succ, List.set_cons_zero]
            go_big_quiet_op
            first
              | refine ⟨_, fun _ _ => rfl, hK _ ?_⟩
              | refine hK _ ?_
            refine wpQuiet_nil ?_
            intro w6 hw6
            have F6 : Hid (Fr (fun _ => False) w w6) := FV.out.trans hw6
            have G6 := Lib.hid hw6
            clear hw6
            try simp only [Act.put, List.setIfInBounds_toArray, List.set_cons_succ, List.set_cons_zero]
            have c6 : w6.cell? ⟨gi, k, none⟩ = some (.int .u8 y) := (World.cell?_of_block (w := wr) (Fr.block G6.out gi hgv (fun x => x))).trans HC1.out
            have f6 : w6.frozen? ⟨gi, k, none⟩ = false := (World.frozen?_of_block (w := wr) (Fr.block G6.out gi hgv (fun x => x))).trans HF1.out
            have C6 := Lib.hid (hC.out.fr G6.out (fun x => x))
            have V6 : Hid (Fr (fun j => j = gi) w4 w6) := hV.out.trans (Fr.any G6.out)
            clear HC1 HC3 HF1 hC hV FV
            go_wp2
            go_roundw
            case rel => exact ⟨k + 1, by go_num, by omega, C6.out.set _, V6.out.setCell _ (.inl rfl)⟩
            case measure => simp [intOf]; omega
          · have hb1 := hB.out
            have O5 := Lib.hid (O4.out.keep hV.out (fun kk hkk e => by have := HBk.out kk hkk; omega))
            have P5 := Lib.hid (P4.out.fr hV.out (show ¬ gp = gi by omega))
            have Q5 := Lib.hid (Q4.out.fr hV.out (show ¬ go = gi by omega))
            have X5 := Lib.hid (Ar.fr X4.out hV.out (show ¬ _ = gi by omega))
            have F5 : Hid (Fr (fun _ => False) w wr) := F4.out.trans' hV.out (fun i hi e => absurd e (by omega))
            have lL := Lib.hid O5.out.sl.len
            have z5 := Nat.le_trans z4 hV.out.size
            clear P4 O4 Q4 X4 F4 hV hC hb1
            go_upto_region 17 with (at_builtin; refine wpList_own rfl (.tmp 70) (.tmp 71) rfl O5.out rfl rfl (TA.out.fr F5.out (fun _ x => x)) (by rw [lL.out]; omega) ?_; intro A7 N7 c7 w7 hap hN7; have HA := Lib.hid hap; have HN := Lib.hid hN7; clear hap hN7)
            have hN7 : N7 = n + M := by rw [HN.out, List.length_append, lL.out, lP.out]
            subst hN7
            have O7 := Lib.hid HA.out.own
            have hG : Fr (fun j => q0 ≤ j) wr w7 := (Fr.refl _ _).grown HA.out.grown (fun k hk => .inl (hB.out k hk))
            have B7 : Hid (∀ k, (Value.slice A7 (n + M) c7).ownBlock = some k → q0 ≤ k) := fun k hk => by
              rcases HA.out.at_ with e | e
              · rw [e] at hk; exact hB.out k hk
              · rw [e] at hk
                injection hk with hk
                have := hG.size
                omega
            have P7 := Lib.hid (P5.out.fr hG (show ¬ q0 ≤ gp by omega))
            have Q7 := Lib.hid (Q5.out.fr hG (show ¬ q0 ≤ go by omega))
            have X7 := Lib.hid (Ar.fr X5.out hG (show ¬ q0 ≤ _ by omega))
            have F7 : Hid (Fr (fun _ => False) w w7) := F5.out.trans' hG (fun i hi e => absurd e (by omega))
            have hq7 : q0 ≤ w7.heap.size := by have := hG.size; omega
            clear HA HN hG O5 P5 Q5 X5 F5
            obtain ⟨t, ht⟩ : ∃ t, t = tag k0 (L ++ P) := ⟨_, rfl⟩
            have lt : t.length = 16 := by rw [ht]; exact tag_length _ _
            have HE : ∀ W, (Op.equalIn 10000 26 (.agg (vs .u8 t)) (.agg (vs .u8 t))).run Try.prog W = .ok true W := fun W => (eq26 t t lt lt W).trans (by rw [decide_eq_true rfl])
            have C21 : ∀ V, Calm w7 V → Calls Try.prog 21 #[.pointer (some ⟨gp, 0, none⟩)] V fun e w' => e = .returned (.agg (vs .u8 t)) ∧ Calm w7 w' := fun V h => by
              rw [ht]
              exact (sum_is k0 (L ++ P) gp V HK.out.1 HK.out.2 (P7.out.fr h (fun x => x))).mono fun _ _ ⟨he, hf⟩ => ⟨he, Fr.trans h hf⟩
            have C16 : ∀ V, Calm w7 V → Calls Try.prog 16 #[.agg (vs .u8 k0), .slice A7 (n + M) c7] V fun e w' => e = .returned (.agg (vs .u8 t)) ∧ Calm w7 w' := fun V h => by
              rw [ht]
              have hs := O7.out.sl.fr h (fun _ x => x)
              exact (rtag_is k0 _ A7 (n + M) c7 (L ++ P) V HK.out.1 HK.out.2 hs (fun e => hs.lt e) (by omega)).mono fun _ _ ⟨he, hf⟩ => ⟨he, Fr.trans h hf⟩
            have lt2 := Lib.hid lt
            clear ht lt
            refine wp_region_quiet (C := Calm w7) (by kernel_rfl) (by kernel_rfl) (Calm.start _ _ (Fr.refl _ _)) ?_
            refine BigFrame.wpQuiet_want rfl fun K hK => ?_
            try simp only [Act.put, List.setIfInBounds_toArray, List.set_cons_succ, List.set_cons_zero]
            go_big_quiet_op
            refine hK _ ?_
            refine BigFrame.wpQuiet_want rfl fun K hK => ?_
            try simp only [Act.put, List.setIfInBounds_toArray, List.set_cons_succ, List.set_cons_zero]
            go_big_quiet_op
            refine ⟨_, C21, hK _ ?_⟩
            refine BigFrame.wpQuiet_want rfl fun K hK => quiet_load 23 (.tmp 2) rfl (w.heap.size) rfl 23 _ (0, 0) _ (fun _ h => Calm.at X7.out h) Try.underlying23 rfl s23.out (hK _ ?_)
            refine BigFrame.wpQuiet_want rfl fun K hK => ?_
            try simp only [Act.put, List.setIfInBounds_toArray, List.set_cons_succ, List.set_cons_zero]
            go_big_quiet_op
            refine hK _ ?_
            refine BigFrame.wpQuiet_want rfl fun K hK => ?_
            try simp only [Act.put, List.setIfInBounds_toArray, List.set_cons_succ, List.set_cons_zero]
            go_big_quiet_op
            refine ⟨_, C16, hK _ ?_⟩
            refine BigFrame.wpQuiet_want rfl fun K hK => ?_
            try simp only [Act.put, List.setIfInBounds_toArray, List.set_cons_succ, List.set_cons_zero]
            go_big_quiet_op
            first
              | refine ⟨_, fun _ _ => rfl, hK _ ?_⟩
              | refine hK _ ?_
            refine wpQuiet_nil ?_
            intro w8 hw8
            have F8 : Hid (Fr (fun _ => False) w w8) := F7.out.trans hw8
            have G8 := Lib.hid hw8
            clear hw8
            try simp only [Act.put, List.setIfInBounds_toArray, List.set_cons_succ, List.set_cons_zero]
            have O8 := Lib.hid (O7.out.keep G8.out (fun _ _ x => x))
            have P8 := Lib.hid (P7.out.fr G8.out (fun x => x))
            have Q8 := Lib.hid (Q7.out.fr G8.out (fun x => x))
            have X8 := Lib.hid (Ar.fr X7.out G8.out (fun x => x))
            have hq8 : q0 ≤ w8.heap.size := Nat.le_trans hq7 G8.out.size
            clear O7 P7 Q7 X7 G8 F7
            go_wp2
            go_roundw
            case rel => exact ⟨i + 1, n + M, c7, A7, L ++ P, N ++ [x], by go_num, by omega, by omega, rfl, O8, B7, by omega, P8, Q8, X8, F8, hq8⟩
            case measure => simp [intOf]; omega
      · have hi4 : i = 64 := by omega
        have j3 : (i : Int) < (la : Int) := by omega
        have j4 : ¬ ((i : Int) < 64) := by omega
        clear HR hB
        have lt : (tag k0 L).length = 16 := tag_length _ _
        obtain ⟨t, ht⟩ : ∃ t, t = tag k0 L := ⟨_, rfl⟩
        rw [← ht] at lt
        have HE : ∀ W, (Op.equalIn 10000 26 (.agg (vs .u8 t)) (.agg (vs .u8 t))).run Try.prog W = .ok true W := fun W => (eq26 t t lt lt W).trans (by rw [decide_eq_true rfl])
        have C21 : ∀ V, Calm wr V → Calls Try.prog 21 #[.pointer (some ⟨gp, 0, none⟩)] V fun e w' => e = .returned (.agg (vs .u8 t)) ∧ Calm wr w' := fun V h => by
          rw [ht]
          exact (sum_is k0 L gp V HK.out.1 HK.out.2 (hP.out.fr h (fun x => x))).mono fun _ _ ⟨he, hf⟩ => ⟨he, Fr.trans h hf⟩
        have C16 : ∀ V, Calm wr V → Calls Try.prog 16 #[.agg (vs .u8 k0), .slice A n c] V fun e w' => e = .returned (.agg (vs .u8 t)) ∧ Calm wr w' := fun V h => by
          rw [ht]
          have hs := hO.out.sl.fr h (fun _ x => x)
          exact (rtag_is k0 _ A n c L V HK.out.1 HK.out.2 hs (fun e => hs.lt e) (by omega)).mono fun _ _ ⟨he, hf⟩ => ⟨he, Fr.trans h hf⟩
        clear ht lt
        go_upto_region 19 with (fail)
        refine wp_region_quiet (C := Calm wr) (by kernel_rfl) (by kernel_rfl) (Calm.start _ _ (Fr.refl _ _)) ?_
        refine BigFrame.wpQuiet_want rfl fun K hK => ?_
        try simp only [Act.put, List.setIfInBounds_toArray, List.set_cons_succ, List.set_cons_zero]
        go_big_quiet_op
        refine hK _ ?_
        refine BigFrame.wpQuiet_want rfl fun K hK => ?_
        try simp only [Act.put, List.setIfInBounds_toArray, List.set_cons_succ, List.set_cons_zero]
        go_big_quiet_op
        refine ⟨_, C21, hK _ ?_⟩
        refine BigFrame.wpQuiet_want rfl fun K hK => quiet_load 23 (.tmp 2) rfl (w.heap.size) rfl 23 _ (0, 0) _ (fun _ h => Calm.at hX.out h) Try.underlying23 rfl s23.out (hK _ ?_)
        refine BigFrame.wpQuiet_want rfl fun K hK => ?_
        try simp only [Act.put, List.setIfInBounds_toArray, List.set_cons_succ, List.set_cons_zero]
        go_big_quiet_op
        refine hK _ ?_
        refine BigFrame.wpQuiet_want rfl fun K hK => ?_
        try simp only [Act.put, List.setIfInBounds_toArray, List.set_cons_succ, List.set_cons_zero]
        go_big_quiet_op
        refine ⟨_, C16, hK _ ?_⟩
        refine BigFrame.wpQuiet_want rfl fun K hK => ?_
        try simp only [Act.put, List.setIfInBounds_toArray, List.set_cons_succ, List.set_cons_zero]
        go_big_quiet_op
        first
          | refine ⟨_, fun _ _ => rfl, hK _ ?_⟩
          | refine hK _ ?_
        refine BigFrame.wpQuiet_want rfl fun K hK => ?_
        try simp only [Act.put, List.setIfInBounds_toArray, List.set_cons_succ, List.set_cons_zero]
        go_big_quiet_op
        refine hK _ ?_
        refine BigFrame.wpQuiet_want rfl fun K hK => ?_
        try simp only [Act.put, List.setIfInBounds_toArray, List.set_cons_succ, List.set_cons_zero]
        go_big_quiet_op
        refine ⟨_, Calm.calls works_is, hK _ ?_⟩
        refine BigFrame.wpQuiet_want rfl fun K hK => ?_
        try simp only [Act.put, List.setIfInBounds_toArray, List.set_cons_succ, List.set_cons_zero]
        go_big_quiet_op
        first
          | refine ⟨_, fun _ _ => rfl, hK _ ?_⟩
          | refine hK _ ?_
        refine BigFrame.wpQuiet_want rfl fun K hK => ?_
        try simp only [Act.put, List.setIfInBounds_toArray, List.set_cons_succ, List.set_cons_zero]
        go_big_quiet_op
        refine hK _ ?_
        refine wpQuiet_nil ?_
        intro w8 hw8
        have F8 : Hid (Fr (fun _ => False) w w8) := hF.out.trans hw8
        have G8 := Lib.hid hw8
        clear hw8
        try simp only [Act.put, List.setIfInBounds_toArray, List.set_cons_succ, List.set_cons_zero]
        go_wp2
        go_ret
        exact ⟨rfl, F8.out⟩
    · have j3 : ¬ ((i : Int) < (la : Int)) := by omega
      clear HR hB
      have lt : (tag k0 L).length = 16 := tag_length _ _
      obtain ⟨t, ht⟩ : ∃ t, t = tag k0 L := ⟨_, rfl⟩
      rw [← ht] at lt
      have HE : ∀ W, (Op.equalIn 10000 26 (.agg (vs .u8 t)) (.agg (vs .u8 t))).run Try.prog W = .ok true W := fun W => (eq26 t t lt lt W).trans (by rw [decide_eq_true rfl])
      have C21 : ∀ V, Calm wr V → Calls Try.prog 21 #[.pointer (some ⟨gp, 0, none⟩)] V fun e w' => e = .returned (.agg (vs .u8 t)) ∧ Calm wr w' := fun V h => by
        rw [ht]
        exact (sum_is k0 L gp V HK.out.1 HK.out.2 (hP.out.fr h (fun x => x))).mono fun _ _ ⟨he, hf⟩ => ⟨he, Fr.trans h hf⟩
      have C16 : ∀ V, Calm wr V → Calls Try.prog 16 #[.agg (vs .u8 k0), .slice A n c] V fun e w' => e = .returned (.agg (vs .u8 t)) ∧ Calm wr w' := fun V h => by
        rw [ht]
        have hs := hO.out.sl.fr h (fun _ x => x)
        exact (rtag_is k0 _ A n c L V HK.out.1 HK.out.2 hs (fun e => hs.lt e) (by omega)).mono fun _ _ ⟨he, hf⟩ => ⟨he, Fr.trans h hf⟩
      clear ht lt
      go_upto_region 19 with (fail)
      refine wp_region_quiet (C := Calm wr) (by kernel_rfl) (by kernel_rfl) (Calm.start _ _ (Fr.refl _ _)) ?_
      refine BigFrame.wpQuiet_want rfl fun K hK => ?_
      try simp only [Act.put, List.setIfInBounds_toArray, List.set_cons_succ, List.set_cons_zero]
      go_big_quiet_op
      refine hK _ ?_
      refine BigFrame.wpQuiet_want rfl fun K hK => ?_
      try simp only [Act.put, List.setIfInBounds_toArray, List.set_cons_succ, List.set_cons_zero]
      go_big_quiet_op
      refine ⟨_, C21, hK _ ?_⟩
      refine BigFrame.wpQuiet_want rfl fun K hK => quiet_load 23 (.tmp 2) rfl (w.heap.size) rfl 23 _ (0, 0) _ (fun _ h => Calm.at hX.out h) Try.underlying23 rfl s23.out (hK _ ?_)
      refine BigFrame.wpQuiet_want rfl fun K hK => ?_
      try simp only [Act.put, List.setIfInBounds_toArray, List.set_cons_succ, List.set_cons_zero]
      go_big_quiet_op
      refine hK _ ?_
      refine BigFrame.wpQuiet_want rfl fun K hK => ?_
      try simp only [Act.put, List.setIfInBounds_toArray, List.set_cons_succ, List.set_cons_zero]
      go_big_quiet_op
      refine ⟨_, C16, hK _ ?_⟩
      refine BigFrame.wpQuiet_want rfl fun K hK => ?_
      try simp only [Act.put, List.setIfInBounds_toArray, List.set_cons_succ, List.set_cons_zero]
      go_big_quiet_op
      first
        | refine ⟨_, fun _ _ => rfl, hK _ ?_⟩
        | refine hK _ ?_
      refine BigFrame.wpQuiet_want rfl fun K hK => ?_
      try simp only [Act.put, List.setIfInBounds_toArray, List.set_cons_succ, List.set_cons_zero]
      go_big_quiet_op
      refine hK _ ?_
      refine BigFrame.wpQuiet_want rfl fun K hK => ?_
      try simp only [Act.put, List.setIfInBounds_toArray, List.set_cons_succ, List.set_cons_zero]
      go_big_quiet_op
      refine ⟨_, Calm.calls works_is, hK _ ?_⟩
      refine BigFrame.wpQuiet_want rfl fun K hK => ?_
      try simp only [Act.put, List.setIfInBounds_toArray, List.set_cons_succ, List.set_cons_zero]
      go_big_quiet_op
      first
        | refine ⟨_, fun _ _ => rfl, hK _ ?_⟩
        | refine hK _ ?_
      refine BigFrame.wpQuiet_want rfl fun K hK => ?_
      try simp only [Act.put, List.setIfInBounds_toArray, List.set_cons_succ, List.set_cons_zero]
      go_big_quiet_op
      refine hK _ ?_
      refine wpQuiet_nil ?_
      intro w8 hw8
      have F8 : Hid (Fr (fun _ => False) w w8) := hF.out.trans hw8
      have G8 := Lib.hid hw8
      clear hw8
      try simp only [Act.put, List.setIfInBounds_toArray, List.set_cons_succ, List.set_cons_zero]
      go_wp2
      go_ret
      exact ⟨rfl, F8.out⟩

set_option maxRecDepth 100000 in
theorem law_pieces_lifted (os : Os) (started : os.Started) (H : Type) (enc : TypeId × Value → H) :
    ReturnsInHanded {} Try.checked os 4 .any (Rows.polyPiecesSpec.pre6 enc Try.prog Try.f4 Rows.polyPiecesRow.domain false) (Rows.polyPiecesSpec.post enc Try.prog Try.f4 false true false false) := by
  refine returnsInHanded_of_change_sized (C := Try.checked) own started (by kernel_rfl) Try.func4
    (ChangeSpec.witness6 (enc := enc) (C := Try.checked) false ⟨#[], #[.agg (vs .u8 (List.replicate 32 0)), .slice none 0 0], []⟩ 8 (by kernel_rfl) (by kernel_rfl) (by kernel_rfl) (by kernel_rfl)) ?_
  intro W base args ds gs before hval0 hW hcnd hsz0 _
  have hsz : (DataW.weightsEach Try.prog (Try.f4.params.toList ++ Rows.polyPiecesSpec.plain.varTypes Try.prog) (ds ++ gs)).all (· ≤ reachBytes) = true := hsz0
  clear hsz0
  have hval : ∀ (j : Nat) t v, Try.f4.params[j]? = some t → args[j]? = some v → Value.okWide Try.prog W .any base t v := hval0
  have hW' := hW
  obtain ⟨p, q, hA0, hV, rfl, hfz, hnd⟩ := hW
  have hA : DataW.TrodAll enc Try.prog W 0 (fun _ => true) true Try.f4.params.toList args.toList ds p := hA0
  rw [Try.params4] at hA hval hsz
  obtain ⟨v0, vs0, d0, ds0, p0, q0, hargs, rfl, rfl, h0, r0⟩ := trodAll_cons hA
  obtain ⟨v1, vs1, d1, ds1, p1, q1, rfl, rfl, rfl, h1, r1⟩ := trodAll_cons r0
  obtain ⟨rfl, rfl, rfl⟩ := trodAll_nil r1
  obtain rfl : args = #[v0, v1] := by cases args; simp_all
  obtain ⟨rfl, rfl⟩ := trodVars_none hV
  have hlt1 : ∀ x ∈ p1, x.block < W.heap.size := fun x hx => hW'.lt x (by simp [hx])
  obtain ⟨k0, rfl, lk0, bk0⟩ := open_key (hval 0 23 v0 rfl rfl) h0
  obtain ⟨A1, m1, s1, rfl, z1, hR1⟩ := open_rows (hval 1 31 v1 rfl rfl) h1 hlt1
  have hby : Try.prog.bytesOf 24 = 24 := by kernel_rfl
  have hn1 : m1 ≤ 140737488355328 := by
    rcases z1 with e | ⟨el, sp, rfl, hle⟩
    · omega
    · have := sized_slice hsz (j := 1) (t := 31) (e := 24) rfl rfl Try.underlying31
      rw [hby] at this
      simp only [reachBytes] at this
      omega
  clear hA0 hval0
  refine (law_pieces_any k0 A1 m1 s1 W lk0 bk0 hR1 hn1).mono fun e W' ⟨he, hg⟩ => ?_
  subst he
  exact ⟨_, rfl, post_true rfl hW' (by kernel_rfl) rfl rfl hg⟩

theorem polyPieces_holds : Rows.PolyPiecesSaid :=
  OpenClaim.holds_of_wide 4 Try.f4 rfl rfl rfl rfl rfl rfl rfl ⟨rfl, rfl, rfl, rfl, rfl⟩ rfl rfl rfl rfl rfl (by kernel_rfl) Try.func4 (by kernel_rfl)
    (of_decide_eq_true (by kernel_rfl)) (by unfold Func.isWrapper; first | (rw [if_pos (by decide +kernel)]; kernel_rfl) | (rw [if_neg (by decide +kernel)]; exact ⟨rfl, rfl⟩))
    (fun os started H enc _ => law_pieces_lifted os started H enc)
#print axioms polyPieces_holds
end Go.Proofs.Ytcoggpedpclkaaa
