/- curve's ladder. Conditions: 32 bytes, an element below p. -/
import Derived.Test.YtbkbodcncjhcmaaCBits
namespace Go.Proofs.Ytbkbodcncjhcmaa
set_option linter.unusedSimpArgs false
set_option linter.unusedVariables false
open Go.RowKit

/-- Both points of a ladder. -/
structure St where
  a : Int
  b : Int
  c : Int
  d : Int
def swp (t : Int) (s : St) : St := if t % 2 = 1 then ⟨s.c, s.d, s.a, s.b⟩ else s
def stp (x1 : Int) (s : St) : St :=
  ⟨Fm (Fm (Fa s.a s.b) (Fa s.a s.b)) (Fm (Fs s.a s.b) (Fs s.a s.b)),
   Fm (Fs (Fm (Fa s.a s.b) (Fa s.a s.b)) (Fm (Fs s.a s.b) (Fs s.a s.b))) (Fa (Fm (Fa s.a s.b) (Fa s.a s.b)) (Fm 121665 (Fs (Fm (Fa s.a s.b) (Fa s.a s.b)) (Fm (Fs s.a s.b) (Fs s.a s.b))))),
   Fm (Fa (Fm (Fs s.c s.d) (Fa s.a s.b)) (Fm (Fa s.c s.d) (Fs s.a s.b))) (Fa (Fm (Fs s.c s.d) (Fa s.a s.b)) (Fm (Fa s.c s.d) (Fs s.a s.b))),
   Fm x1 (Fm (Fs (Fm (Fs s.c s.d) (Fa s.a s.b)) (Fm (Fa s.c s.d) (Fs s.a s.b))) (Fs (Fm (Fs s.c s.d) (Fa s.a s.b)) (Fm (Fa s.c s.d) (Fs s.a s.b))))⟩
theorem stp_stp (x1 : Int) (s : St) : Stp x1 s.a s.b s.c s.d (stp x1 s).a (stp x1 s).b (stp x1 s).c (stp x1 s).d := ⟨rfl, rfl, rfl, rfl⟩
structure Els (s : St) : Prop where
  a : El s.a
  b : El s.b
  c : El s.c
  d : El s.d
theorem Els.swp {s : St} (h : Els s) (t : Int) : Els (swp t s) := by
  unfold Ytbkbodcncjhcmaa.swp
  split
  · exact ⟨h.c, h.d, h.a, h.b⟩
  · exact h
theorem els_stp (x1 : Int) (s : St) : Els (stp x1 s) := ⟨el_fm _ _, el_fm _ _, el_fm _ _, el_fm _ _⟩
theorem swp_cases (t : Int) (s : St) : (t % 2 = 1 ∧ (swp t s).a = s.c ∧ (swp t s).b = s.d ∧ (swp t s).c = s.a ∧ (swp t s).d = s.b) ∨ (t % 2 = 0 ∧ (swp t s).a = s.a ∧ (swp t s).b = s.b ∧ (swp t s).c = s.c ∧ (swp t s).d = s.d) := by
  unfold swp
  split
  · rename_i h
    exact .inl ⟨h, rfl, rfl, rfl, rfl⟩
  · exact .inr ⟨by omega, rfl, rfl, rfl, rfl⟩
/-- The bit that the round k leaves behind: none ahead of the first. -/
def bt (l : List Int) : Nat → Int
  | 0 => 0
  | k + 1 => kb l (254 - k)
theorem kb_bit (l : List Int) (i : Nat) : kb l i = 0 ∨ kb l i = 1 := by unfold kb; omega
theorem bt_bit (l : List Int) (k : Nat) : bt l k = 0 ∨ bt l k = 1 := by
  cases k with
  | zero => exact .inl rfl
  | succ k => exact kb_bit l _
theorem bt_xor (l : List Int) (k : Nat) : ∃ x, bits .xor .i64 (bt l (k + 1)) (bt l k) = x ∧ (x % 2 = (bt l k + bt l (k + 1)) % 2) := by
  refine ⟨_, rfl, ?_⟩
  rcases bt_bit l k with h | h <;> rcases bt_bit l (k + 1) with h' | h' <;> rw [h, h'] <;> decide
theorem swp_mod {t u : Int} (h : t % 2 = u % 2) (s : St) : swp t s = swp u s := by unfold swp; rw [h]
/-- The state behind k rounds. -/
def ld (l : List Int) (x1 : Int) : Nat → St
  | 0 => ⟨1, 0, x1, 1⟩
  | k + 1 => stp x1 (swp (bt l k + bt l (k + 1)) (ld l x1 k))
theorem el_one : El 1 := ⟨by decide, by decide⟩
theorem el_zero : El 0 := ⟨by decide, by decide⟩
theorem ld_els (l : List Int) {x1 : Int} (h : El x1) : ∀ k, Els (ld l x1 k)
  | 0 => ⟨el_one, el_zero, h, el_one⟩
  | _ + 1 => els_stp _ _
def lad (l : List Int) (x1 : Int) : Int := Fm (swp (bt l 255) (ld l x1 255)).a (vi (swp (bt l 255) (ld l x1 255)).b)
theorem el_lad (l : List Int) (x1 : Int) : El (lad l x1) := el_fm _ _

theorem pc_zero : ∀ w : World, (zeroValue 64).run Try.prog w = .ok (.agg (pc 0 0)) w := fun _ => by kernel_rfl
theorem size64 : (Try.prog.info? 64).map (·.size) = some 8 := by kernel_rfl
theorem pc_info (x z : Int) : (Try.prog.info? 64).map (·.size) = some (pc x z).size := size64
theorem pc_all (x z : Int) : ((pc x z).all (·.oneCell')) = true := by
  apply Array.all_eq_true_iff_forall_mem.2
  intro v hv
  rw [pc, Array.mem_append] at hv
  rcases hv with h | h
  · exact Array.all_eq_true_iff_forall_mem.1 (ec_all x) v h
  · exact Array.all_eq_true_iff_forall_mem.1 (ec_all z) v h

set_option maxRecDepth 100000 in
set_option maxHeartbeats 8000000 in
theorem ladder_is (l : List Int) (x1 : Int) (w : World) (hl : l.length = 32) (bl : Bys l) (e1 : El x1) :
    Calls Try.prog 29 #[.agg (vs .u8 l), .agg (ec x1)] w fun e w' => e = .returned (.agg (ec (lad l x1))) ∧ Fr (fun _ => False) w w' := by
  have C0 := fun W => small_c 1 (by decide) (by decide) W
  have zk := ec_zero
  have HL : Hid (l.length = 32) := hl
  have HE := Lib.hid (And.intro bl e1)
  clear hl bl e1
  go_enter Try.func29, Try.ntmps29
  go_upto_region 1 with (fail)
  generalize hW : ((w.alloc (.cells (vs .u8 l) 23)).alloc (.cells (ec x1) 37)).alloc (.cells (ec 0) 37) = W0
  have HW := Lib.hid (calm3 hW)
  have X0 := Lib.hid HW.out.1
  have X1 := Lib.hid HW.out.2.1
  have X2 := Lib.hid HW.out.2.2.1
  have F0 : Hid (Fr (fun _ => False) w W0) := HW.out.2.2.2
  clear hW HW
  refine wp_region_seq (fun b a w' => ∃ g5 : Nat, Fr (fun _ => False) W0 w' ∧ (b 1 = true → W0.heap.size ≤ g5 ∧ w'.heap[g5]? = some (.cells (if b 2 = true then ec 1 else ec 0) 37 (0, 0))) ∧ (b 2 = true → b 1 = true) ∧ a = ⟨#[.agg (vs .u8 l), .agg (ec x1), .pointer (some ⟨w.heap.size, 0, none⟩), .pointer (some ⟨w.heap.size + 1, 0, none⟩), .pointer (some ⟨w.heap.size + 1 + 1, 0, none⟩), if b 1 = true then .pointer (some ⟨g5, 0, none⟩) else undef, undef, undef, undef, undef, undef, if b 0 = true then .agg (ec 1) else undef, undef, undef, undef, undef, undef, undef, undef, undef, undef, undef, undef, undef, undef, undef, undef, undef, undef, undef, undef, undef, undef, undef, undef], []⟩) (by kernel_rfl) ?start1 ?step1 ?done1
  case start1 => exact ⟨0, Fr.refl _ _, by simp, by simp, by simp⟩
  case step1 =>
    intro i o b a w1 ho hI hb hr
    obtain ⟨g5, hF, h1, hq1, rfl⟩ := hI
    match i, ho with
    | 0, ho =>
      injection ho with ho
      subst ho
      refine wp_quiet_here (.agg (ec 1)) ?_ (fun w2 hw2 => ?_)
      · simp only [Bool.false_eq_true] 
        go_big_quiet_op
        exact ⟨_, Calm.calls C0, by simp [Act.put]⟩
      refine ⟨g5, hF.trans hw2, ?_, ?_, ?_⟩
      · intro hx
        replace hx : b 1 = true := by simpa [upd] using hx
        obtain ⟨k1', k2⟩ := h1 hx
        refine ⟨k1', (hw2.block _ (heap_lt k2) (fun x => x)).trans ?_⟩
        rw [k2]
        simp [upd]
      · simpa [upd] using hq1
      · simp [upd, Act.put]
    | 1, ho =>
      injection ho with ho
      subst ho
      have d0 : b 0 = true := hr 0 (by decide)
      simp only [d0, if_true]
      refine wp_alloc_any 37 rfl (ec 0) ec_zero ?_
      refine ⟨w1.heap.size, hF.alloc _, ?_, ?_, ?_⟩
      · intro _
        refine ⟨hF.size, (heap_alloc_new w1 _).trans ?_⟩
        have hs : b 2 = false := by
          rcases hbs : b 2 with _ | _
          · rfl
          · rw [hq1 hbs] at hb
            cases hb
        simp [upd, hs]
      · simp [upd]
      · simp [upd, Act.put, d0]
    | 2, ho =>
      injection ho with ho
      subst ho
      have d0 : b 0 = true := hr 0 (by decide)
      have d1 : b 1 = true := hr 1 (by decide)
      simp only [d0, d1, if_true]
      obtain ⟨k1, k2⟩ := h1 d1
      rw [hb] at k2
      simp only [Bool.false_eq_true, if_false] at k2
      refine wp_store_row 37 (.tmp 5) (.tmp 11) rfl g5 (ec 1) rfl rfl 37 _ k2 (ec_info _) rfl (ec_all _) ?_
      refine ⟨g5, hF.setRow _ (.inr k1), ?_, ?_, ?_⟩
      · intro _
        refine ⟨k1, (setRow_heap _ _ _ _ _ _ k2).trans ?_⟩
        simp [upd]
      · simp [upd, d1]
      · simp [upd, Act.put, d0, d1]
    | j + 3, ho => exact absurd ho (by simp)
  intro b a W2 hall hI
  obtain ⟨g5, hF, h1, hq1, rfl⟩ := hI
  have t0 : b 0 = true := hall 0 (by simp)
  have t1 : b 1 = true := hall 1 (by simp)
  have t2 : b 2 = true := hall 2 (by simp)
  simp only [t0, t1, t2, if_true, true_implies] at h1 hq1 ⊢
  have F2 : Hid (Fr (fun _ => False) w W2) := F0.out.trans hF
  have X2_0 := Lib.hid ((hF.block _ (heap_lt X0.out) (fun x => x)).trans X0.out)
  have X2_1 := Lib.hid ((hF.block _ (heap_lt X1.out) (fun x => x)).trans X1.out)
  have X2_2 := Lib.hid ((hF.block _ (heap_lt X2.out) (fun x => x)).trans X2.out)
  have X2_3 := Lib.hid h1.2
  have Yg5 : w.heap.size ≤ g5 := Nat.le_trans F0.out.size h1.1
  clear hall hF h1 hq1 t0 t1 t2 F0
  go_upto_region 2 with (fail)
  refine wp_region_inv2 (fun b a w' => ∃ g6 g7 : Nat, Fr (fun _ => False) W2 w' ∧ (b 5 = true → W2.heap.size ≤ g6 ∧ w'.heap[g6]? = some (.cells (if b 7 = true then pc 1 0 else pc 0 0) 64 (0, 0))) ∧ (b 6 = true → W2.heap.size ≤ g7 ∧ w'.heap[g7]? = some (.cells (if b 8 = true then pc x1 1 else pc 0 0) 64 (0, 0))) ∧ (b 5 = true → b 6 = true → g6 ≠ g7) ∧ (b 7 = true → b 5 = true) ∧ (b 8 = true → b 6 = true) ∧ a = ⟨#[.agg (vs .u8 l), .agg (ec x1), .pointer (some ⟨w.heap.size, 0, none⟩), .pointer (some ⟨w.heap.size + 1, 0, none⟩), .pointer (some ⟨w.heap.size + 1 + 1, 0, none⟩), .pointer (some ⟨g5, 0, none⟩), if b 5 = true then .pointer (some ⟨g6, 0, none⟩) else undef, if b 6 = true then .pointer (some ⟨g7, 0, none⟩) else undef, undef, undef, undef, .agg (ec 1), if b 0 = true then .agg (ec 1) else undef, if b 1 = true then .agg (pc 1 0) else undef, if b 2 = true then .agg (ec x1) else undef, if b 3 = true then .agg (ec 1) else undef, if b 4 = true then .agg (pc x1 1) else undef, undef, undef, undef, undef, undef, undef, undef, undef, undef, undef, undef, undef, undef, undef, undef, undef, undef, undef], []⟩) (by kernel_rfl) (by kernel_rfl) ?start2 ?step2 ?done2
  case start2 => exact ⟨0, 0, ⟨rfl, rfl, rfl, Nat.le_refl _, fun _ _ _ => rfl⟩, by simp, by simp, by simp, by simp, by simp, by simp⟩
  case step2 =>
    intro i o b a w1 ho hI hb hr hc
    obtain ⟨g6, g7, hF, h5, h6, p5_6, hq5, hq6, rfl⟩ := hI
    match i, ho with
    | 0, ho =>
      injection ho with ho
      subst ho
      refine wp_quiet_here _ (quiet_load 37 (.tmp 5) rfl (g5) rfl 37 _ (0, 0) _ (fun _ h => (Fr.block h _ (Nat.lt_of_lt_of_le (heap_lt X2_3.out) hF.size) (fun x => x)).trans ((hF.block _ (heap_lt X2_3.out) (fun x => x)).trans X2_3.out)) Try.underlying37 rfl (ec_info _) rfl) (fun w2 hw2 => ?_)
      refine ⟨g6, g7, hF.trans hw2, ?_, ?_, ?_, ?_, ?_, ?_⟩
      · intro hx
        replace hx : b 5 = true := by simpa [upd] using hx
        obtain ⟨k1', k2⟩ := h5 hx
        refine ⟨k1', (hw2.block _ (heap_lt k2) (fun x => x)).trans ?_⟩
        rw [k2]
        simp [upd]
      · intro hx
        replace hx : b 6 = true := by simpa [upd] using hx
        obtain ⟨k1', k2⟩ := h6 hx
        refine ⟨k1', (hw2.block _ (heap_lt k2) (fun x => x)).trans ?_⟩
        rw [k2]
        simp [upd]
      · intro hx hy
        exact p5_6 (by simpa [upd] using hx) (by simpa [upd] using hy)
      · simpa [upd] using hq5
      · simpa [upd] using hq6
      · simp [upd, Act.put]
    | 1, ho =>
      injection ho with ho
      subst ho
      simp [Region.binds] at hr
      have d0 : b 0 = true := by simp only [hr]
      simp only [hr, if_true]
      refine wp_quiet_here (.agg (pc 1 0)) (quiet_run _ (fun _ _ => by kernel_rfl) rfl) (fun w2 hw2 => ?_)
      refine ⟨g6, g7, hF.trans hw2, ?_, ?_, ?_, ?_, ?_, ?_⟩
      · intro hx
        replace hx : b 5 = true := by simpa [upd] using hx
        obtain ⟨k1', k2⟩ := h5 hx
        refine ⟨k1', (hw2.block _ (heap_lt k2) (fun x => x)).trans ?_⟩
        rw [k2]
        simp [upd]
      · intro hx
        replace hx : b 6 = true := by simpa [upd] using hx
        obtain ⟨k1', k2⟩ := h6 hx
        refine ⟨k1', (hw2.block _ (heap_lt k2) (fun x => x)).trans ?_⟩
        rw [k2]
        simp [upd]
      · intro hx hy
        exact p5_6 (by simpa [upd] using hx) (by simpa [upd] using hy)
      · simpa [upd] using hq5
      · simpa [upd] using hq6
      · simp [upd, Act.put, hr]
    | 2, ho =>
      injection ho with ho
      subst ho
      refine wp_quiet_here _ (quiet_load 37 (.tmp 3) rfl (w.heap.size + 1) rfl 37 _ (0, 0) _ (fun _ h => (Fr.block h _ (Nat.lt_of_lt_of_le (heap_lt X2_1.out) hF.size) (fun x => x)).trans ((hF.block _ (heap_lt X2_1.out) (fun x => x)).trans X2_1.out)) Try.underlying37 rfl (ec_info _) rfl) (fun w2 hw2 => ?_)
      refine ⟨g6, g7, hF.trans hw2, ?_, ?_, ?_, ?_, ?_, ?_⟩
      · intro hx
        replace hx : b 5 = true := by simpa [upd] using hx
        obtain ⟨k1', k2⟩ := h5 hx
        refine ⟨k1', (hw2.block _ (heap_lt k2) (fun x => x)).trans ?_⟩
        rw [k2]
        simp [upd]
      · intro hx
        replace hx : b 6 = true := by simpa [upd] using hx
        obtain ⟨k1', k2⟩ := h6 hx
        refine ⟨k1', (hw2.block _ (heap_lt k2) (fun x => x)).trans ?_⟩
        rw [k2]
        simp [upd]
      · intro hx hy
        exact p5_6 (by simpa [upd] using hx) (by simpa [upd] using hy)
      · simpa [upd] using hq5
      · simpa [upd] using hq6
      · simp [upd, Act.put]
    | 3, ho =>
      injection ho with ho
      subst ho
      refine wp_quiet_here _ (quiet_load 37 (.tmp 5) rfl (g5) rfl 37 _ (0, 0) _ (fun _ h => (Fr.block h _ (Nat.lt_of_lt_of_le (heap_lt X2_3.out) hF.size) (fun x => x)).trans ((hF.block _ (heap_lt X2_3.out) (fun x => x)).trans X2_3.out)) Try.underlying37 rfl (ec_info _) rfl) (fun w2 hw2 => ?_)
      refine ⟨g6, g7, hF.trans hw2, ?_, ?_, ?_, ?_, ?_, ?_⟩
      · intro hx
        replace hx : b 5 = true := by simpa [upd] using hx
        obtain ⟨k1', k2⟩ := h5 hx
        refine ⟨k1', (hw2.block _ (heap_lt k2) (fun x => x)).trans ?_⟩
        rw [k2]
        simp [upd]
      · intro hx
        replace hx : b 6 = true := by simpa [upd] using hx
        obtain ⟨k1', k2⟩ := h6 hx
        refine ⟨k1', (hw2.block _ (heap_lt k2) (fun x => x)).trans ?_⟩
        rw [k2]
        simp [upd]
      · intro hx hy
        exact p5_6 (by simpa [upd] using hx) (by simpa [upd] using hy)
      · simpa [upd] using hq5
      · simpa [upd] using hq6
      · simp [upd, Act.put]
    | 4, ho =>
      injection ho with ho
      subst ho
      simp [Region.binds] at hr
      have d2 : b 2 = true := by simp only [hr]
      have d3 : b 3 = true := by simp only [hr]
      simp only [hr, if_true]
      refine wp_quiet_here (.agg (pc x1 1)) (quiet_run _ (fun _ _ => by kernel_rfl) rfl) (fun w2 hw2 => ?_)
      refine ⟨g6, g7, hF.trans hw2, ?_, ?_, ?_, ?_, ?_, ?_⟩
      · intro hx
        replace hx : b 5 = true := by simpa [upd] using hx
        obtain ⟨k1', k2⟩ := h5 hx
        refine ⟨k1', (hw2.block _ (heap_lt k2) (fun x => x)).trans ?_⟩
        rw [k2]
        simp [upd]
      · intro hx
        replace hx : b 6 = true := by simpa [upd] using hx
        obtain ⟨k1', k2⟩ := h6 hx
        refine ⟨k1', (hw2.block _ (heap_lt k2) (fun x => x)).trans ?_⟩
        rw [k2]
        simp [upd]
      · intro hx hy
        exact p5_6 (by simpa [upd] using hx) (by simpa [upd] using hy)
      · simpa [upd] using hq5
      · simpa [upd] using hq6
      · simp [upd, Act.put, hr]
    | 5, ho =>
      injection ho with ho
      subst ho
      refine wp_alloc_any 64 rfl (pc 0 0) pc_zero ?_
      refine ⟨w1.heap.size, g7, hF.alloc _, ?_, ?_, ?_, ?_, ?_, ?_⟩
      · intro _
        refine ⟨hF.size, (heap_alloc_new w1 _).trans ?_⟩
        have hs : b 7 = false := by
          rcases hbs : b 7 with _ | _
          · rfl
          · rw [hq5 hbs] at hb
            cases hb
        simp [upd, hs]
      · intro hx
        replace hx : b 6 = true := by simpa [upd] using hx
        obtain ⟨k1', k2⟩ := h6 hx
        refine ⟨k1', (Below.heap_alloc w1 _ _ (heap_lt k2)).trans ?_⟩
        rw [k2]
        simp [upd]
      · intro _ hy
        have := heap_lt (h6 (by simpa [upd] using hy)).2
        omega
      · simp [upd]
      · simpa [upd] using hq6
      · simp [upd, Act.put]
    | 6, ho =>
      injection ho with ho
      subst ho
      refine wp_alloc_any 64 rfl (pc 0 0) pc_zero ?_
      refine ⟨g6, w1.heap.size, hF.alloc _, ?_, ?_, ?_, ?_, ?_, ?_⟩
      · intro hx
        replace hx : b 5 = true := by simpa [upd] using hx
        obtain ⟨k1', k2⟩ := h5 hx
        refine ⟨k1', (Below.heap_alloc w1 _ _ (heap_lt k2)).trans ?_⟩
        rw [k2]
        simp [upd]
      · intro _
        refine ⟨hF.size, (heap_alloc_new w1 _).trans ?_⟩
        have hs : b 8 = false := by
          rcases hbs : b 8 with _ | _
          · rfl
          · rw [hq6 hbs] at hb
            cases hb
        simp [upd, hs]
      · intro hx _
        have := heap_lt (h5 (by simpa [upd] using hx)).2
        omega
      · simpa [upd] using hq5
      · simp [upd]
      · simp [upd, Act.put]
    | 7, ho =>
      injection ho with ho
      subst ho
      simp [Region.binds] at hr
      have d1 : b 1 = true := by simp only [hr]
      have d5 : b 5 = true := by simp only [hr]
      simp only [hr, if_true]
      obtain ⟨k1, k2⟩ := h5 d5
      rw [hb] at k2
      simp only [Bool.false_eq_true, if_false] at k2
      refine wp_store_row 64 (.tmp 6) (.tmp 13) rfl g6 (pc 1 0) rfl rfl 64 _ k2 (pc_info _ _) rfl (pc_all _ _) ?_
      refine ⟨g6, g7, hF.setRow _ (.inr k1), ?_, ?_, ?_, ?_, ?_, ?_⟩
      · intro _
        refine ⟨k1, (setRow_heap _ _ _ _ _ _ k2).trans ?_⟩
        simp [upd]
      · intro hx
        replace hx : b 6 = true := by simpa [upd] using hx
        obtain ⟨k1', k2⟩ := h6 hx
        refine ⟨k1', (setRow_other _ _ _ _ (fun e => (p5_6 (by simp [d1, d5, hx]) (by simp [d1, d5, hx])) e.symm)).trans ?_⟩
        rw [k2]
        simp [upd]
      · intro hx hy
        exact p5_6 (by simpa [upd] using hx) (by simpa [upd] using hy)
      · simp [upd, d5]
      · simpa [upd] using hq6
      · simp [upd, Act.put, hr]
    | 8, ho =>
      injection ho with ho
      subst ho
      simp [Region.binds] at hr
      have d4 : b 4 = true := by simp only [hr]
      have d6 : b 6 = true := by simp only [hr]
      simp only [hr, if_true]
      obtain ⟨k1, k2⟩ := h6 d6
      rw [hb] at k2
      simp only [Bool.false_eq_true, if_false] at k2
      refine wp_store_row 64 (.tmp 7) (.tmp 16) rfl g7 (pc x1 1) rfl rfl 64 _ k2 (pc_info _ _) rfl (pc_all _ _) ?_
      refine ⟨g6, g7, hF.setRow _ (.inr k1), ?_, ?_, ?_, ?_, ?_, ?_⟩
      · intro hx
        replace hx : b 5 = true := by simpa [upd] using hx
        obtain ⟨k1', k2⟩ := h5 hx
        refine ⟨k1', (setRow_other _ _ _ _ (fun e => (p5_6 (by simp [d4, d6, hx]) (by simp [d4, d6, hx])) e)).trans ?_⟩
        rw [k2]
        simp [upd]
      · intro _
        refine ⟨k1, (setRow_heap _ _ _ _ _ _ k2).trans ?_⟩
        simp [upd]
      · intro hx hy
        exact p5_6 (by simpa [upd] using hx) (by simpa [upd] using hy)
      · simpa [upd] using hq5
      · simp [upd, d6]
      · simp [upd, Act.put, hr]
    | j + 9, ho => exact absurd ho (by simp)
  intro b a W3 hall hI
  obtain ⟨g6, g7, hF, h5, h6, p5_6, hq5, hq6, rfl⟩ := hI
  have t0 : b 0 = true := hall 0 (by simp)
  have t1 : b 1 = true := hall 1 (by simp)
  have t2 : b 2 = true := hall 2 (by simp)
  have t3 : b 3 = true := hall 3 (by simp)
  have t4 : b 4 = true := hall 4 (by simp)
  have t5 : b 5 = true := hall 5 (by simp)
  have t6 : b 6 = true := hall 6 (by simp)
  have t7 : b 7 = true := hall 7 (by simp)
  have t8 : b 8 = true := hall 8 (by simp)
  simp only [t0, t1, t2, t3, t4, t5, t6, t7, t8, if_true, true_implies] at h5 h6 p5_6 hq5 hq6 ⊢
  have F3 : Hid (Fr (fun _ => False) w W3) := F2.out.trans hF
  have X3_0 := Lib.hid ((hF.block _ (heap_lt X2_0.out) (fun x => x)).trans X2_0.out)
  have X3_1 := Lib.hid ((hF.block _ (heap_lt X2_1.out) (fun x => x)).trans X2_1.out)
  have X3_2 := Lib.hid ((hF.block _ (heap_lt X2_2.out) (fun x => x)).trans X2_2.out)
  have X3_3 := Lib.hid ((hF.block _ (heap_lt X2_3.out) (fun x => x)).trans X2_3.out)
  have X3_4 := Lib.hid h5.2
  have Yg6 : w.heap.size ≤ g6 := Nat.le_trans F2.out.size h5.1
  have Dg6_0 : (w.heap.size) ≠ g6 := by
    have q := heap_lt X2_0.out
    have q2 := h5.1
    omega
  have Dg6_1 : (w.heap.size + 1) ≠ g6 := by
    have q := heap_lt X2_1.out
    have q2 := h5.1
    omega
  have Dg6_2 : (w.heap.size + 1 + 1) ≠ g6 := by
    have q := heap_lt X2_2.out
    have q2 := h5.1
    omega
  have Dg6_g5 : (g5) ≠ g6 := by
    have q := heap_lt X2_3.out
    have q2 := h5.1
    omega
  have X3_5 := Lib.hid h6.2
  have Yg7 : w.heap.size ≤ g7 := Nat.le_trans F2.out.size h6.1
  have Dg7_0 : (w.heap.size) ≠ g7 := by
    have q := heap_lt X2_0.out
    have q2 := h6.1
    omega
  have Dg7_1 : (w.heap.size + 1) ≠ g7 := by
    have q := heap_lt X2_1.out
    have q2 := h6.1
    omega
  have Dg7_2 : (w.heap.size + 1 + 1) ≠ g7 := by
    have q := heap_lt X2_2.out
    have q2 := h6.1
    omega
  have Dg7_g5 : (g5) ≠ g7 := by
    have q := heap_lt X2_3.out
    have q2 := h6.1
    omega
  have Ng6g7 : g6 ≠ g7 := p5_6
  clear hall hF h5 h6 p5_6 hq5 hq6 t0 t1 t2 t3 t4 t5 t6 t7 t8 X2_0 X2_1 X2_2 X2_3 F2
  have P3 : Hid (P8 W3 g6 (ld l x1 0).a (ld l x1 0).b) := X3_4.out
  have Q3 : Hid (P8 W3 g7 (ld l x1 0).c (ld l x1 0).d) := X3_5.out
  have R3 : Hid (W3.heap[w.heap.size]? = some (.cells (vs .u8 l) 23 (0, 0))) := X3_0.out
  have E3 : Hid (W3.heap[w.heap.size + 1]? = some (.cells (ec x1) 37 (0, 0))) := X3_1.out
  have O3 : Hid (W3.heap[w.heap.size + 1 + 1]? = some (.cells (ec 0) 37 (0, 0))) := X3_2.out
  have HD := Lib.hid (And.intro Dg6_0 (And.intro Dg6_1 (And.intro Dg6_2 (And.intro Dg7_0 (And.intro Dg7_1 (And.intro Dg7_2 Ng6g7))))))
  have HY := Lib.hid (And.intro Yg6 Yg7)
  clear X3_0 X3_1 X3_2 X3_3 X3_4 X3_5 Dg6_0 Dg6_1 Dg6_2 Dg6_g5 Dg7_0 Dg7_1 Dg7_2 Dg7_g5 Ng6g7 Yg5 Yg6 Yg7 C0 zk
  go_upto_region 5 with (fail)
  go_loopw [8, 9, 10, 17] (fun u8 u9 u10 u17 wr => ∃ k : Nat, u17 = .int .i64 k ∧ k ≤ 255 ∧ u8 = .int .i64 (bt l k) ∧ Hid (P8 wr g6 (ld l x1 k).a (ld l x1 k).b) ∧ Hid (P8 wr g7 (ld l x1 k).c (ld l x1 k).d) ∧ Hid (Fr (fun k => k = g6 ∨ k = g7) W3 wr))
    (fun _ _ _ u17 _ => 255 - (intOf u17).toNat)
  case atStart => exact ⟨0, rfl, by omega, rfl, P3.out, Q3.out, Fr.refl _ _⟩
  case round =>
    obtain ⟨k, rfl, hk, rfl, hP, hQ, hF⟩ := hrel
    have hR : Hid (wr.heap[w.heap.size]? = some (.cells (vs .u8 l) 23 (0, 0))) := (hF.out.block _ (heap_lt R3.out) (by have := HD.out; omega)).trans R3.out
    have hE : Hid (wr.heap[w.heap.size + 1]? = some (.cells (ec x1) 37 (0, 0))) := (hF.out.block _ (heap_lt E3.out) (by have := HD.out; omega)).trans E3.out
    have hS := Lib.hid (ld_els l HE.out.2 k)
    obtain ⟨s, hs⟩ : ∃ s, s = ld l x1 k := ⟨_, rfl⟩
    rw [← hs] at hP hQ hS
    have HS := Lib.hid hs
    clear hs
    by_cases hlt : k < 255
    · obtain ⟨x, hx, hx2⟩ := bt_xor l k
      obtain ⟨B, hB⟩ : ∃ B, B = bt l k := ⟨_, rfl⟩
      obtain ⟨B', hB'⟩ : ∃ B', B' = bt l (k + 1) := ⟨_, rfl⟩
      have HX : Hid (swp x s = swp (bt l k + bt l (k + 1)) (ld l x1 k)) := by show _ = _; rw [HS.out]; exact swp_mod hx2 _
      rw [← hB, ← hB'] at hx
      rw [← hB]
      have hw : IntKind.i64.wrap (254 - (k : Int)) = 254 - k := by rw [IntKind.wrap_i64]; omega
      have C1 : ∀ W, Calls Try.prog 38 #[.agg (vs .u8 l), .int .i64 (254 - (k : Int))] W fun e w' => e = .returned (.int .i64 B') ∧ Fr (fun _ => False) W w' := fun W => by
        have h := bit_is l (254 - k) W HL.out HE.out.1 (by omega)
        rw [show ((254 - k : Nat) : Int) = 254 - (k : Int) by omega] at h
        rw [hB']
        exact h
      have HB := Lib.hid (And.intro hB hB')
      clear hB hB' hx2
      go_wp2_with (refine wpList_load_row rfl 23 (.tmp 2) rfl w.heap.size rfl 23 (vs .u8 l) (0, 0) _ hR.out Try.underlying23 rfl (key_info HL.out) ?_)
      refine (C1 _).mono ?_
      rintro e w1 ⟨rfl, hf⟩
      have P1 : Hid (P8 w1 g6 s.a s.b) := hP.out.fr hf (fun x => x)
      have Q1 : Hid (P8 w1 g7 s.c s.d) := hQ.out.fr hf (fun x => x)
      have E1 : Hid (w1.heap[w.heap.size + 1]? = some (.cells (ec x1) 37 (0, 0))) := (hf.block _ (heap_lt hE.out) (fun x => x)).trans hE.out
      have F1 : Hid (Fr (fun k => k = g6 ∨ k = g7) W3 w1) := hF.out.trans hf.any
      clear hf hP hQ hF hR hE C1
      go_wp2_with fail
      refine (cswap_is g6 g7 s.a s.b s.c s.d (swp x s).a (swp x s).b (swp x s).c (swp x s).d x _ P1.out Q1.out HD.out.2.2.2.2.2.2 hS.out.a hS.out.b hS.out.c hS.out.d (swp_cases x s)).mono ?_
      rintro e w2 ⟨rfl, hp, hq, hf⟩
      have P2 := Lib.hid hp
      have Q2 := Lib.hid hq
      have E2 : Hid (w2.heap[w.heap.size + 1]? = some (.cells (ec x1) 37 (0, 0))) := (hf.block _ (heap_lt E1.out) (by have := HD.out; omega)).trans E1.out
      have F2 : Hid (Fr (fun k => k = g6 ∨ k = g7) W3 w2) := F1.out.trans hf
      clear hf hp hq P1 Q1 E1 F1
      go_wp2_with (refine wpList_load_row rfl 37 (.tmp 3) rfl (w.heap.size + 1) rfl 37 (ec x1) (0, 0) _ E2.out Try.underlying37 rfl (ec_info _) ?_)
      refine (step_is g6 g7 _ P2.out Q2.out HD.out.2.2.2.2.2.2 HE.out.2 (hS.out.swp x).a (hS.out.swp x).b (hS.out.swp x).c (hS.out.swp x).d (stp_stp x1 (swp x s))).mono ?_
      rintro e w3 ⟨rfl, hp, hq, hf⟩
      rw [HX.out] at hp hq
      have P4 : Hid (P8 w3 g6 (ld l x1 (k + 1)).a (ld l x1 (k + 1)).b) := hp
      have Q4 : Hid (P8 w3 g7 (ld l x1 (k + 1)).c (ld l x1 (k + 1)).d) := hq
      have F4 : Hid (Fr (fun k => k = g6 ∨ k = g7) W3 w3) := F2.out.trans hf
      clear hf hp hq P2 Q2 E2 F2
      go_wp2
      go_roundw
      case rel => exact ⟨k + 1, by go_num, by omega, by rw [HB.out.2], P4.out, Q4.out, F4.out⟩
      case measure => simp [intOf]; omega
    · obtain rfl : k = 255 := by omega
      obtain ⟨B, hB⟩ : ∃ B, B = bt l 255 := ⟨_, rfl⟩
      rw [← hB]
      have HB := Lib.hid hB
      clear hB
      have hO : Hid (wr.heap[w.heap.size + 1 + 1]? = some (.cells (ec 0) 37 (0, 0))) := (hF.out.block _ (heap_lt O3.out) (by have := HD.out; omega)).trans O3.out
      go_wp2_with fail
      refine (cswap_is g6 g7 s.a s.b s.c s.d (swp B s).a (swp B s).b (swp B s).c (swp B s).d B _ hP.out hQ.out HD.out.2.2.2.2.2.2 hS.out.a hS.out.b hS.out.c hS.out.d (swp_cases B s)).mono ?_
      rintro e w2 ⟨rfl, hp, hq, hf⟩
      have P2 := Lib.hid hp
      have O2 : Hid (w2.heap[w.heap.size + 1 + 1]? = some (.cells (ec 0) 37 (0, 0))) := (hf.block _ (heap_lt hO.out) (by have := HD.out; omega)).trans hO.out
      have F2 : Hid (Fr (fun k => k = g6 ∨ k = g7) W3 w2) := hF.out.trans hf
      clear hf hp hq hP hQ hO hF hR hE
      go_wp2_with fail
      refine (element_is g6 _ P2.out (hS.out.swp B).a (hS.out.swp B).b rfl).mono ?_
      rintro e w4 ⟨rfl, hf⟩
      have O4 : Hid (w4.heap[w.heap.size + 1 + 1]? = some (.cells (ec 0) 37 (0, 0))) := (hf.block _ (heap_lt O2.out) (fun x => x)).trans O2.out
      have F4 : Hid (Fr (fun k => k = g6 ∨ k = g7) W3 w4) := F2.out.trans hf.any
      obtain ⟨r, hr⟩ : ∃ r, r = Fm (swp B s).a (vi (swp B s).b) := ⟨_, rfl⟩
      rw [← hr]
      have HR : Hid (r = lad l x1) := by show _ = _; rw [hr, HB.out, HS.out]; rfl
      clear hf hr
      go_wp2_with (refine wpList_store_row rfl 37 (.tmp 4) (.tmp 34) rfl (w.heap.size + 1 + 1) (ec r) rfl rfl 37 _ O4.out (ec_info _) rfl (ec_all _) ?_)
      refine bodyPost_ret (results_cell_row Try.results29 _ _ _ 37 _ (0, 0) _ rfl (setRow_heap _ _ _ _ _ _ O4.out) Try.underlying37 rfl (ec_info _)) rfl ⟨?_, Fr.setRow ((F3.out.trans' F4.out ?_)) _ (.inr (by omega))⟩
      · rw [HR.out]
      · intro i hi h
        have := HY.out
        omega
end Go.Proofs.Ytbkbodcncjhcmaa
