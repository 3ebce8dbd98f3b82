/- FieldRing answers true for all three numbers of 32 bytes, and its arguments read behind the call as they did: the given statement FieldRingSaid. No condition. -/
import Derived.Test.YtmhoblefpkjdlaaLift
import Derived.Test.YtmhoblefpkjdlaaInvR
import Derived.Test.YtmhoblefpkjdlaaRefE
import Derived.Deep.Cut
namespace Go.Proofs.Ytmhoblefpkjdlaa
open Go.ChangeShapes Go.WideShapes Go.ChangeAt Go.RowKit

theorem z28a : ∀ w : World, (zeroValue 28).run Try.prog w = .ok (.agg #[.int .u64 0, .int .u64 0, .int .u64 0, .int .u64 0]) w := fun _ => by kernel_rfl
theorem am1 (x y : Int) : (x % pp + y) % pp = (x + y) % pp := by rw [Int.add_emod, Int.emod_emod_of_dvd _ (Int.dvd_refl pp), ← Int.add_emod]
theorem am2 (x y : Int) : (x + y % pp) % pp = (x + y) % pp := by rw [Int.add_emod, Int.emod_emod_of_dvd _ (Int.dvd_refl pp), ← Int.add_emod]
theorem mm1 (x y : Int) : (x % pp * y) % pp = (x * y) % pp := by rw [Int.mul_emod, Int.emod_emod_of_dvd _ (Int.dvd_refl pp), ← Int.mul_emod]
theorem mm2 (x y : Int) : (x * (y % pp)) % pp = (x * y) % pp := by rw [Int.mul_emod, Int.emod_emod_of_dvd _ (Int.dvd_refl pp), ← Int.mul_emod]

set_option maxRecDepth 100000 in
set_option maxHeartbeats 8000000 in
theorem law_ring_any (l m k : List Int) (w : World) (hl : l.length = 32) (bl : Bys l) (hm : m.length = 32) (bm : Bys m) (hk : k.length = 32) (bk : Bys k) :
    Calls Try.prog 9 #[.agg (vs .u8 l), .agg (vs .u8 m), .agg (vs .u8 k)] w fun e w' => e = .returned (.bool true) ∧ Fr (fun _ => False) w w' := by
  obtain ⟨u, hu⟩ : ∃ u, u = fe l := ⟨_, rfl⟩
  obtain ⟨v, hv⟩ : ∃ v, v = fe m := ⟨_, rfl⟩
  obtain ⟨t, ht⟩ : ∃ t, t = fe k := ⟨_, rfl⟩
  have eu : El u := hu ▸ El.mod _
  have ev : El v := hv ▸ El.mod _
  have et : El t := ht ▸ El.mod _
  obtain ⟨a0, a1, a2, a3, hA⟩ := ws_of eu
  obtain ⟨b0, b1, b2, b3, hB⟩ := ws_of ev
  obtain ⟨c0, c1, c2, c3, hC⟩ := ws_of et
  have f0 : ∀ W, Calls Try.prog 14 #[.agg (vs .u8 l)] W fun e w' => e = .returned (.agg #[.int .u64 a0, .int .u64 a1, .int .u64 a2, .int .u64 a3]) ∧ Fr (fun _ => False) W w' := fun W => by
    rw [← hA.eq, hu]
    exact from_el l W hl bl
  have f1 : ∀ W, Calls Try.prog 14 #[.agg (vs .u8 m)] W fun e w' => e = .returned (.agg #[.int .u64 b0, .int .u64 b1, .int .u64 b2, .int .u64 b3]) ∧ Fr (fun _ => False) W w' := fun W => by
    rw [← hB.eq, hv]
    exact from_el m W hm bm
  have f2 : ∀ W, Calls Try.prog 14 #[.agg (vs .u8 k)] W fun e w' => e = .returned (.agg #[.int .u64 c0, .int .u64 c1, .int .u64 c2, .int .u64 c3]) ∧ Fr (fun _ => False) W w' := fun W => by
    rw [← hC.eq, ht]
    exact from_el k W hk bk
  have H0 : Hid ((Try.prog.info? 22).map (·.size) = some (vs .u8 l).size) := by show _ = _; rw [size22, vs_size, hl]
  have H1 : Hid ((Try.prog.info? 22).map (·.size) = some (vs .u8 m).size) := by show _ = _; rw [size22, vs_size, hm]
  have H2 : Hid ((Try.prog.info? 22).map (·.size) = some (vs .u8 k).size) := by show _ = _; rw [size22, vs_size, hk]
  have HH := Lib.hid (And.intro eu (And.intro ev (And.intro et (And.intro hA (And.intro hB hC)))))
  clear hl bl hm bm hk bk hu hv ht eu ev et hA hB hC
  go_enter Try.func9, Try.ntmps9
  go_upto_region 1 with (fail)
  generalize hW : ((w.alloc (.cells (vs .u8 l) 22)).alloc (.cells (vs .u8 m) 22)).alloc (.cells (vs .u8 k) 22) = W0
  have HW := Lib.hid (calm3 hW)
  clear hW
  refine wp_region_inv (fun b a w' => ∃ g6 g7 g8 : Nat, Fr (fun _ => False) W0 w' ∧ (b 6 = true → W0.heap.size ≤ g6 ∧ w'.heap[g6]? = some (.cells (if b 9 = true then #[.int .u64 a0, .int .u64 a1, .int .u64 a2, .int .u64 a3] else #[.int .u64 0, .int .u64 0, .int .u64 0, .int .u64 0]) 28 (0, 0))) ∧ (b 7 = true → W0.heap.size ≤ g7 ∧ w'.heap[g7]? = some (.cells (if b 10 = true then #[.int .u64 b0, .int .u64 b1, .int .u64 b2, .int .u64 b3] else #[.int .u64 0, .int .u64 0, .int .u64 0, .int .u64 0]) 28 (0, 0))) ∧ (b 8 = true → W0.heap.size ≤ g8 ∧ w'.heap[g8]? = some (.cells (if b 11 = true then #[.int .u64 c0, .int .u64 c1, .int .u64 c2, .int .u64 c3] else #[.int .u64 0, .int .u64 0, .int .u64 0, .int .u64 0]) 28 (0, 0))) ∧ (b 6 = true → b 7 = true → g6 ≠ g7) ∧ (b 6 = true → b 8 = true → g6 ≠ g8) ∧ (b 7 = true → b 8 = true → g7 ≠ g8) ∧ (b 9 = true → b 6 = true) ∧ (b 10 = true → b 7 = true) ∧ (b 11 = true → b 8 = true) ∧ a = ⟨#[.agg (vs .u8 l), .agg (vs .u8 m), .agg (vs .u8 k), .pointer (some ⟨w.heap.size, 0, none⟩), .pointer (some ⟨w.heap.size + 1, 0, none⟩), .pointer (some ⟨w.heap.size + 1 + 1, 0, none⟩), .bool false, if b 6 = true then .pointer (some ⟨g6, 0, none⟩) else undef, if b 7 = true then .pointer (some ⟨g7, 0, none⟩) else undef, if b 8 = true then .pointer (some ⟨g8, 0, none⟩) else undef, if b 0 = true then .agg (vs .u8 l) else undef, if b 1 = true then .agg #[.int .u64 a0, .int .u64 a1, .int .u64 a2, .int .u64 a3] else undef, if b 2 = true then .agg (vs .u8 m) else undef, if b 3 = true then .agg #[.int .u64 b0, .int .u64 b1, .int .u64 b2, .int .u64 b3] else undef, if b 4 = true then .agg (vs .u8 k) else undef, if b 5 = true then .agg #[.int .u64 c0, .int .u64 c1, .int .u64 c2, .int .u64 c3] else undef, undef, undef, undef, undef, undef, undef, undef, undef, undef, undef, undef, undef, undef, undef, undef, undef, undef, undef, undef, undef, undef, undef, undef, undef, undef, undef, undef, undef, undef, undef, undef, undef, undef, undef, undef, undef, undef, undef, undef, undef, undef, undef, undef, undef, undef, undef, undef, undef, undef, undef, undef, undef, undef, undef, undef, undef, undef, undef, undef, undef, undef, undef, undef, undef, undef, undef, undef, undef, undef, undef, undef, undef, undef, undef, undef, undef, undef, undef, undef, undef, undef, undef, undef, undef, undef, undef, undef, undef], []⟩) (by kernel_rfl) (by kernel_rfl) ?start ?step ?done
  case start => exact ⟨0, 0, 0, ⟨rfl, rfl, rfl, Nat.le_refl _, fun _ _ _ => rfl⟩, by simp, by simp, by simp, by simp, by simp, by simp, by simp, by simp, by simp, by simp⟩
  case step =>
    intro i o b a w1 ho hI hb hr
    obtain ⟨g6, g7, g8, hF, h6, h7, h8, p67, p68, p78, hq6, hq7, hq8, rfl⟩ := hI
    match i, ho with
    | 0, ho =>
      injection ho with ho
      subst ho
      refine wp_quiet_here _ (quiet_load 22 (.tmp 3) rfl (w.heap.size) rfl 22 _ (0, 0) _ (fun _ h => Calm.at (Calm.at HW.out.1 hF) h) Try.underlying22 rfl H0.out rfl) (fun w2 hw2 => ?_)
      refine ⟨g6, g7, g8, hF.trans hw2, ?_, ?_, ?_, ?_, ?_, ?_, ?_, ?_, ?_, ?_⟩
      · intro hx
        obtain ⟨k1, k2⟩ := h6 (by simpa [upd] using hx)
        refine ⟨k1, (hw2.block _ (heap_lt k2) (fun x => x)).trans ?_⟩
        rw [k2]
        simp [upd]
      · intro hx
        obtain ⟨k1, k2⟩ := h7 (by simpa [upd] using hx)
        refine ⟨k1, (hw2.block _ (heap_lt k2) (fun x => x)).trans ?_⟩
        rw [k2]
        simp [upd]
      · intro hx
        obtain ⟨k1, k2⟩ := h8 (by simpa [upd] using hx)
        refine ⟨k1, (hw2.block _ (heap_lt k2) (fun x => x)).trans ?_⟩
        rw [k2]
        simp [upd]
      · intro hx hy
        exact p67 (by simpa [upd] using hx) (by simpa [upd] using hy)
      · intro hx hy
        exact p68 (by simpa [upd] using hx) (by simpa [upd] using hy)
      · intro hx hy
        exact p78 (by simpa [upd] using hx) (by simpa [upd] using hy)
      · simpa [upd] using hq6
      · simpa [upd] using hq7
      · simpa [upd] using hq8
      · simp [upd, Act.put]
    | 1, ho =>
      injection ho with ho
      subst ho
      simp [Region.binds] at hr
      simp only [hr, if_true]
      refine wp_quiet_here (.agg #[.int .u64 a0, .int .u64 a1, .int .u64 a2, .int .u64 a3]) ?_ (fun w2 hw2 => ?_)
      · go_big_quiet_op
        exact ⟨_, Calm.calls f0, by simp [Act.put]⟩
      refine ⟨g6, g7, g8, hF.trans hw2, ?_, ?_, ?_, ?_, ?_, ?_, ?_, ?_, ?_, ?_⟩
      · intro hx
        obtain ⟨k1, k2⟩ := h6 (by simpa [upd] using hx)
        refine ⟨k1, (hw2.block _ (heap_lt k2) (fun x => x)).trans ?_⟩
        rw [k2]
        simp [upd]
      · intro hx
        obtain ⟨k1, k2⟩ := h7 (by simpa [upd] using hx)
        refine ⟨k1, (hw2.block _ (heap_lt k2) (fun x => x)).trans ?_⟩
        rw [k2]
        simp [upd]
      · intro hx
        obtain ⟨k1, k2⟩ := h8 (by simpa [upd] using hx)
        refine ⟨k1, (hw2.block _ (heap_lt k2) (fun x => x)).trans ?_⟩
        rw [k2]
        simp [upd]
      · intro hx hy
        exact p67 (by simpa [upd] using hx) (by simpa [upd] using hy)
      · intro hx hy
        exact p68 (by simpa [upd] using hx) (by simpa [upd] using hy)
      · intro hx hy
        exact p78 (by simpa [upd] using hx) (by simpa [upd] using hy)
      · simpa [upd] using hq6
      · simpa [upd] using hq7
      · simpa [upd] using hq8
      · simp [upd, Act.put, hr]
    | 2, ho =>
      injection ho with ho
      subst ho
      refine wp_quiet_here _ (quiet_load 22 (.tmp 4) rfl (w.heap.size + 1) rfl 22 _ (0, 0) _ (fun _ h => Calm.at (Calm.at HW.out.2.1 hF) h) Try.underlying22 rfl H1.out rfl) (fun w2 hw2 => ?_)
      refine ⟨g6, g7, g8, hF.trans hw2, ?_, ?_, ?_, ?_, ?_, ?_, ?_, ?_, ?_, ?_⟩
      · intro hx
        obtain ⟨k1, k2⟩ := h6 (by simpa [upd] using hx)
        refine ⟨k1, (hw2.block _ (heap_lt k2) (fun x => x)).trans ?_⟩
        rw [k2]
        simp [upd]
      · intro hx
        obtain ⟨k1, k2⟩ := h7 (by simpa [upd] using hx)
        refine ⟨k1, (hw2.block _ (heap_lt k2) (fun x => x)).trans ?_⟩
        rw [k2]
        simp [upd]
      · intro hx
        obtain ⟨k1, k2⟩ := h8 (by simpa [upd] using hx)
        refine ⟨k1, (hw2.block _ (heap_lt k2) (fun x => x)).trans ?_⟩
        rw [k2]
        simp [upd]
      · intro hx hy
        exact p67 (by simpa [upd] using hx) (by simpa [upd] using hy)
      · intro hx hy
        exact p68 (by simpa [upd] using hx) (by simpa [upd] using hy)
      · intro hx hy
        exact p78 (by simpa [upd] using hx) (by simpa [upd] using hy)
      · simpa [upd] using hq6
      · simpa [upd] using hq7
      · simpa [upd] using hq8
      · simp [upd, Act.put]
    | 3, ho =>
      injection ho with ho
      subst ho
      simp [Region.binds] at hr
      simp only [hr, if_true]
      refine wp_quiet_here (.agg #[.int .u64 b0, .int .u64 b1, .int .u64 b2, .int .u64 b3]) ?_ (fun w2 hw2 => ?_)
      · go_big_quiet_op
        exact ⟨_, Calm.calls f1, by simp [Act.put]⟩
      refine ⟨g6, g7, g8, hF.trans hw2, ?_, ?_, ?_, ?_, ?_, ?_, ?_, ?_, ?_, ?_⟩
      · intro hx
        obtain ⟨k1, k2⟩ := h6 (by simpa [upd] using hx)
        refine ⟨k1, (hw2.block _ (heap_lt k2) (fun x => x)).trans ?_⟩
        rw [k2]
        simp [upd]
      · intro hx
        obtain ⟨k1, k2⟩ := h7 (by simpa [upd] using hx)
        refine ⟨k1, (hw2.block _ (heap_lt k2) (fun x => x)).trans ?_⟩
        rw [k2]
        simp [upd]
      · intro hx
        obtain ⟨k1, k2⟩ := h8 (by simpa [upd] using hx)
        refine ⟨k1, (hw2.block _ (heap_lt k2) (fun x => x)).trans ?_⟩
        rw [k2]
        simp [upd]
      · intro hx hy
        exact p67 (by simpa [upd] using hx) (by simpa [upd] using hy)
      · intro hx hy
        exact p68 (by simpa [upd] using hx) (by simpa [upd] using hy)
      · intro hx hy
        exact p78 (by simpa [upd] using hx) (by simpa [upd] using hy)
      · simpa [upd] using hq6
      · simpa [upd] using hq7
      · simpa [upd] using hq8
      · simp [upd, Act.put, hr]
    | 4, ho =>
      injection ho with ho
      subst ho
      refine wp_quiet_here _ (quiet_load 22 (.tmp 5) rfl (w.heap.size + 1 + 1) rfl 22 _ (0, 0) _ (fun _ h => Calm.at (Calm.at HW.out.2.2.1 hF) h) Try.underlying22 rfl H2.out rfl) (fun w2 hw2 => ?_)
      refine ⟨g6, g7, g8, hF.trans hw2, ?_, ?_, ?_, ?_, ?_, ?_, ?_, ?_, ?_, ?_⟩
      · intro hx
        obtain ⟨k1, k2⟩ := h6 (by simpa [upd] using hx)
        refine ⟨k1, (hw2.block _ (heap_lt k2) (fun x => x)).trans ?_⟩
        rw [k2]
        simp [upd]
      · intro hx
        obtain ⟨k1, k2⟩ := h7 (by simpa [upd] using hx)
        refine ⟨k1, (hw2.block _ (heap_lt k2) (fun x => x)).trans ?_⟩
        rw [k2]
        simp [upd]
      · intro hx
        obtain ⟨k1, k2⟩ := h8 (by simpa [upd] using hx)
        refine ⟨k1, (hw2.block _ (heap_lt k2) (fun x => x)).trans ?_⟩
        rw [k2]
        simp [upd]
      · intro hx hy
        exact p67 (by simpa [upd] using hx) (by simpa [upd] using hy)
      · intro hx hy
        exact p68 (by simpa [upd] using hx) (by simpa [upd] using hy)
      · intro hx hy
        exact p78 (by simpa [upd] using hx) (by simpa [upd] using hy)
      · simpa [upd] using hq6
      · simpa [upd] using hq7
      · simpa [upd] using hq8
      · simp [upd, Act.put]
    | 5, ho =>
      injection ho with ho
      subst ho
      simp [Region.binds] at hr
      simp only [hr, if_true]
      refine wp_quiet_here (.agg #[.int .u64 c0, .int .u64 c1, .int .u64 c2, .int .u64 c3]) ?_ (fun w2 hw2 => ?_)
      · go_big_quiet_op
        exact ⟨_, Calm.calls f2, by simp [Act.put]⟩
      refine ⟨g6, g7, g8, hF.trans hw2, ?_, ?_, ?_, ?_, ?_, ?_, ?_, ?_, ?_, ?_⟩
      · intro hx
        obtain ⟨k1, k2⟩ := h6 (by simpa [upd] using hx)
        refine ⟨k1, (hw2.block _ (heap_lt k2) (fun x => x)).trans ?_⟩
        rw [k2]
        simp [upd]
      · intro hx
        obtain ⟨k1, k2⟩ := h7 (by simpa [upd] using hx)
        refine ⟨k1, (hw2.block _ (heap_lt k2) (fun x => x)).trans ?_⟩
        rw [k2]
        simp [upd]
      · intro hx
        obtain ⟨k1, k2⟩ := h8 (by simpa [upd] using hx)
        refine ⟨k1, (hw2.block _ (heap_lt k2) (fun x => x)).trans ?_⟩
        rw [k2]
        simp [upd]
      · intro hx hy
        exact p67 (by simpa [upd] using hx) (by simpa [upd] using hy)
      · intro hx hy
        exact p68 (by simpa [upd] using hx) (by simpa [upd] using hy)
      · intro hx hy
        exact p78 (by simpa [upd] using hx) (by simpa [upd] using hy)
      · simpa [upd] using hq6
      · simpa [upd] using hq7
      · simpa [upd] using hq8
      · simp [upd, Act.put, hr]
    | 6, ho =>
      injection ho with ho
      subst ho
      refine wp_alloc_any 28 rfl (#[.int .u64 0, .int .u64 0, .int .u64 0, .int .u64 0]) z28a ?_
      refine ⟨w1.heap.size, g7, g8, hF.alloc _, ?_, ?_, ?_, ?_, ?_, ?_, ?_, ?_, ?_, ?_⟩
      · intro _
        refine ⟨hF.size, (heap_alloc_new w1 _).trans ?_⟩
        have hs : b 9 = false := by
          rcases hbs : b 9 with _ | _
          · rfl
          · rw [hq6 hbs] at hb
            cases hb
        simp [upd, hs]
      · intro hx
        obtain ⟨k1, k2⟩ := h7 (by simpa [upd] using hx)
        refine ⟨k1, (Below.heap_alloc w1 _ _ (heap_lt k2)).trans ?_⟩
        rw [k2]
        simp [upd]
      · intro hx
        obtain ⟨k1, k2⟩ := h8 (by simpa [upd] using hx)
        refine ⟨k1, (Below.heap_alloc w1 _ _ (heap_lt k2)).trans ?_⟩
        rw [k2]
        simp [upd]
      · intro _ hy
        have := heap_lt (h7 (by simpa [upd] using hy)).2
        omega
      · intro _ hy
        have := heap_lt (h8 (by simpa [upd] using hy)).2
        omega
      · intro hx hy
        exact p78 (by simpa [upd] using hx) (by simpa [upd] using hy)
      · simp [upd]
      · simpa [upd] using hq7
      · simpa [upd] using hq8
      · simp [upd, Act.put]
    | 7, ho =>
      injection ho with ho
      subst ho
      refine wp_alloc_any 28 rfl (#[.int .u64 0, .int .u64 0, .int .u64 0, .int .u64 0]) z28a ?_
      refine ⟨g6, w1.heap.size, g8, hF.alloc _, ?_, ?_, ?_, ?_, ?_, ?_, ?_, ?_, ?_, ?_⟩
      · intro hx
        obtain ⟨k1, k2⟩ := h6 (by simpa [upd] using hx)
        refine ⟨k1, (Below.heap_alloc w1 _ _ (heap_lt k2)).trans ?_⟩
        rw [k2]
        simp [upd]
      · intro _
        refine ⟨hF.size, (heap_alloc_new w1 _).trans ?_⟩
        have hs : b 10 = false := by
          rcases hbs : b 10 with _ | _
          · rfl
          · rw [hq7 hbs] at hb
            cases hb
        simp [upd, hs]
      · intro hx
        obtain ⟨k1, k2⟩ := h8 (by simpa [upd] using hx)
        refine ⟨k1, (Below.heap_alloc w1 _ _ (heap_lt k2)).trans ?_⟩
        rw [k2]
        simp [upd]
      · intro hx _
        have := heap_lt (h6 (by simpa [upd] using hx)).2
        omega
      · intro hx hy
        exact p68 (by simpa [upd] using hx) (by simpa [upd] using hy)
      · intro _ hy
        have := heap_lt (h8 (by simpa [upd] using hy)).2
        omega
      · simpa [upd] using hq6
      · simp [upd]
      · simpa [upd] using hq8
      · simp [upd, Act.put]
    | 8, ho =>
      injection ho with ho
      subst ho
      refine wp_alloc_any 28 rfl (#[.int .u64 0, .int .u64 0, .int .u64 0, .int .u64 0]) z28a ?_
      refine ⟨g6, g7, w1.heap.size, hF.alloc _, ?_, ?_, ?_, ?_, ?_, ?_, ?_, ?_, ?_, ?_⟩
      · intro hx
        obtain ⟨k1, k2⟩ := h6 (by simpa [upd] using hx)
        refine ⟨k1, (Below.heap_alloc w1 _ _ (heap_lt k2)).trans ?_⟩
        rw [k2]
        simp [upd]
      · intro hx
        obtain ⟨k1, k2⟩ := h7 (by simpa [upd] using hx)
        refine ⟨k1, (Below.heap_alloc w1 _ _ (heap_lt k2)).trans ?_⟩
        rw [k2]
        simp [upd]
      · intro _
        refine ⟨hF.size, (heap_alloc_new w1 _).trans ?_⟩
        have hs : b 11 = false := by
          rcases hbs : b 11 with _ | _
          · rfl
          · rw [hq8 hbs] at hb
            cases hb
        simp [upd, hs]
      · intro hx hy
        exact p67 (by simpa [upd] using hx) (by simpa [upd] using hy)
      · intro hx _
        have := heap_lt (h6 (by simpa [upd] using hx)).2
        omega
      · intro hx _
        have := heap_lt (h7 (by simpa [upd] using hx)).2
        omega
      · simpa [upd] using hq6
      · simpa [upd] using hq7
      · simp [upd]
      · simp [upd, Act.put]
    | 9, ho =>
      injection ho with ho
      subst ho
      simp [Region.binds] at hr
      obtain ⟨k1, k2⟩ := h6 (by simp [hr])
      rw [hb] at k2
      simp only [Bool.false_eq_true, if_false] at k2
      simp only [hr, if_true]
      refine wp_store_row 28 (.tmp 7) (.tmp 11) rfl g6 (#[.int .u64 a0, .int .u64 a1, .int .u64 a2, .int .u64 a3]) rfl rfl 28 _ k2 size28 rfl (vs_all .u64 [a0, a1, a2, a3]) ?_
      refine ⟨g6, g7, g8, hF.setRow _ (.inr k1), ?_, ?_, ?_, ?_, ?_, ?_, ?_, ?_, ?_, ?_⟩
      · intro _
        refine ⟨k1, (setRow_heap _ _ _ _ _ _ k2).trans ?_⟩
        simp [upd]
      · intro hx
        obtain ⟨j1, j2⟩ := h7 (by simpa [upd] using hx)
        refine ⟨j1, (setRow_other _ _ _ _ (fun e => (p67 (by simp [hr]) (by simp [hr])) e.symm)).trans ?_⟩
        rw [j2]
        simp [upd]
      · intro hx
        obtain ⟨j1, j2⟩ := h8 (by simpa [upd] using hx)
        refine ⟨j1, (setRow_other _ _ _ _ (fun e => (p68 (by simp [hr]) (by simp [hr])) e.symm)).trans ?_⟩
        rw [j2]
        simp [upd]
      · intro hx hy
        exact p67 (by simpa [upd] using hx) (by simpa [upd] using hy)
      · intro hx hy
        exact p68 (by simpa [upd] using hx) (by simpa [upd] using hy)
      · intro hx hy
        exact p78 (by simpa [upd] using hx) (by simpa [upd] using hy)
      · simp [upd, hr]
      · simpa [upd] using hq7
      · simpa [upd] using hq8
      · simp [upd, Act.put, hr]
    | 10, ho =>
      injection ho with ho
      subst ho
      simp [Region.binds] at hr
      obtain ⟨k1, k2⟩ := h7 (by simp [hr])
      rw [hb] at k2
      simp only [Bool.false_eq_true, if_false] at k2
      simp only [hr, if_true]
      refine wp_store_row 28 (.tmp 8) (.tmp 13) rfl g7 (#[.int .u64 b0, .int .u64 b1, .int .u64 b2, .int .u64 b3]) rfl rfl 28 _ k2 size28 rfl (vs_all .u64 [b0, b1, b2, b3]) ?_
      refine ⟨g6, g7, g8, hF.setRow _ (.inr k1), ?_, ?_, ?_, ?_, ?_, ?_, ?_, ?_, ?_, ?_⟩
      · intro hx
        obtain ⟨j1, j2⟩ := h6 (by simpa [upd] using hx)
        refine ⟨j1, (setRow_other _ _ _ _ (fun e => (p67 (by simp [hr]) (by simp [hr])) e)).trans ?_⟩
        rw [j2]
        simp [upd]
      · intro _
        refine ⟨k1, (setRow_heap _ _ _ _ _ _ k2).trans ?_⟩
        simp [upd]
      · intro hx
        obtain ⟨j1, j2⟩ := h8 (by simpa [upd] using hx)
        refine ⟨j1, (setRow_other _ _ _ _ (fun e => (p78 (by simp [hr]) (by simp [hr])) e.symm)).trans ?_⟩
        rw [j2]
        simp [upd]
      · intro hx hy
        exact p67 (by simpa [upd] using hx) (by simpa [upd] using hy)
      · intro hx hy
        exact p68 (by simpa [upd] using hx) (by simpa [upd] using hy)
      · intro hx hy
        exact p78 (by simpa [upd] using hx) (by simpa [upd] using hy)
      · simpa [upd] using hq6
      · simp [upd, hr]
      · simpa [upd] using hq8
      · simp [upd, Act.put, hr]
    | 11, ho =>
      injection ho with ho
      subst ho
      simp [Region.binds] at hr
      obtain ⟨k1, k2⟩ := h8 (by simp [hr])
      rw [hb] at k2
      simp only [Bool.false_eq_true, if_false] at k2
      simp only [hr, if_true]
      refine wp_store_row 28 (.tmp 9) (.tmp 15) rfl g8 (#[.int .u64 c0, .int .u64 c1, .int .u64 c2, .int .u64 c3]) rfl rfl 28 _ k2 size28 rfl (vs_all .u64 [c0, c1, c2, c3]) ?_
      refine ⟨g6, g7, g8, hF.setRow _ (.inr k1), ?_, ?_, ?_, ?_, ?_, ?_, ?_, ?_, ?_, ?_⟩
      · intro hx
        obtain ⟨j1, j2⟩ := h6 (by simpa [upd] using hx)
        refine ⟨j1, (setRow_other _ _ _ _ (fun e => (p68 (by simp [hr]) (by simp [hr])) e)).trans ?_⟩
        rw [j2]
        simp [upd]
      · intro hx
        obtain ⟨j1, j2⟩ := h7 (by simpa [upd] using hx)
        refine ⟨j1, (setRow_other _ _ _ _ (fun e => (p78 (by simp [hr]) (by simp [hr])) e)).trans ?_⟩
        rw [j2]
        simp [upd]
      · intro _
        refine ⟨k1, (setRow_heap _ _ _ _ _ _ k2).trans ?_⟩
        simp [upd]
      · intro hx hy
        exact p67 (by simpa [upd] using hx) (by simpa [upd] using hy)
      · intro hx hy
        exact p68 (by simpa [upd] using hx) (by simpa [upd] using hy)
      · intro hx hy
        exact p78 (by simpa [upd] using hx) (by simpa [upd] using hy)
      · simpa [upd] using hq6
      · simpa [upd] using hq7
      · simp [upd, hr]
      · simp [upd, Act.put, hr]
    | j + 12, ho => exact absurd ho (by simp)
  case done =>
    intro b a w1 hall hI
    obtain ⟨g6, g7, g8, hF, h6, h7, h8, p67, p68, p78, hq6, hq7, hq8, rfl⟩ := hI
    have t0 : b 0 = true := hall 0 (by simp)
    have t1 : b 1 = true := hall 1 (by simp)
    have t2 : b 2 = true := hall 2 (by simp)
    have t3 : b 3 = true := hall 3 (by simp)
    have t4 : b 4 = true := hall 4 (by simp)
    have t5 : b 5 = true := hall 5 (by simp)
    have t6 : b 6 = true := hall 6 (by simp)
    have t7 : b 7 = true := hall 7 (by simp)
    have t8 : b 8 = true := hall 8 (by simp)
    have t9 : b 9 = true := hall 9 (by simp)
    have t10 : b 10 = true := hall 10 (by simp)
    have t11 : b 11 = true := hall 11 (by simp)
    simp only [t0, t1, t2, t3, t4, t5, t6, t7, t8, t9, t10, t11, if_true, true_implies] at h6 h7 h8 p67 p68 p78 hq6 hq7 hq8 ⊢
    have X7 := Lib.hid h6.2
    have X8 := Lib.hid h7.2
    have X9 := Lib.hid h8.2
    have Fw1 : Hid (Fr (fun _ => False) w w1) := HW.out.2.2.2.trans hF
    clear h6 h7 h8 p67 p68 p78 hq6 hq7 hq8 hall hF f0 f1 f2
    obtain ⟨eu, ev, et, hA, hB, hC⟩ := HH.out
    obtain ⟨r1, e1⟩ : ∃ r, (u + v) % pp = r := ⟨_, rfl⟩
    obtain ⟨r2, e2⟩ : ∃ r, (v + u) % pp = r := ⟨_, rfl⟩
    obtain ⟨r4, e4⟩ : ∃ r, (u * v) % pp = r := ⟨_, rfl⟩
    obtain ⟨r5, e5⟩ : ∃ r, (v * u) % pp = r := ⟨_, rfl⟩
    obtain ⟨r7, e7⟩ : ∃ r, (r1 + t) % pp = r := ⟨_, rfl⟩
    obtain ⟨r8, e8⟩ : ∃ r, (v + t) % pp = r := ⟨_, rfl⟩
    obtain ⟨r9, e9⟩ : ∃ r, (u + r8) % pp = r := ⟨_, rfl⟩
    obtain ⟨r11, e11⟩ : ∃ r, (r4 * t) % pp = r := ⟨_, rfl⟩
    obtain ⟨r12, e12⟩ : ∃ r, (v * t) % pp = r := ⟨_, rfl⟩
    obtain ⟨r13, e13⟩ : ∃ r, (u * r12) % pp = r := ⟨_, rfl⟩
    obtain ⟨r15, e15⟩ : ∃ r, (u * r8) % pp = r := ⟨_, rfl⟩
    obtain ⟨r16, e16⟩ : ∃ r, (u * t) % pp = r := ⟨_, rfl⟩
    obtain ⟨r17, e17⟩ : ∃ r, (r4 + r16) % pp = r := ⟨_, rfl⟩
    obtain ⟨r19, e19⟩ : ∃ r, (u - v) % pp = r := ⟨_, rfl⟩
    have d1 := fun W => add_w hA hB e1 W
    have d2 := fun W => add_w hB hA e2 W
    have d3 := fun W => same_yes r1 r2 W (El.of e1) (El.of e2) (by rw [← e1, ← e2, Int.add_comm])
    have d4 := fun W => mul_w hA hB e4 W
    have d5 := fun W => mul_w hB hA e5 W
    have d6 := fun W => same_yes r4 r5 W (El.of e4) (El.of e5) (by rw [← e4, ← e5, Int.mul_comm])
    have d7 := fun W => add_wr hC (El.of e1) e7 W
    have d8 := fun W => add_w hB hC e8 W
    have d9 := fun W => add_wl hA (El.of e8) e9 W
    have d10 := fun W => same_yes r7 r9 W (El.of e7) (El.of e9) (by rw [← e7, ← e9, ← e1, ← e8, am1, am2, Int.add_assoc])
    have d11 := fun W => mul_wr hC (El.of e4) e11 W
    have d12 := fun W => mul_w hB hC e12 W
    have d13 := fun W => mul_wl hA (El.of e12) e13 W
    have d14 := fun W => same_yes r11 r13 W (El.of e11) (El.of e13) (by rw [← e11, ← e13, ← e4, ← e12, mm1, mm2, Int.mul_assoc])
    have d15 := fun W => mul_wl hA (El.of e8) e15 W
    have d16 := fun W => mul_w hA hC e16 W
    have d17 := fun W => add_is r4 r16 r17 W (El.of e4) (El.of e16) e17
    have d18 := fun W => same_yes r15 r17 W (El.of e15) (El.of e17) (by rw [← e15, ← e17, ← e4, ← e16, ← e8, mm2, am1, am2, Int.mul_add])
    have d19 := fun W => sub_w hA hB e19 W
    have d20 := fun W => add_wr hB (El.of e19) (r := u) (by rw [← e19, am1, Int.sub_add_cancel]; exact Int.emod_eq_of_lt eu.1 eu.2) W
    have d21 := fun W => same_w2 hA eu rfl W
    have d22 : ∀ W, Calls Try.prog 23 #[.agg #[.int .u64 a0, .int .u64 a1, .int .u64 a2, .int .u64 a3], .agg #[.int .u64 a0, .int .u64 a1, .int .u64 a2, .int .u64 a3]] W fun e w' => e = .returned (el 0) ∧ Fr (fun _ => False) W w' := fun W => sub_w hA hA (by rw [Int.sub_self]; decide) W
    have d23 := zero_yes
    have d24 := fun W => small_is 1 W (by decide) (by decide)
    have d25 := fun W => mul_wl hA (v := 1) ⟨by decide, by decide⟩ (r := u) (by rw [Int.mul_one]; exact Int.emod_eq_of_lt eu.1 eu.2) W
    have d26 := fun W => same_w2 hA eu rfl W
    have d27 := fun W => small_is 0 W (by decide) (by decide)
    have d28 := fun W => add_wl hA (v := 0) ⟨by decide, by decide⟩ (r := u) (by rw [Int.add_zero]; exact Int.emod_eq_of_lt eu.1 eu.2) W
    have d29 := awake_is
    clear e1 e2 e4 e5 e7 e8 e9 e11 e12 e13 e15 e16 e17 e19
    clear eu ev et hA hB hC
    go_upto_region 2 with (fail)
    refine wp_region_quiet (C := Calm w1) (by kernel_rfl) (by kernel_rfl) (Calm.start _ _ (Fr.refl _ _)) ?_
    refine BigFrame.wpQuiet_want rfl fun K hK => quiet_load 28 (.tmp 7) rfl (g6) rfl 28 _ (0, 0) _ (fun _ h => Calm.at X7.out h) Try.underlying28 rfl size28 (hK _ ?_)
    refine BigFrame.wpQuiet_want rfl fun K hK => quiet_load 28 (.tmp 8) rfl (g7) rfl 28 _ (0, 0) _ (fun _ h => Calm.at X8.out h) Try.underlying28 rfl size28 (hK _ ?_)
    refine BigFrame.wpQuiet_want rfl fun K hK => ?_
    try simp only [Act.put, List.setIfInBounds_toArray, List.set_cons_succ, List.set_cons_zero]
    go_big_quiet_op
    refine ⟨_, Calm.calls d1, hK _ ?_⟩
    refine BigFrame.wpQuiet_want rfl fun K hK => quiet_load 28 (.tmp 8) rfl (g7) rfl 28 _ (0, 0) _ (fun _ h => Calm.at X8.out h) Try.underlying28 rfl size28 (hK _ ?_)
    refine BigFrame.wpQuiet_want rfl fun K hK => quiet_load 28 (.tmp 7) rfl (g6) rfl 28 _ (0, 0) _ (fun _ h => Calm.at X7.out h) Try.underlying28 rfl size28 (hK _ ?_)
    refine BigFrame.wpQuiet_want rfl fun K hK => ?_
    try simp only [Act.put, List.setIfInBounds_toArray, List.set_cons_succ, List.set_cons_zero]
    go_big_quiet_op
    refine ⟨_, Calm.calls d2, hK _ ?_⟩
    refine BigFrame.wpQuiet_want rfl fun K hK => ?_
    try simp only [Act.put, List.setIfInBounds_toArray, List.set_cons_succ, List.set_cons_zero]
    go_big_quiet_op
    refine ⟨_, Calm.calls d3, hK _ ?_⟩
    refine BigFrame.wpQuiet_want rfl fun K hK => ?_
    try simp only [Act.put, List.setIfInBounds_toArray, List.set_cons_succ, List.set_cons_zero]
    go_big_quiet_op
    refine ⟨_, fun _ _ => rfl, hK _ ?_⟩
    refine BigFrame.wpQuiet_want rfl fun K hK => ?_
    try simp only [Act.put, List.setIfInBounds_toArray, List.set_cons_succ, List.set_cons_zero]
    go_big_quiet_op
    refine hK _ ?_
    refine BigFrame.wpQuiet_want rfl fun K hK => quiet_load 28 (.tmp 7) rfl (g6) rfl 28 _ (0, 0) _ (fun _ h => Calm.at X7.out h) Try.underlying28 rfl size28 (hK _ ?_)
    refine BigFrame.wpQuiet_want rfl fun K hK => quiet_load 28 (.tmp 8) rfl (g7) rfl 28 _ (0, 0) _ (fun _ h => Calm.at X8.out h) Try.underlying28 rfl size28 (hK _ ?_)
    refine BigFrame.wpQuiet_want rfl fun K hK => ?_
    try simp only [Act.put, List.setIfInBounds_toArray, List.set_cons_succ, List.set_cons_zero]
    go_big_quiet_op
    refine ⟨_, Calm.calls d4, hK _ ?_⟩
    refine BigFrame.wpQuiet_want rfl fun K hK => quiet_load 28 (.tmp 8) rfl (g7) rfl 28 _ (0, 0) _ (fun _ h => Calm.at X8.out h) Try.underlying28 rfl size28 (hK _ ?_)
    refine BigFrame.wpQuiet_want rfl fun K hK => quiet_load 28 (.tmp 7) rfl (g6) rfl 28 _ (0, 0) _ (fun _ h => Calm.at X7.out h) Try.underlying28 rfl size28 (hK _ ?_)
    refine BigFrame.wpQuiet_want rfl fun K hK => ?_
    try simp only [Act.put, List.setIfInBounds_toArray, List.set_cons_succ, List.set_cons_zero]
    go_big_quiet_op
    refine ⟨_, Calm.calls d5, hK _ ?_⟩
    refine BigFrame.wpQuiet_want rfl fun K hK => ?_
    try simp only [Act.put, List.setIfInBounds_toArray, List.set_cons_succ, List.set_cons_zero]
    go_big_quiet_op
    refine ⟨_, Calm.calls d6, hK _ ?_⟩
    refine BigFrame.wpQuiet_want rfl fun K hK => ?_
    try simp only [Act.put, List.setIfInBounds_toArray, List.set_cons_succ, List.set_cons_zero]
    go_big_quiet_op
    refine ⟨_, fun _ _ => rfl, hK _ ?_⟩
    refine BigFrame.wpQuiet_want rfl fun K hK => ?_
    try simp only [Act.put, List.setIfInBounds_toArray, List.set_cons_succ, List.set_cons_zero]
    go_big_quiet_op
    refine ⟨_, fun _ _ => rfl, hK _ ?_⟩
    refine wpQuiet_nil ?_
    intro w2 hw
    have Fw2 : Hid (Fr (fun _ => False) w w2) := Fw1.out.trans hw
    have Y7 := Lib.hid (Calm.at X7.out hw)
    have Y8 := Lib.hid (Calm.at X8.out hw)
    have Y9 := Lib.hid (Calm.at X9.out hw)
    clear hw Fw1 X7 X8 X9 d2 d3 d5 d6
    try simp only [Act.put, List.setIfInBounds_toArray, List.set_cons_succ, List.set_cons_zero]
    go_upto_region 4 with (fail)
    refine wp_region_quiet (C := Calm w2) (by kernel_rfl) (by kernel_rfl) (Calm.start _ _ (Fr.refl _ _)) ?_
    refine BigFrame.wpQuiet_want rfl fun K hK => quiet_load 28 (.tmp 7) rfl (g6) rfl 28 _ (0, 0) _ (fun _ h => Calm.at Y7.out h) Try.underlying28 rfl size28 (hK _ ?_)
    refine BigFrame.wpQuiet_want rfl fun K hK => quiet_load 28 (.tmp 8) rfl (g7) rfl 28 _ (0, 0) _ (fun _ h => Calm.at Y8.out h) Try.underlying28 rfl size28 (hK _ ?_)
    refine BigFrame.wpQuiet_want rfl fun K hK => ?_
    try simp only [Act.put, List.setIfInBounds_toArray, List.set_cons_succ, List.set_cons_zero]
    go_big_quiet_op
    refine ⟨_, Calm.calls d1, hK _ ?_⟩
    refine BigFrame.wpQuiet_want rfl fun K hK => quiet_load 28 (.tmp 9) rfl (g8) rfl 28 _ (0, 0) _ (fun _ h => Calm.at Y9.out h) Try.underlying28 rfl size28 (hK _ ?_)
    refine BigFrame.wpQuiet_want rfl fun K hK => ?_
    try simp only [Act.put, List.setIfInBounds_toArray, List.set_cons_succ, List.set_cons_zero]
    go_big_quiet_op
    refine ⟨_, Calm.calls d7, hK _ ?_⟩
    refine BigFrame.wpQuiet_want rfl fun K hK => quiet_load 28 (.tmp 7) rfl (g6) rfl 28 _ (0, 0) _ (fun _ h => Calm.at Y7.out h) Try.underlying28 rfl size28 (hK _ ?_)
    refine BigFrame.wpQuiet_want rfl fun K hK => quiet_load 28 (.tmp 8) rfl (g7) rfl 28 _ (0, 0) _ (fun _ h => Calm.at Y8.out h) Try.underlying28 rfl size28 (hK _ ?_)
    refine BigFrame.wpQuiet_want rfl fun K hK => quiet_load 28 (.tmp 9) rfl (g8) rfl 28 _ (0, 0) _ (fun _ h => Calm.at Y9.out h) Try.underlying28 rfl size28 (hK _ ?_)
    refine BigFrame.wpQuiet_want rfl fun K hK => ?_
    try simp only [Act.put, List.setIfInBounds_toArray, List.set_cons_succ, List.set_cons_zero]
    go_big_quiet_op
    refine ⟨_, Calm.calls d8, hK _ ?_⟩
    refine BigFrame.wpQuiet_want rfl fun K hK => ?_
    try simp only [Act.put, List.setIfInBounds_toArray, List.set_cons_succ, List.set_cons_zero]
    go_big_quiet_op
    refine ⟨_, Calm.calls d9, hK _ ?_⟩
    refine BigFrame.wpQuiet_want rfl fun K hK => ?_
    try simp only [Act.put, List.setIfInBounds_toArray, List.set_cons_succ, List.set_cons_zero]
    go_big_quiet_op
    refine ⟨_, Calm.calls d10, hK _ ?_⟩
    refine BigFrame.wpQuiet_want rfl fun K hK => ?_
    try simp only [Act.put, List.setIfInBounds_toArray, List.set_cons_succ, List.set_cons_zero]
    go_big_quiet_op
    refine ⟨_, fun _ _ => rfl, hK _ ?_⟩
    refine BigFrame.wpQuiet_want rfl fun K hK => ?_
    try simp only [Act.put, List.setIfInBounds_toArray, List.set_cons_succ, List.set_cons_zero]
    go_big_quiet_op
    refine hK _ ?_
    refine BigFrame.wpQuiet_want rfl fun K hK => quiet_load 28 (.tmp 7) rfl (g6) rfl 28 _ (0, 0) _ (fun _ h => Calm.at Y7.out h) Try.underlying28 rfl size28 (hK _ ?_)
    refine BigFrame.wpQuiet_want rfl fun K hK => quiet_load 28 (.tmp 8) rfl (g7) rfl 28 _ (0, 0) _ (fun _ h => Calm.at Y8.out h) Try.underlying28 rfl size28 (hK _ ?_)
    refine BigFrame.wpQuiet_want rfl fun K hK => ?_
    try simp only [Act.put, List.setIfInBounds_toArray, List.set_cons_succ, List.set_cons_zero]
    go_big_quiet_op
    refine ⟨_, Calm.calls d4, hK _ ?_⟩
    refine BigFrame.wpQuiet_want rfl fun K hK => quiet_load 28 (.tmp 9) rfl (g8) rfl 28 _ (0, 0) _ (fun _ h => Calm.at Y9.out h) Try.underlying28 rfl size28 (hK _ ?_)
    refine BigFrame.wpQuiet_want rfl fun K hK => ?_
    try simp only [Act.put, List.setIfInBounds_toArray, List.set_cons_succ, List.set_cons_zero]
    go_big_quiet_op
    refine ⟨_, Calm.calls d11, hK _ ?_⟩
    refine BigFrame.wpQuiet_want rfl fun K hK => quiet_load 28 (.tmp 7) rfl (g6) rfl 28 _ (0, 0) _ (fun _ h => Calm.at Y7.out h) Try.underlying28 rfl size28 (hK _ ?_)
    refine BigFrame.wpQuiet_want rfl fun K hK => quiet_load 28 (.tmp 8) rfl (g7) rfl 28 _ (0, 0) _ (fun _ h => Calm.at Y8.out h) Try.underlying28 rfl size28 (hK _ ?_)
    refine BigFrame.wpQuiet_want rfl fun K hK => quiet_load 28 (.tmp 9) rfl (g8) rfl 28 _ (0, 0) _ (fun _ h => Calm.at Y9.out h) Try.underlying28 rfl size28 (hK _ ?_)
    refine BigFrame.wpQuiet_want rfl fun K hK => ?_
    try simp only [Act.put, List.setIfInBounds_toArray, List.set_cons_succ, List.set_cons_zero]
    go_big_quiet_op
    refine ⟨_, Calm.calls d12, hK _ ?_⟩
    refine BigFrame.wpQuiet_want rfl fun K hK => ?_
    try simp only [Act.put, List.setIfInBounds_toArray, List.set_cons_succ, List.set_cons_zero]
    go_big_quiet_op
    refine ⟨_, Calm.calls d13, hK _ ?_⟩
    refine BigFrame.wpQuiet_want rfl fun K hK => ?_
    try simp only [Act.put, List.setIfInBounds_toArray, List.set_cons_succ, List.set_cons_zero]
    go_big_quiet_op
    refine ⟨_, Calm.calls d14, hK _ ?_⟩
    refine BigFrame.wpQuiet_want rfl fun K hK => ?_
    try simp only [Act.put, List.setIfInBounds_toArray, List.set_cons_succ, List.set_cons_zero]
    go_big_quiet_op
    refine ⟨_, fun _ _ => rfl, hK _ ?_⟩
    refine BigFrame.wpQuiet_want rfl fun K hK => ?_
    try simp only [Act.put, List.setIfInBounds_toArray, List.set_cons_succ, List.set_cons_zero]
    go_big_quiet_op
    refine ⟨_, fun _ _ => rfl, hK _ ?_⟩
    refine wpQuiet_nil ?_
    intro w3 hw
    have Fw3 : Hid (Fr (fun _ => False) w w3) := Fw2.out.trans hw
    have X7 := Lib.hid (Calm.at Y7.out hw)
    have X8 := Lib.hid (Calm.at Y8.out hw)
    have X9 := Lib.hid (Calm.at Y9.out hw)
    clear hw Fw2 Y7 Y8 Y9 d7 d9 d10 d11 d12 d13 d14
    try simp only [Act.put, List.setIfInBounds_toArray, List.set_cons_succ, List.set_cons_zero]
    go_upto_region 6 with (fail)
    refine wp_region_quiet (C := Calm w3) (by kernel_rfl) (by kernel_rfl) (Calm.start _ _ (Fr.refl _ _)) ?_
    refine BigFrame.wpQuiet_want rfl fun K hK => quiet_load 28 (.tmp 7) rfl (g6) rfl 28 _ (0, 0) _ (fun _ h => Calm.at X7.out h) Try.underlying28 rfl size28 (hK _ ?_)
    refine BigFrame.wpQuiet_want rfl fun K hK => quiet_load 28 (.tmp 8) rfl (g7) rfl 28 _ (0, 0) _ (fun _ h => Calm.at X8.out h) Try.underlying28 rfl size28 (hK _ ?_)
    refine BigFrame.wpQuiet_want rfl fun K hK => quiet_load 28 (.tmp 9) rfl (g8) rfl 28 _ (0, 0) _ (fun _ h => Calm.at X9.out h) Try.underlying28 rfl size28 (hK _ ?_)
    refine BigFrame.wpQuiet_want rfl fun K hK => ?_
    try simp only [Act.put, List.setIfInBounds_toArray, List.set_cons_succ, List.set_cons_zero]
    go_big_quiet_op
    refine ⟨_, Calm.calls d8, hK _ ?_⟩
    refine BigFrame.wpQuiet_want rfl fun K hK => ?_
    try simp only [Act.put, List.setIfInBounds_toArray, List.set_cons_succ, List.set_cons_zero]
    go_big_quiet_op
    refine ⟨_, Calm.calls d15, hK _ ?_⟩
    refine BigFrame.wpQuiet_want rfl fun K hK => quiet_load 28 (.tmp 7) rfl (g6) rfl 28 _ (0, 0) _ (fun _ h => Calm.at X7.out h) Try.underlying28 rfl size28 (hK _ ?_)
    refine BigFrame.wpQuiet_want rfl fun K hK => quiet_load 28 (.tmp 8) rfl (g7) rfl 28 _ (0, 0) _ (fun _ h => Calm.at X8.out h) Try.underlying28 rfl size28 (hK _ ?_)
    refine BigFrame.wpQuiet_want rfl fun K hK => ?_
    try simp only [Act.put, List.setIfInBounds_toArray, List.set_cons_succ, List.set_cons_zero]
    go_big_quiet_op
    refine ⟨_, Calm.calls d4, hK _ ?_⟩
    refine BigFrame.wpQuiet_want rfl fun K hK => quiet_load 28 (.tmp 7) rfl (g6) rfl 28 _ (0, 0) _ (fun _ h => Calm.at X7.out h) Try.underlying28 rfl size28 (hK _ ?_)
    refine BigFrame.wpQuiet_want rfl fun K hK => quiet_load 28 (.tmp 9) rfl (g8) rfl 28 _ (0, 0) _ (fun _ h => Calm.at X9.out h) Try.underlying28 rfl size28 (hK _ ?_)
    refine BigFrame.wpQuiet_want rfl fun K hK => ?_
    try simp only [Act.put, List.setIfInBounds_toArray, List.set_cons_succ, List.set_cons_zero]
    go_big_quiet_op
    refine ⟨_, Calm.calls d16, hK _ ?_⟩
    refine BigFrame.wpQuiet_want rfl fun K hK => ?_
    try simp only [Act.put, List.setIfInBounds_toArray, List.set_cons_succ, List.set_cons_zero]
    go_big_quiet_op
    refine ⟨_, Calm.calls d17, hK _ ?_⟩
    refine BigFrame.wpQuiet_want rfl fun K hK => ?_
    try simp only [Act.put, List.setIfInBounds_toArray, List.set_cons_succ, List.set_cons_zero]
    go_big_quiet_op
    refine ⟨_, Calm.calls d18, hK _ ?_⟩
    refine BigFrame.wpQuiet_want rfl fun K hK => ?_
    try simp only [Act.put, List.setIfInBounds_toArray, List.set_cons_succ, List.set_cons_zero]
    go_big_quiet_op
    refine ⟨_, fun _ _ => rfl, hK _ ?_⟩
    refine wpQuiet_nil ?_
    intro w4 hw
    have Fw4 : Hid (Fr (fun _ => False) w w4) := Fw3.out.trans hw
    have Y7 := Lib.hid (Calm.at X7.out hw)
    have Y8 := Lib.hid (Calm.at X8.out hw)
    have Y9 := Lib.hid (Calm.at X9.out hw)
    clear hw Fw3 X7 X8 X9 d8 d15 d16 d17 d18
    try simp only [Act.put, List.setIfInBounds_toArray, List.set_cons_succ, List.set_cons_zero]
    go_upto_region 8 with (fail)
    refine wp_region_quiet (C := Calm w4) (by kernel_rfl) (by kernel_rfl) (Calm.start _ _ (Fr.refl _ _)) ?_
    refine BigFrame.wpQuiet_want rfl fun K hK => quiet_load 28 (.tmp 7) rfl (g6) rfl 28 _ (0, 0) _ (fun _ h => Calm.at Y7.out h) Try.underlying28 rfl size28 (hK _ ?_)
    refine BigFrame.wpQuiet_want rfl fun K hK => quiet_load 28 (.tmp 8) rfl (g7) rfl 28 _ (0, 0) _ (fun _ h => Calm.at Y8.out h) Try.underlying28 rfl size28 (hK _ ?_)
    refine BigFrame.wpQuiet_want rfl fun K hK => ?_
    try simp only [Act.put, List.setIfInBounds_toArray, List.set_cons_succ, List.set_cons_zero]
    go_big_quiet_op
    refine ⟨_, Calm.calls d19, hK _ ?_⟩
    refine BigFrame.wpQuiet_want rfl fun K hK => quiet_load 28 (.tmp 8) rfl (g7) rfl 28 _ (0, 0) _ (fun _ h => Calm.at Y8.out h) Try.underlying28 rfl size28 (hK _ ?_)
    refine BigFrame.wpQuiet_want rfl fun K hK => ?_
    try simp only [Act.put, List.setIfInBounds_toArray, List.set_cons_succ, List.set_cons_zero]
    go_big_quiet_op
    refine ⟨_, Calm.calls d20, hK _ ?_⟩
    refine BigFrame.wpQuiet_want rfl fun K hK => quiet_load 28 (.tmp 7) rfl (g6) rfl 28 _ (0, 0) _ (fun _ h => Calm.at Y7.out h) Try.underlying28 rfl size28 (hK _ ?_)
    refine BigFrame.wpQuiet_want rfl fun K hK => ?_
    try simp only [Act.put, List.setIfInBounds_toArray, List.set_cons_succ, List.set_cons_zero]
    go_big_quiet_op
    refine ⟨_, Calm.calls d21, hK _ ?_⟩
    refine BigFrame.wpQuiet_want rfl fun K hK => ?_
    try simp only [Act.put, List.setIfInBounds_toArray, List.set_cons_succ, List.set_cons_zero]
    go_big_quiet_op
    refine hK _ ?_
    refine BigFrame.wpQuiet_want rfl fun K hK => quiet_load 28 (.tmp 7) rfl (g6) rfl 28 _ (0, 0) _ (fun _ h => Calm.at Y7.out h) Try.underlying28 rfl size28 (hK _ ?_)
    refine BigFrame.wpQuiet_want rfl fun K hK => quiet_load 28 (.tmp 7) rfl (g6) rfl 28 _ (0, 0) _ (fun _ h => Calm.at Y7.out h) Try.underlying28 rfl size28 (hK _ ?_)
    refine BigFrame.wpQuiet_want rfl fun K hK => ?_
    try simp only [Act.put, List.setIfInBounds_toArray, List.set_cons_succ, List.set_cons_zero]
    go_big_quiet_op
    refine ⟨_, Calm.calls d22, hK _ ?_⟩
    refine BigFrame.wpQuiet_want rfl fun K hK => ?_
    try simp only [Act.put, List.setIfInBounds_toArray, List.set_cons_succ, List.set_cons_zero]
    go_big_quiet_op
    refine ⟨_, Calm.calls d23, hK _ ?_⟩
    refine BigFrame.wpQuiet_want rfl fun K hK => ?_
    try simp only [Act.put, List.setIfInBounds_toArray, List.set_cons_succ, List.set_cons_zero]
    go_big_quiet_op
    refine ⟨_, fun _ _ => rfl, hK _ ?_⟩
    refine BigFrame.wpQuiet_want rfl fun K hK => ?_
    try simp only [Act.put, List.setIfInBounds_toArray, List.set_cons_succ, List.set_cons_zero]
    go_big_quiet_op
    refine hK _ ?_
    refine BigFrame.wpQuiet_want rfl fun K hK => quiet_load 28 (.tmp 7) rfl (g6) rfl 28 _ (0, 0) _ (fun _ h => Calm.at Y7.out h) Try.underlying28 rfl size28 (hK _ ?_)
    refine BigFrame.wpQuiet_want rfl fun K hK => ?_
    try simp only [Act.put, List.setIfInBounds_toArray, List.set_cons_succ, List.set_cons_zero]
    go_big_quiet_op
    refine ⟨_, Calm.calls d24, hK _ ?_⟩
    refine BigFrame.wpQuiet_want rfl fun K hK => ?_
    try simp only [Act.put, List.setIfInBounds_toArray, List.set_cons_succ, List.set_cons_zero]
    go_big_quiet_op
    refine ⟨_, Calm.calls d25, hK _ ?_⟩
    refine BigFrame.wpQuiet_want rfl fun K hK => quiet_load 28 (.tmp 7) rfl (g6) rfl 28 _ (0, 0) _ (fun _ h => Calm.at Y7.out h) Try.underlying28 rfl size28 (hK _ ?_)
    refine BigFrame.wpQuiet_want rfl fun K hK => ?_
    try simp only [Act.put, List.setIfInBounds_toArray, List.set_cons_succ, List.set_cons_zero]
    go_big_quiet_op
    refine ⟨_, Calm.calls d26, hK _ ?_⟩
    refine BigFrame.wpQuiet_want rfl fun K hK => ?_
    try simp only [Act.put, List.setIfInBounds_toArray, List.set_cons_succ, List.set_cons_zero]
    go_big_quiet_op
    refine ⟨_, fun _ _ => rfl, hK _ ?_⟩
    refine BigFrame.wpQuiet_want rfl fun K hK => ?_
    try simp only [Act.put, List.setIfInBounds_toArray, List.set_cons_succ, List.set_cons_zero]
    go_big_quiet_op
    refine hK _ ?_
    refine BigFrame.wpQuiet_want rfl fun K hK => quiet_load 28 (.tmp 7) rfl (g6) rfl 28 _ (0, 0) _ (fun _ h => Calm.at Y7.out h) Try.underlying28 rfl size28 (hK _ ?_)
    refine BigFrame.wpQuiet_want rfl fun K hK => ?_
    try simp only [Act.put, List.setIfInBounds_toArray, List.set_cons_succ, List.set_cons_zero]
    go_big_quiet_op
    refine ⟨_, Calm.calls d27, hK _ ?_⟩
    refine BigFrame.wpQuiet_want rfl fun K hK => ?_
    try simp only [Act.put, List.setIfInBounds_toArray, List.set_cons_succ, List.set_cons_zero]
    go_big_quiet_op
    refine ⟨_, Calm.calls d28, hK _ ?_⟩
    refine BigFrame.wpQuiet_want rfl fun K hK => quiet_load 28 (.tmp 7) rfl (g6) rfl 28 _ (0, 0) _ (fun _ h => Calm.at Y7.out h) Try.underlying28 rfl size28 (hK _ ?_)
    refine BigFrame.wpQuiet_want rfl fun K hK => ?_
    try simp only [Act.put, List.setIfInBounds_toArray, List.set_cons_succ, List.set_cons_zero]
    go_big_quiet_op
    refine ⟨_, Calm.calls d26, hK _ ?_⟩
    refine BigFrame.wpQuiet_want rfl fun K hK => ?_
    try simp only [Act.put, List.setIfInBounds_toArray, List.set_cons_succ, List.set_cons_zero]
    go_big_quiet_op
    refine ⟨_, fun _ _ => rfl, hK _ ?_⟩
    refine BigFrame.wpQuiet_want rfl fun K hK => ?_
    try simp only [Act.put, List.setIfInBounds_toArray, List.set_cons_succ, List.set_cons_zero]
    go_big_quiet_op
    refine hK _ ?_
    refine BigFrame.wpQuiet_want rfl fun K hK => ?_
    try simp only [Act.put, List.setIfInBounds_toArray, List.set_cons_succ, List.set_cons_zero]
    go_big_quiet_op
    refine ⟨_, Calm.calls d29, hK _ ?_⟩
    refine BigFrame.wpQuiet_want rfl fun K hK => ?_
    try simp only [Act.put, List.setIfInBounds_toArray, List.set_cons_succ, List.set_cons_zero]
    go_big_quiet_op
    refine ⟨_, fun _ _ => rfl, hK _ ?_⟩
    refine BigFrame.wpQuiet_want rfl fun K hK => ?_
    try simp only [Act.put, List.setIfInBounds_toArray, List.set_cons_succ, List.set_cons_zero]
    go_big_quiet_op
    refine hK _ ?_
    refine wpQuiet_nil ?_
    intro w5 hw
    have Fw5 : Hid (Fr (fun _ => False) w w5) := Fw4.out.trans hw
    have X7 := Lib.hid (Calm.at Y7.out hw)
    have X8 := Lib.hid (Calm.at Y8.out hw)
    have X9 := Lib.hid (Calm.at Y9.out hw)
    clear hw Fw4 Y7 Y8 Y9 
    try simp only [Act.put, List.setIfInBounds_toArray, List.set_cons_succ, List.set_cons_zero]
    go_wp2
    go_ret
    exact ⟨rfl, Fw5.out⟩

set_option maxRecDepth 100000 in
theorem law_ring_lifted (os : Os) (started : os.Started) (H : Type) (enc : TypeId × Value → H) :
    ReturnsInHanded {} Try.checked os 9 .any (Rows.fieldRingSpec.pre6 enc Try.prog Try.f9 Rows.fieldRingRow.domain false) (Rows.fieldRingSpec.post enc Try.prog Try.f9 false true false false) := by
  refine returnsInHanded_of_change (C := Try.checked) own started (by kernel_rfl) Try.func9
    (ChangeSpec.witness6 (enc := enc) (C := Try.checked) false ⟨#[], #[.agg (vs .u8 (List.replicate 32 0)), .agg (vs .u8 (List.replicate 32 0)), .agg (vs .u8 (List.replicate 32 0))], []⟩ 8 (by kernel_rfl) (by kernel_rfl) (by kernel_rfl) (by kernel_rfl)) ?_
  intro W base args ds gs before hval0 hW hcnd _
  have hval : ∀ (j : Nat) t v, Try.f9.params[j]? = some t → args[j]? = some v → Value.okWide Try.prog W .any base t v := hval0
  have hW' := hW
  obtain ⟨p, q, hA0, hV, rfl, hfz, hnd⟩ := hW
  have hA : DataW.TrodAll enc Try.prog W 0 (fun _ => true) true Try.f9.params.toList args.toList ds p := hA0
  rw [Try.params9] at hA hval
  obtain ⟨v0, vs0, d0, ds0, p0, q0, hargs, rfl, rfl, h0, r0⟩ := trodAll_cons hA
  obtain ⟨v1, vs1, d1, ds1, p1, q1, rfl, rfl, rfl, h1, r1⟩ := trodAll_cons r0
  obtain ⟨v2, vs2, d2, ds2, p2, q2, rfl, rfl, rfl, h2, r2⟩ := trodAll_cons r1
  obtain ⟨rfl, rfl, rfl⟩ := trodAll_nil r2
  obtain rfl : args = #[v0, v1, v2] := by cases args; simp_all
  obtain ⟨rfl, rfl⟩ := trodVars_none hV
  obtain ⟨l0, rfl, e0, b0⟩ := open_bytes (hval 0 22 v0 rfl rfl) h0
  obtain ⟨l1, rfl, e1, b1⟩ := open_bytes (hval 1 22 v1 rfl rfl) h1
  obtain ⟨l2, rfl, e2, b2⟩ := open_bytes (hval 2 22 v2 rfl rfl) h2
  clear hA0 hval0
  refine (law_ring_any l0 l1 l2 W e0 b0 e1 b1 e2 b2).mono fun e W' ⟨he, hg⟩ => ?_
  subst he
  exact ⟨_, rfl, post_true rfl hW' (by kernel_rfl) rfl rfl hg⟩

theorem fieldRing_holds : Rows.FieldRingSaid :=
  OpenClaim.holds_of_wide 9 Try.f9 rfl rfl rfl rfl rfl rfl rfl ⟨rfl, rfl, rfl, rfl, rfl⟩ rfl rfl rfl rfl rfl (by kernel_rfl) Try.func9 (by kernel_rfl)
    (of_decide_eq_true (by kernel_rfl)) (by unfold Func.isWrapper; first | (rw [if_pos (by decide +kernel)]; kernel_rfl) | (rw [if_neg (by decide +kernel)]; exact ⟨rfl, rfl⟩))
    (fun os started H enc _ => law_ring_lifted os started H enc)
#print axioms fieldRing_holds
end Go.Proofs.Ytmhoblefpkjdlaa
