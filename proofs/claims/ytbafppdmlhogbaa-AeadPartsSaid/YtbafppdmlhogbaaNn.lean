/- A poly that is none, and one that was never made: Write does nothing, Sum answers zeros; an append that has no room; an append of zeros. Contracts; conditions: the blocks. -/
import Derived.Test.YtbafppdmlhogbaaLi
import Derived.Test.YtbafppdmlhogbaaSu
import Derived.Lib.AppendZerosOnto
namespace Go.Proofs.Ytbafppdmlhogbaa
set_option linter.unusedSimpArgs false
set_option linter.unusedVariables false
open Go.RowKit

set_option maxRecDepth 100000 in
set_option maxHeartbeats 4000000 in
theorem write_none (A : Option Addr) (m c : Nat) (w : World) :
    Calls Try.prog 25 #[.pointer none, .slice A m c] w fun e w' => e = .returned (.tuple #[]) ∧ Fr (fun _ => False) w w' := by
  go_enter Try.func25, Try.ntmps25
  go_wp2
  refine bodyPost_ret (results_none rfl _ _ _) rfl ?_
  exact ⟨rfl, Fr.refl _ _⟩
set_option maxRecDepth 100000 in
set_option maxHeartbeats 4000000 in
theorem sum_none (w : World) :
    Calls Try.prog 26 #[.pointer none] w fun e w' => e = .returned (.agg (vs .u8 (List.replicate 16 0))) ∧ Fr (fun _ => False) w w' := by
  obtain ⟨Z, hZ⟩ : ∃ Z, Z = List.replicate 16 (0 : Int) := ⟨_, rfl⟩
  have HZ := Lib.hid hZ
  have hz2 : ∀ W : World, (zeroValue 38).run Try.prog W = .ok (.agg (vs .u8 Z)) W := fun W => by rw [hZ]; exact zero26 W
  rw [← hZ]
  clear hZ
  go_enter Try.func26, Try.ntmps26
  go_upto_region 1 with (fail)
  have X0 : Hid (Ar (w.alloc (.cells (vs .u8 Z) 38)) w.heap.size 38 .u8 Z) := Ar.new w 38 .u8 Z
  have F0 : Hid (Fr (fun _ => False) w (w.alloc (.cells (vs .u8 Z) 38))) := (Fr.refl _ _).alloc _
  generalize w.alloc (.cells (vs .u8 Z) 38) = W0 at *
  go_upto_region 2 with (fail)
  refine wp_region_list ?_
  refine wpList_plain rfl fun K hK => wp_value (.agg (vs .u8 Z)) W0 (by rw [HZ.out]; kernel_rfl) (hK _ _ ?_)
  have sZ : (Try.prog.info? 38).map (·.size) = some (vs .u8 Z).size := tags_info (by rw [HZ.out]; rfl)
  refine wpList_store_row rfl 38 (.tmp 2) (.tmp 13) rfl w.heap.size (vs .u8 Z) rfl rfl 38 (vs .u8 Z) X0.out sZ rfl (vs_all _ _) ?_
  have X1 := Lib.hid (Ar.row X0.out Z)
  have F1 := Lib.hid (Fr.setRow F0.out (g := w.heap.size) (vs .u8 Z) (.inr (Nat.le_refl _)))
  generalize W0.setRow w.heap.size (vs .u8 Z) = W1 at *
  clear hz2 X0 F0
  go_wp2
  refine bodyPost_ret (results_cell_row Try.results26 _ _ _ 38 _ (0, 0) _ rfl X1.out Try.underlying38 rfl sZ) rfl ⟨rfl, F1.out⟩
set_option maxRecDepth 100000 in
set_option maxHeartbeats 4000000 in
theorem write_bare (g : Nat) (A : Option Addr) (m c : Nat) (w : World) (hc : w.cell? ⟨g, 0, none⟩ = some (.bool false)) :
    Calls Try.prog 25 #[.pointer (some ⟨g, 0, none⟩), .slice A m c] w fun e w' => e = .returned (.tuple #[]) ∧ Fr (fun _ => False) w w' := by
  go_enter Try.func25, Try.ntmps25
  go_wp2
  refine bodyPost_ret (results_none rfl _ _ _) rfl ?_
  exact ⟨rfl, Fr.refl _ _⟩
set_option maxRecDepth 100000 in
set_option maxHeartbeats 4000000 in
theorem sum_bare (g : Nat) (w : World) (hc : w.cell? ⟨g, 0, none⟩ = some (.bool false)) :
    Calls Try.prog 26 #[.pointer (some ⟨g, 0, none⟩)] w fun e w' => e = .returned (.agg (vs .u8 (List.replicate 16 0))) ∧ Fr (fun _ => False) w w' := by
  obtain ⟨Z, hZ⟩ : ∃ Z, Z = List.replicate 16 (0 : Int) := ⟨_, rfl⟩
  have HZ := Lib.hid hZ
  have hz2 : ∀ W : World, (zeroValue 38).run Try.prog W = .ok (.agg (vs .u8 Z)) W := fun W => by rw [hZ]; exact zero26 W
  rw [← hZ]
  clear hZ
  go_enter Try.func26, Try.ntmps26
  go_upto_region 1 with (fail)
  have hc2 : (w.alloc (.cells (vs .u8 Z) 38)).cell? ⟨g, 0, none⟩ = some (.bool false) := (World.cell?_of_block (w := w) (((Fr.refl (fun _ => False) _).alloc _).block g (World.block_lt_of_cell? _ _ hc) (fun x => x))).trans hc
  clear hc
  have X0 : Hid (Ar (w.alloc (.cells (vs .u8 Z) 38)) w.heap.size 38 .u8 Z) := Ar.new w 38 .u8 Z
  have F0 : Hid (Fr (fun _ => False) w (w.alloc (.cells (vs .u8 Z) 38))) := (Fr.refl _ _).alloc _
  generalize w.alloc (.cells (vs .u8 Z) 38) = W0 at *
  go_upto_region 2 with (fail)
  refine wp_region_list ?_
  refine wpList_plain rfl fun K hK => wp_value (.agg (vs .u8 Z)) W0 (by rw [HZ.out]; kernel_rfl) (hK _ _ ?_)
  have sZ : (Try.prog.info? 38).map (·.size) = some (vs .u8 Z).size := tags_info (by rw [HZ.out]; rfl)
  refine wpList_store_row rfl 38 (.tmp 2) (.tmp 13) rfl w.heap.size (vs .u8 Z) rfl rfl 38 (vs .u8 Z) X0.out sZ rfl (vs_all _ _) ?_
  have X1 := Lib.hid (Ar.row X0.out Z)
  have F1 := Lib.hid (Fr.setRow F0.out (g := w.heap.size) (vs .u8 Z) (.inr (Nat.le_refl _)))
  generalize W0.setRow w.heap.size (vs .u8 Z) = W1 at *
  clear hz2 X0 F0
  go_wp2
  refine bodyPost_ret (results_cell_row Try.results26 _ _ _ 38 _ (0, 0) _ rfl X1.out Try.underlying38 rfl sZ) rfl ⟨rfl, F1.out⟩
/-- An append onto a slice that has no room. -/
theorem run_grow {w : World} (ty : TypeId) {g0 : Nat} {a0 : Addr} {n c0 : Nat} {l : List Int} (h : Sl w g0 (.slice (some a0) n c0) l) {g : Nat} {a : Addr} {m c : Nat} {k : List Int} (hs : Sl w g (.slice (some a) m c) k) (hroom : c0 < n + m) (hlen : n + m ≤ 140737488355328) :
    ∃ c' w', (Builtin.append_ #[29, 29] ty #[.slice (some a0) n c0, .slice (some a) m c]).run Try.prog w = .ok (.slice (some ⟨w.heap.size, 0, none⟩) (n + m) c') w' ∧ Ow w' (.slice (some ⟨w.heap.size, 0, none⟩) (n + m) c') (l ++ k) ∧ Fr (fun _ => False) w w' := by
  obtain ⟨i0, hi, hz0, hz1, hz2⟩ := info_parts Try.info5
  have cells : ∀ {g : Nat} {a : Addr} {m c : Nat} {k : List Int}, Sl w g (.slice (some a) m c) k → ∀ j u, (bs k)[j]? = some u → w.cell? (a.add j) = some u := by
    intro g a m c k hs j u hu
    rw [bs_get] at hu
    obtain ⟨b, hb, rfl⟩ := Option.map_eq_some_iff.1 hu
    obtain ⟨_, A', c', e, _, _, hx⟩ := hs
    injection e with e1
    obtain ⟨o, e2, _, hcell⟩ := hx (by rintro rfl; simp at hb)
    rw [← e1] at e2
    injection e2 with e2
    subst e2
    rw [Addr_add_none]
    exact hcell j b hb
  have hl := h.len
  have hk := hs.len
  have hr := run_append_grow (P := Try.prog) w 29 ty 5 i0 _ Try.underlying29 hi hz0 a0 n c0 (bs l) (by rw [bs_length, hz1]; omega) (cells h) a m c (bs k) (by rw [bs_length, hz1]; omega) (cells hs) hroom (by omega) (growslice_fits hroom (by rw [hz2]; omega))
  refine ⟨_, _, hr, ⟨⟨by rw [bs_length, Nat.mul_one], .inr ⟨_, _, _, by rw [List.length_append, hl, hk]; rfl, Nat.zero_le _, heap_alloc_new w.drew _, ?_, grownCap_le_maxLen w (n + m) c0 5 (by simp only [maxLen]; omega), ?_, ?_⟩⟩, h.1.append hs.1⟩, ((Fr.refl _ _).drew).alloc _⟩
  · rw [List.length_append, hl, hk]
    exact grownCap_ge w (n + m) c0 5
  · have := grownCap_ge w (n + m) c0 5
    simp only [Array.size_append, List.size_toArray, size_zeroCells, bs_length, hl, hk, Nat.mul_one]
    show n + m + _ * 1 = _
    omega
  · simp only [Array.toList_append, List.append_assoc]
    rw [← List.append_assoc, bs_append, Nat.mul_one]
    have e : (l ++ k).length = (bs (l ++ k)).length := (bs_length _).symm
    rw [e]
    exact List.take_left
theorem zero_cells (k : Nat) : Builtin.zeroCells (Value.int .u8 0).cells k = (bs (List.replicate k 0)).toArray := by
  apply Array.ext'
  apply List.ext_getElem?
  intro j
  rcases Nat.lt_or_ge j k with h | h
  · simp [Builtin.zeroCells, bs, Value.cells, h, Nat.mod_one]
  · simp [Builtin.zeroCells, bs, Value.cells, h]
/-- An append of so many zeros. -/
theorem run_own_zeros {w : World} {v : Value} {l : List Int} (ty : TypeId) (h : Ow w v l) (k : Nat) (h0 : 0 < k) (hlen : l.length + k ≤ 140737488355328) (hl0 : 0 < l.length) :
    ∃ A' N c' w', (Builtin.append_ #[29, 3] ty #[v, .int .i64 k]).run Try.prog w = .ok (.slice A' N c') w' ∧ Ap2 w v l (List.replicate k 0) (.slice A' N c') w' ∧ N = l.length + k := by
  obtain ⟨i0, hi, hz0, hz1, hz2⟩ := info_parts Try.info5
  have hb : Bys (List.replicate k 0) := fun b hb => by rw [(List.mem_replicate.1 hb).2]; omega
  have hll : (l ++ List.replicate k 0).length = l.length + k := by rw [List.length_append, List.length_replicate]
  rcases h.1.2 with ⟨hv, h0⟩ | ⟨g, cap, cur, hv, hbg, hh, hn, hm, hs, ht⟩
  · omega
  · subst hv
    rw [Nat.mul_one] at hs ht
    by_cases hroom : l.length + k ≤ cap
    · have hst := run_storeCells_at Try.prog g l.length 5 (bs (List.replicate k 0)) 0 cur w hh (by rw [bs_length, List.length_replicate]; omega) (bs_one _)
      have hw : IntKind.i64.wrap (k : Int) = k := by rw [IntKind.wrap_i64]; omega
      have hneg : ¬ ((k : Int) < 0) := by omega
      have h48i : ¬ (281474976710656 < (k : Int)) := by omega
      have hk : k ≠ 0 := by omega
      rw [Nat.add_zero] at hst
      refine ⟨some ⟨g, 0, none⟩, l.length + k, cap, w.setRow g (cur.toList.take l.length ++ bs (List.replicate k 0) ++ cur.toList.drop (l.length + (bs (List.replicate k 0)).length)).toArray, ?_, ⟨⟨⟨by rw [bs_length, Nat.mul_one], .inr ⟨g, cap, _, by rw [hll], Nat.zero_le _, setRow_heap w g cur _ 5 _ hh, by rw [hll]; exact hroom, hm, ?_, ?_⟩⟩, h.2.append hb⟩, ⟨rfl, rfl, rfl, by simp, fun k _ hk => setRow_other w g k _ (fun e => hk (by simp [Value.ownBlock, e]))⟩, .inl rfl⟩, rfl⟩
      · simp [Builtin.append_, run_underlying Try.underlying29, run_underlying Try.underlying3, sizeOf, typeInfo, hi, hz0, hz1, hz2, asInt, asIntOf, hw, hneg, h48i, hk, hroom, zeroValue, zero_cells, Addr.add_lit, hst]
      · simp only [List.size_toArray, List.length_append, List.length_take, List.length_drop, Array.length_toList, bs_length, List.length_replicate]
        omega
      · have e : ((cur.toList.take l.length ++ bs (List.replicate k 0) ++ cur.toList.drop (l.length + (bs (List.replicate k 0)).length)).toArray).toList = bs (l ++ List.replicate k 0) ++ cur.toList.drop (l.length + (bs (List.replicate k 0)).length) := by
          rw [ht, bs_append]
        rw [e, Nat.mul_one, ← bs_length (l ++ List.replicate k 0)]
        exact List.take_left
    · have hf : (Builtin.firstCells i0.size l.length (.slice (some ⟨g, 0, none⟩) l.length cap)).run Try.prog w.drew = .ok (bs l).toArray w.drew := run_firstCells_some (P := Try.prog) w.drew i0.size l.length ⟨g, 0, none⟩ l.length cap (bs l) (by rw [bs_length, hz1, Nat.mul_one]) (by simpa using h.1.cells (g := g) rfl)
      have hr := Lib.run_append_grow_zeros (P := Try.prog) w 29 3 ty 5 i0 _ .i64 .i64 Try.underlying29 Try.underlying3 hi hz0 (some ⟨g, 0, none⟩) l.length cap (bs l) hf k h0 (by rw [hz1]; decide) (by omega) (by omega) (by rw [hz2]; omega) (growslice_fits (by omega) (by rw [hz2]; omega))
      have hge := grownCap_ge w (l.length + k) cap 5
      refine ⟨_, _, _, _, hr, ⟨⟨⟨by rw [bs_length, Nat.mul_one], .inr ⟨_, _, _, by rw [hll]; rfl, Nat.zero_le _, heap_alloc_new w.drew _, by rw [hll]; exact hge, grownCap_le_maxLen w (l.length + k) cap 5 (by simp only [maxLen]; omega), ?_, ?_⟩⟩, h.2.append hb⟩, ⟨rfl, rfl, rfl, by simp, fun k hk _ => heap_alloc_old w.drew _ hk⟩, .inr rfl⟩, rfl⟩
      · simp only [zero_cells, Array.size_append, List.size_toArray, bs_length, List.length_replicate, Nat.mul_one]
        omega
      · simp only [zero_cells, Array.toList_append]
        rw [bs_append, Nat.mul_one, ← bs_length (l ++ List.replicate k 0)]
        exact List.take_left
end Go.Proofs.Ytbafppdmlhogbaa
