/- curve's Clamp, the reference's Clamp, and curve's bitOf: contracts. Conditions: 32 bytes; a bit's number below 255. -/
import Derived.Test.YtbkbodcncjhcmaaCStep
namespace Go.Proofs.Ytbkbodcncjhcmaa
set_option linter.unusedSimpArgs false
set_option linter.unusedVariables false
open Go.RowKit

/-- A key's number, as bytes. -/
def cl (l : List Int) : List Int := (l.set 0 (l.getD 0 0 - l.getD 0 0 % 8)).set 31 (l.getD 31 0 % 64 + 64)
theorem cl_length (l : List Int) : (cl l).length = l.length := by simp [cl]
theorem cl_bys {l : List Int} (hl : l.length = 32) (h : Bys l) : Bys (cl l) := by
  have h0 := h (l.getD 0 0) (List.mem_of_getElem? (getD_some (by omega)))
  have h1 := h (l.getD 31 0) (List.mem_of_getElem? (getD_some (by omega)))
  exact bys_set (bys_set h 0 (by omega)) 31 (by omega)
/-- The bit i of 32 bytes. -/
def kb (l : List Int) (i : Nat) : Int := l.getD (i / 8) 0 / 2 ^ (i % 8) % 2

theorem by_low (b : Int) (h0 : 0 ≤ b) (h1 : b ≤ 255) : bits .andNot .u8 b 7 = b - b % 8 ∧ bits .and .u8 b 248 = b - b % 8 ∧ bits .or .u8 (bits .andNot .u8 b 128) 64 = b % 64 + 64 ∧ bits .or .u8 (bits .and .u8 b 127) 64 = b % 64 + 64 ∧ bits .and .i64 b 1 = b % 2 ∧ bits .and .u8 b 1 = b % 2 := by
  have h : (List.range 256).all (fun b => decide (bits .andNot .u8 (b : Int) 7 = (b : Int) - (b : Int) % 8 ∧ bits .and .u8 (b : Int) 248 = (b : Int) - (b : Int) % 8 ∧ bits .or .u8 (bits .andNot .u8 (b : Int) 128) 64 = (b : Int) % 64 + 64 ∧ bits .or .u8 (bits .and .u8 (b : Int) 127) 64 = (b : Int) % 64 + 64 ∧ bits .and .i64 (b : Int) 1 = (b : Int) % 2 ∧ bits .and .u8 (b : Int) 1 = (b : Int) % 2)) = true := by decide +kernel
  obtain ⟨n, rfl⟩ := Int.eq_ofNat_of_zero_le h0
  have := List.all_eq_true.1 h n (by simp; omega)
  simpa using this

theorem key_zero : ∀ w : World, (zeroValue 23).run Try.prog w = .ok (.agg (vs .u8 (List.replicate 32 0))) w := fun _ => by kernel_rfl
theorem size23 : (Try.prog.info? 23).map (·.size) = some 32 := by kernel_rfl
theorem key_info {l : List Int} (h : l.length = 32) : (Try.prog.info? 23).map (·.size) = some (vs .u8 l).size := by rw [size23, vs_size, h]

set_option maxRecDepth 100000 in
set_option maxHeartbeats 2000000 in
theorem bit_is (l : List Int) (i : Nat) (w : World) (hl : l.length = 32) (bl : Bys l) (hi : i < 255) :
    Calls Try.prog 38 #[.agg (vs .u8 l), .int .i64 i] w fun e w' => e = .returned (.int .i64 (kb l i)) ∧ Fr (fun _ => False) w w' := by
  obtain ⟨d, hd⟩ : ∃ d : Nat, i / 8 = d := ⟨_, rfl⟩
  obtain ⟨m, hm⟩ : ∃ m : Nat, i % 8 = m := ⟨_, rfl⟩
  obtain ⟨b, hb⟩ : ∃ b, b = l.getD d 0 := ⟨_, rfl⟩
  have gb := getD_some (l := l) (i := d) (by omega)
  rw [← hb] at gb
  have bb := bl b (List.mem_of_getElem? gb)
  obtain ⟨c, hc⟩ : ∃ c, b / 2 ^ m = c := ⟨_, rfl⟩
  have c0 : 0 ≤ c := by rw [← hc]; exact Int.ediv_nonneg bb.1 (by have := (Int.pow_pos (n := 2) (m := m) (by decide)); omega)
  have c9 : c ≤ 255 := by
    have := Int.ediv_le_self (2 ^ m) bb.1
    omega
  have k1 := (by_low c c0 c9).2.2.2.2.1
  have HK : Hid (kb l i = c % 2) := by
    show _ = _
    unfold kb
    rw [hd, hm, ← hb, hc]
  have t1 : ((i : Int) / 8) = d := by omega
  have t2 : ((i : Int) % 8) = m := by omega
  have d9 : (d : Int) < 32 := by omega
  have m9 : m < 8 := by omega
  have HG := Lib.hid gb
  have hcell : (w.alloc (.cells (vs .u8 l) 23)).cell? ⟨w.heap.size, d, none⟩ = some (.int .u8 b) := (Ar.new w 23 .u8 l).cell gb
  have hF : Hid (Fr (fun _ => False) w (w.alloc (.cells (vs .u8 l) 23))) := (Fr.refl _ _).alloc _
  clear hl bl gb hb bb hd hm
  go_enter Try.func38, Try.ntmps38
  go_wp2
  go_ret
  refine ⟨?_, hF.out⟩
  rw [HK.out]
  rfl

set_option maxRecDepth 100000 in
set_option maxHeartbeats 2000000 in
theorem clamp_is (l : List Int) (w : World) (hl : l.length = 32) (bl : Bys l) :
    Calls Try.prog 13 #[.agg (vs .u8 l)] w fun e w' => e = .returned (.agg (vs .u8 (cl l))) ∧ Fr (fun _ => False) w w' := by
  obtain ⟨a, ha⟩ : ∃ a, a = l.getD 0 0 := ⟨_, rfl⟩
  obtain ⟨b, hb⟩ : ∃ b, b = l.getD 31 0 := ⟨_, rfl⟩
  have ga := getD_some (l := l) (i := 0) (by omega)
  have gb := getD_some (l := l) (i := 31) (by omega)
  rw [← ha] at ga
  rw [← hb] at gb
  have ka := by_low a (bl a (List.mem_of_getElem? ga)).1 (bl a (List.mem_of_getElem? ga)).2
  have kb := by_low b (bl b (List.mem_of_getElem? gb)).1 (bl b (List.mem_of_getElem? gb)).2
  have k1 := ka.1
  have k2 := kb.2.2.1
  obtain ⟨x, hx⟩ : ∃ x, x = a - a % 8 := ⟨_, rfl⟩
  obtain ⟨y, hy⟩ : ∃ y, y = b % 64 + 64 := ⟨_, rfl⟩
  obtain ⟨z, hz⟩ : ∃ z, z = bits .andNot .u8 b 128 := ⟨_, rfl⟩
  rw [← hx] at k1
  rw [← hz, ← hy] at k2
  have k3 := hz.symm
  obtain ⟨Z, hZ⟩ : ∃ Z, Z = List.replicate 32 (0 : Int) := ⟨_, rfl⟩
  have zk : ∀ W : World, (zeroValue 23).run Try.prog W = .ok (.agg (vs .u8 Z)) W := fun W => by rw [hZ]; exact key_zero W
  obtain ⟨L, hL⟩ : ∃ L, L = (l.set 0 x).set 31 y := ⟨_, rfl⟩
  have HL : Hid (cl l = L) := by show _ = _; rw [cl, ← ha, ← hb, hL, hx, hy]
  have HLL := Lib.hid hL
  have A0 : Hid (Ar ((w.alloc (.cells (vs .u8 l) 23)).alloc (.cells (vs .u8 Z) 23)) w.heap.size 23 .u8 l) := (Ar.new w 23 .u8 l).alloc _
  have B0 : Hid (Ar ((w.alloc (.cells (vs .u8 l) 23)).alloc (.cells (vs .u8 Z) 23)) (w.heap.size + 1) 23 .u8 Z) := Ar.alloc1 w 23 23 .u8 .u8 l Z
  have F0 : Hid (Fr (fun _ => False) w ((w.alloc (.cells (vs .u8 l) 23)).alloc (.cells (vs .u8 Z) 23))) := ((Fr.refl _ _).alloc _).alloc _
  have HS : Hid (L.length = 32) := by show _ = _; simp [hL, hl]
  have HZ : Hid (Z.length = 32) := by show _ = _; rw [hZ]; rfl
  have GA := Lib.hid ga
  have GB : Hid ((l.set 0 x)[31]? = some b) := by
    show _ = _
    rw [List.getElem?_set_ne (by decide), gb]
  clear hl bl ga gb ka kb hZ hx hy hz ha hb hL
  go_enter Try.func13, Try.ntmps13
  go_upto_region 1 with (fail)
  generalize (w.alloc (.cells (vs .u8 l) 23)).alloc (.cells (vs .u8 Z) 23) = W0 at *
  have c0 := A0.out.cell GA.out
  have f0 := A0.out.frozen 0
  have A1 : Hid (Ar (W0.setCell ⟨w.heap.size, 0, none⟩ (.int .u8 x)) w.heap.size 23 .u8 (l.set 0 x)) := A0.out.set 0 x
  have B1 : Hid (Ar (W0.setCell ⟨w.heap.size, 0, none⟩ (.int .u8 x)) (w.heap.size + 1) 23 .u8 Z) := B0.out.far (by simp) _
  have F1 : Hid (Fr (fun _ => False) w (W0.setCell ⟨w.heap.size, 0, none⟩ (.int .u8 x))) := F0.out.setCell _ (.inr (by simp))
  go_upto_region 2 with (fail)
  generalize W0.setCell ⟨w.heap.size, 0, none⟩ (.int .u8 x) = W1 at *
  clear c0 f0 A0 B0 F0
  have c0 := A1.out.cell GB.out
  have f0 := A1.out.frozen 31
  have A2 : Hid (Ar (W1.setCell ⟨w.heap.size, 31, none⟩ (.int .u8 y)) w.heap.size 23 .u8 L) := by
    show Ar _ _ _ _ _
    rw [HLL.out]
    exact A1.out.set 31 y
  have B2 : Hid (Ar (W1.setCell ⟨w.heap.size, 31, none⟩ (.int .u8 y)) (w.heap.size + 1) 23 .u8 Z) := B1.out.far (by simp) _
  have F2 : Hid (Fr (fun _ => False) w (W1.setCell ⟨w.heap.size, 31, none⟩ (.int .u8 y))) := F1.out.setCell _ (.inr (by simp))
  go_upto_region 3 with (fail)
  generalize W1.setCell ⟨w.heap.size, 31, none⟩ (.int .u8 y) = W2 at *
  clear c0 f0 A1 B1 F1
  go_wp2_with (first
    | refine wpList_load_row rfl 23 (.tmp 1) rfl w.heap.size rfl 23 (vs .u8 L) (0, 0) _ A2.out Try.underlying23 rfl (key_info HS.out) ?_
    | refine wpList_store_row rfl 23 (.tmp 2) (.tmp 12) rfl (w.heap.size + 1) (vs .u8 L) rfl rfl 23 _ B2.out (key_info HS.out) (by rw [vs_size, vs_size, HS.out, HZ.out]) (vs_all _ _) ?_)
  refine bodyPost_ret (results_cell_row Try.results13 _ _ _ 23 _ (0, 0) _ rfl (setRow_heap _ _ _ _ _ _ B2.out) Try.underlying23 rfl (key_info HS.out)) rfl ⟨?_, Fr.setRow F2.out _ (.inr (by omega))⟩
  rw [HL.out]

set_option maxRecDepth 100000 in
set_option maxHeartbeats 2000000 in
theorem rclamp_is (l : List Int) (w : World) (hl : l.length = 32) (bl : Bys l) :
    Calls Try.prog 14 #[.agg (vs .u8 l)] w fun e w' => e = .returned (.agg (vs .u8 (cl l))) ∧ Fr (fun _ => False) w w' := by
  obtain ⟨a, ha⟩ : ∃ a, a = l.getD 0 0 := ⟨_, rfl⟩
  obtain ⟨b, hb⟩ : ∃ b, b = l.getD 31 0 := ⟨_, rfl⟩
  have ga := getD_some (l := l) (i := 0) (by omega)
  have gb := getD_some (l := l) (i := 31) (by omega)
  rw [← ha] at ga
  rw [← hb] at gb
  have ka := by_low a (bl a (List.mem_of_getElem? ga)).1 (bl a (List.mem_of_getElem? ga)).2
  have kb := by_low b (bl b (List.mem_of_getElem? gb)).1 (bl b (List.mem_of_getElem? gb)).2
  have k1 := ka.2.1
  have k2 := kb.2.2.2.1
  obtain ⟨x, hx⟩ : ∃ x, x = a - a % 8 := ⟨_, rfl⟩
  obtain ⟨y, hy⟩ : ∃ y, y = b % 64 + 64 := ⟨_, rfl⟩
  obtain ⟨z, hz⟩ : ∃ z, z = bits .and .u8 b 127 := ⟨_, rfl⟩
  rw [← hx] at k1
  rw [← hz, ← hy] at k2
  have k3 := hz.symm
  obtain ⟨Z, hZ⟩ : ∃ Z, Z = List.replicate 32 (0 : Int) := ⟨_, rfl⟩
  have zk : ∀ W : World, (zeroValue 23).run Try.prog W = .ok (.agg (vs .u8 Z)) W := fun W => by rw [hZ]; exact key_zero W
  obtain ⟨L, hL⟩ : ∃ L, L = (l.set 0 x).set 31 y := ⟨_, rfl⟩
  have HL : Hid (cl l = L) := by show _ = _; rw [cl, ← ha, ← hb, hL, hx, hy]
  have HLL := Lib.hid hL
  have A0 : Hid (Ar ((w.alloc (.cells (vs .u8 l) 23)).alloc (.cells (vs .u8 Z) 23)) w.heap.size 23 .u8 l) := (Ar.new w 23 .u8 l).alloc _
  have B0 : Hid (Ar ((w.alloc (.cells (vs .u8 l) 23)).alloc (.cells (vs .u8 Z) 23)) (w.heap.size + 1) 23 .u8 Z) := Ar.alloc1 w 23 23 .u8 .u8 l Z
  have F0 : Hid (Fr (fun _ => False) w ((w.alloc (.cells (vs .u8 l) 23)).alloc (.cells (vs .u8 Z) 23))) := ((Fr.refl _ _).alloc _).alloc _
  have HS : Hid (L.length = 32) := by show _ = _; simp [hL, hl]
  have HZ : Hid (Z.length = 32) := by show _ = _; rw [hZ]; rfl
  have GA := Lib.hid ga
  have GB : Hid ((l.set 0 x)[31]? = some b) := by
    show _ = _
    rw [List.getElem?_set_ne (by decide), gb]
  clear hl bl ga gb ka kb hZ hx hy hz ha hb hL
  go_enter Try.func14, Try.ntmps14
  go_upto_region 1 with (fail)
  generalize (w.alloc (.cells (vs .u8 l) 23)).alloc (.cells (vs .u8 Z) 23) = W0 at *
  have c0 := A0.out.cell GA.out
  have f0 := A0.out.frozen 0
  have A1 : Hid (Ar (W0.setCell ⟨w.heap.size, 0, none⟩ (.int .u8 x)) w.heap.size 23 .u8 (l.set 0 x)) := A0.out.set 0 x
  have B1 : Hid (Ar (W0.setCell ⟨w.heap.size, 0, none⟩ (.int .u8 x)) (w.heap.size + 1) 23 .u8 Z) := B0.out.far (by simp) _
  have F1 : Hid (Fr (fun _ => False) w (W0.setCell ⟨w.heap.size, 0, none⟩ (.int .u8 x))) := F0.out.setCell _ (.inr (by simp))
  go_upto_region 2 with (fail)
  generalize W0.setCell ⟨w.heap.size, 0, none⟩ (.int .u8 x) = W1 at *
  clear c0 f0 A0 B0 F0
  have c0 := A1.out.cell GB.out
  have f0 := A1.out.frozen 31
  have A2 : Hid (Ar (W1.setCell ⟨w.heap.size, 31, none⟩ (.int .u8 y)) w.heap.size 23 .u8 L) := by
    show Ar _ _ _ _ _
    rw [HLL.out]
    exact A1.out.set 31 y
  have B2 : Hid (Ar (W1.setCell ⟨w.heap.size, 31, none⟩ (.int .u8 y)) (w.heap.size + 1) 23 .u8 Z) := B1.out.far (by simp) _
  have F2 : Hid (Fr (fun _ => False) w (W1.setCell ⟨w.heap.size, 31, none⟩ (.int .u8 y))) := F1.out.setCell _ (.inr (by simp))
  go_upto_region 3 with (fail)
  generalize W1.setCell ⟨w.heap.size, 31, none⟩ (.int .u8 y) = W2 at *
  clear c0 f0 A1 B1 F1
  go_wp2_with (first
    | refine wpList_load_row rfl 23 (.tmp 1) rfl w.heap.size rfl 23 (vs .u8 L) (0, 0) _ A2.out Try.underlying23 rfl (key_info HS.out) ?_
    | refine wpList_store_row rfl 23 (.tmp 2) (.tmp 12) rfl (w.heap.size + 1) (vs .u8 L) rfl rfl 23 _ B2.out (key_info HS.out) (by rw [vs_size, vs_size, HS.out, HZ.out]) (vs_all _ _) ?_)
  refine bodyPost_ret (results_cell_row Try.results14 _ _ _ 23 _ (0, 0) _ rfl (setRow_heap _ _ _ _ _ _ B2.out) Try.underlying23 rfl (key_info HS.out)) rfl ⟨?_, Fr.setRow F2.out _ (.inr (by omega))⟩
  rw [HL.out]

end Go.Proofs.Ytbkbodcncjhcmaa
