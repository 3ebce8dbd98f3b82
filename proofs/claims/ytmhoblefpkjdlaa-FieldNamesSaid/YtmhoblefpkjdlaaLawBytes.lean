/- FieldBytes answers true for all 32 bytes, and its argument reads behind the call as it did: the given statement FieldBytesSaid. No condition. -/
import Derived.Test.YtmhoblefpkjdlaaLift
import Derived.Test.YtmhoblefpkjdlaaInvR
import Derived.Test.YtmhoblefpkjdlaaBytesM
import Derived.Deep.Cut
namespace Go.Proofs.Ytmhoblefpkjdlaa
open Go.ChangeShapes Go.WideShapes Go.ChangeAt Go.RowKit

set_option maxRecDepth 100000 in
set_option maxHeartbeats 8000000 in
theorem law_bytes_any (l : List Int) (w : World) (hl : l.length = 32) (bl : Bys l) :
    Calls Try.prog 11 #[.agg (vs .u8 l)] w fun e w' => e = .returned (.bool true) ∧ Fr (fun _ => False) w w' := by
  obtain ⟨u, hu⟩ : ∃ u, u = fe l := ⟨_, rfl⟩
  have eu : El u := hu ▸ El.mod _
  obtain ⟨a0, a1, a2, a3, hA⟩ := ws_of eu
  obtain ⟨c, hc⟩ : ∃ c, c = lb 32 u := ⟨_, rfl⟩
  obtain ⟨b, hb⟩ : ∃ b, b = l.getD 31 0 := ⟨_, rfl⟩
  have gb := getD_some (l := l) (i := 31) (by omega)
  rw [← hb] at gb
  have lb31 := bl b (List.mem_of_getElem? gb)
  obtain ⟨x, hx⟩ : ∃ x, x = (b + 128) % 256 := ⟨_, rfl⟩
  obtain ⟨l2, hl2⟩ : ∃ l2, l2 = l.set 31 x := ⟨_, rfl⟩
  have xx := xor128 b lb31.1 lb31.2
  rw [← hx] at xx
  have b2 : Bys l2 := by rw [hl2]; exact bys_set bl 31 (by omega)
  have n2 : l2.length = 32 := by rw [hl2, List.length_set, hl]
  have c1 : ∀ W, Calls Try.prog 14 #[.agg (vs .u8 l)] W fun e w' => e = .returned (.agg #[.int .u64 a0, .int .u64 a1, .int .u64 a2, .int .u64 a3]) ∧ Fr (fun _ => False) W w' := fun W => by
    rw [← hA.eq, hu]
    exact from_el l W hl bl
  have c2 : ∀ W, Calls Try.prog 32 #[.agg #[.int .u64 a0, .int .u64 a1, .int .u64 a2, .int .u64 a3]] W fun e w' => e = .returned (.agg (vs .u8 c)) ∧ Fr (fun _ => False) W w' := fun W => by
    rw [← hA.eq, hc]
    exact ebytes_is u W eu
  have c3 : ∀ W, Calls Try.prog 14 #[.agg (vs .u8 c)] W fun e w' => e = .returned (el u) ∧ Fr (fun _ => False) W w' := fun W => by
    have h := from_el c W (by rw [hc, lb_length]) (by rw [hc]; exact lb_bys _ _)
    rwa [show fe c = u by rw [hc]; exact fe_lb eu] at h
  have c4 : ∀ W, Calls Try.prog 14 #[.agg (vs .u8 l2)] W fun e w' => e = .returned (el u) ∧ Fr (fun _ => False) W w' := fun W => by
    have h := from_el l2 W n2 b2
    rwa [show fe l2 = u by rw [hl2, hx, hb, hu]; exact fe_top l hl bl] at h
  have c5 := fun W => same_w2 hA eu rfl W
  obtain ⟨eu', heu⟩ : ∃ e, e = el u := ⟨_, rfl⟩
  rw [← heu] at c3 c4 c5
  -- the small number
  obtain ⟨b0, hb0⟩ : ∃ b, b = l.getD 0 0 := ⟨_, rfl⟩
  have gb0 := getD_some (l := l) (i := 0) (by omega)
  rw [← hb0] at gb0
  have lb0 := bl b0 (List.mem_of_getElem? gb0)
  obtain ⟨s, hs⟩ : ∃ s, s = b0 % 19 := ⟨_, rfl⟩
  have s0 : 0 ≤ s := by omega
  have s18 : s ≤ 18 := by omega
  have c6 : ∀ W, Calls Try.prog 33 #[.int .i64 b0, .int .i64 19] W fun e w' => e = .returned (.int .i64 s) ∧ Fr (fun _ => False) W w' := fun W => by
    rw [hs]
    exact bring_pos b0 19 W lb0.1 (by omega) (by decide) (by decide)
  obtain ⟨Z, hZ⟩ : ∃ Z, Z = List.replicate 32 (0 : Int) := ⟨_, rfl⟩
  obtain ⟨F, hF0⟩ : ∃ F, F = List.replicate 32 (255 : Int) := ⟨_, rfl⟩
  obtain ⟨ls, hls⟩ : ∃ x, x = Z.set 0 s := ⟨_, rfl⟩
  obtain ⟨lm, hlm⟩ : ∃ x, x = (F.set 31 127).set 0 (s + 237) := ⟨_, rfl⟩
  have es : El s := ⟨s0, by unfold pp; omega⟩
  have c7 : ∀ W, Calls Try.prog 14 #[.agg (vs .u8 ls)] W fun e w' => e = .returned (el s) ∧ Fr (fun _ => False) W w' := fun W => by
    have h := from_el ls W (by rw [hls, hZ]; rfl) (by rw [hls, hZ]; exact bys_set (by intro b hb; rw [List.eq_of_mem_replicate hb]; decide) 0 (by omega))
    rwa [show fe ls = s by rw [hls, hZ]; exact fe_small s s0 s18] at h
  have c8 : ∀ W, Calls Try.prog 14 #[.agg (vs .u8 lm)] W fun e w' => e = .returned (el s) ∧ Fr (fun _ => False) W w' := fun W => by
    have h := from_el lm W (by rw [hlm, hF0]; rfl) (by rw [hlm, hF0]; exact bys_set (bys_set (by intro b hb; rw [List.eq_of_mem_replicate hb]; decide) 31 (by decide)) 0 (by omega))
    rwa [show fe lm = s by rw [hlm, hF0]; exact fe_more s s0 s18] at h
  have c9 : ∀ W, Calls Try.prog 30 #[el s, el s] W fun e w' => e = .returned (.bool true) ∧ Fr (fun _ => False) W w' := fun W => same_yes s s W es es rfl
  obtain ⟨es', hes⟩ : ∃ e, e = el s := ⟨_, rfl⟩
  rw [← hes] at c7 c8 c9
  have c10 := awake_is
  have sz : ∀ k : List Int, k.length = 32 → (Try.prog.info? 22).map (·.size) = some (vs .u8 k).size := fun k h => by rw [size22, vs_size, h]
  have HS := Lib.hid sz
  have HM : Hid (l.length = 32 ∧ c.length = 32 ∧ l2.length = 32 ∧ Z.length = 32 ∧ F.length = 32 ∧ ls.length = 32 ∧ lm.length = 32) :=
    ⟨hl, by rw [hc, lb_length], n2, by rw [hZ]; rfl, by rw [hF0]; rfl, by rw [hls, hZ]; rfl, by rw [hlm, hF0]; rfl⟩
  have HE : Hid (c = lb 32 u ∧ El u ∧ l2 = l.set 31 x ∧ Z = List.replicate 32 0 ∧ F = List.replicate 32 255 ∧ ls = Z.set 0 s ∧ lm = (F.set 31 127).set 0 (s + 237)) := ⟨hc, eu, hl2, hZ, hF0, hls, hlm⟩
  have hz : ∀ W : World, (zeroValue 22).run Try.prog W = .ok (.agg (vs .u8 Z)) W := fun W => by rw [hZ]; kernel_rfl
  have HG := Lib.hid (And.intro gb gb0)
  have b0a := lb0.1
  have b0b := lb0.2
  clear hu eu hA hc hb gb lb31 hx hl2 b2 n2 heu hb0 gb0 lb0 hs hZ hF0 hls hlm es hes sz hl bl
  go_enter Try.func11, Try.ntmps11
  go_upto_region 1 with (fail)
  generalize hW : w.alloc (.cells (vs .u8 l) 22) = W0
  have HW := Lib.hid (calm1a hW)
  clear hW
  refine wp_region_head (C := Calm W0) 2 (Fr.refl _ _) ?_
  simp only [List.take_succ_cons, List.take_zero, List.drop_succ_cons, List.drop_zero]
  refine BigFrame.wpQuiet_want rfl fun K hK => quiet_load 22 (.tmp 1) rfl (w.heap.size) rfl 22 _ (0, 0) _ (fun _ h => Calm.at HW.out.1 h) Try.underlying22 rfl (HS.out _ HM.out.1) (hK _ ?_)
  refine BigFrame.wpQuiet_want rfl fun K hK => ?_
  try simp only [Act.put, List.setIfInBounds_toArray, List.set_cons_succ, List.set_cons_zero]
  go_big_quiet_op
  refine ⟨_, Calm.calls c1, hK _ ?_⟩
  refine wpQuiet_nil ?_
  intro w1 hw1
  try simp only [Act.put, List.setIfInBounds_toArray, List.set_cons_succ, List.set_cons_zero]
  go_upto_region 2 with (fail)
  generalize hW : w1.alloc (.cells #[.int .u64 a0, .int .u64 a1, .int .u64 a2, .int .u64 a3] 28) = W1
  have HW1 := Lib.hid (calm1a hW)
  obtain ⟨q3, hq3⟩ : ∃ q, q = w1.heap.size := ⟨_, rfl⟩
  have A1 : Hid (Ar W1 w.heap.size 22 .u8 l) := (Calm.at (Calm.at HW.out.1 hw1) HW1.out.2)
  have X1 : Hid (W1.heap[q3]? = some (.cells #[.int .u64 a0, .int .u64 a1, .int .u64 a2, .int .u64 a3] 28 (0, 0))) := by rw [hq3]; exact HW1.out.1
  have F1 : Hid (Fr (fun _ => False) w W1) := (Fr.trans HW.out.2 hw1).trans HW1.out.2
  have s1 : q3 < W1.heap.size := heap_lt X1.out
  have s1' : w.heap.size < q3 := by rw [hq3]; exact Nat.lt_of_lt_of_le (heap_lt HW.out.1) hw1.size
  rw [← hq3]
  clear hW HW1 hw1 hq3 HW
  refine wp_region_head (C := Calm W1) 2 (Fr.refl _ _) ?_
  simp only [List.take_succ_cons, List.take_zero, List.drop_succ_cons, List.drop_zero]
  refine BigFrame.wpQuiet_want rfl fun K hK => quiet_load 28 (.tmp 3) rfl (q3) rfl 28 _ (0, 0) _ (fun _ h => Calm.at X1.out h) Try.underlying28 rfl size28 (hK _ ?_)
  refine BigFrame.wpQuiet_want rfl fun K hK => ?_
  try simp only [Act.put, List.setIfInBounds_toArray, List.set_cons_succ, List.set_cons_zero]
  go_big_quiet_op
  refine ⟨_, Calm.calls c2, hK _ ?_⟩
  refine wpQuiet_nil ?_
  intro w2 hw2
  try simp only [Act.put, List.setIfInBounds_toArray, List.set_cons_succ, List.set_cons_zero]
  have A2 : Hid (Ar w2 w.heap.size 22 .u8 l) := Calm.at A1.out hw2
  have X2 : Hid (w2.heap[q3]? = some (.cells #[.int .u64 a0, .int .u64 a1, .int .u64 a2, .int .u64 a3] 28 (0, 0))) := Calm.at X1.out hw2
  have F2 : Hid (Fr (fun _ => False) w w2) := F1.out.trans hw2
  have s2 : q3 < w2.heap.size := heap_lt X2.out
  obtain ⟨q4, hq4⟩ : ∃ q, q = w2.heap.size := ⟨_, rfl⟩
  have HQ4 := Lib.hid hq4
  have s2' : q3 < q4 := by omega
  clear hw2 A1 X1 F1 s1 hq4
  go_upto_region 3 with (refine wpList_store_row rfl 22 (.tmp 4) (.tmp 14) rfl w2.heap.size (vs .u8 c) rfl rfl 22 (vs .u8 Z) (heap_alloc_new w2 _) (HS.out _ HM.out.2.1) (by rw [vs_size, vs_size, HM.out.2.1, HM.out.2.2.2.1]) (vs_all _ _) ?_)
  try simp only [Act.put, List.setIfInBounds_toArray, List.set_cons_succ, List.set_cons_zero]
  rw [← HQ4.out]
  have A3 : Hid (Ar ((w2.alloc (.cells (vs .u8 Z) 22)).setRow q4 (vs .u8 c)) w.heap.size 22 .u8 l) := (A2.out.alloc _).rowFar (by omega) _
  have X3 : Hid (((w2.alloc (.cells (vs .u8 Z) 22)).setRow q4 (vs .u8 c)).heap[q3]? = some (.cells #[.int .u64 a0, .int .u64 a1, .int .u64 a2, .int .u64 a3] 28 (0, 0))) := (setRow_other _ _ _ _ (by omega)).trans ((Below.heap_alloc _ _ _ s2).trans X2.out)
  have C3 : Hid (Ar ((w2.alloc (.cells (vs .u8 Z) 22)).setRow q4 (vs .u8 c)) q4 22 .u8 c) := by
    have h := (Ar.new w2 22 .u8 Z).row c
    rw [← HQ4.out] at h
    exact h
  have F3 : Hid (Fr (fun _ => False) w ((w2.alloc (.cells (vs .u8 Z) 22)).setRow q4 (vs .u8 c))) := (F2.out.alloc _).setRow _ (.inr (by omega))
  generalize ((w2.alloc (.cells (vs .u8 Z) 22)).setRow q4 (vs .u8 c)) = w3 at *
  have s3 : q4 < w3.heap.size := C3.out.lt
  obtain ⟨q5, hq5⟩ : ∃ q, q = w3.heap.size := ⟨_, rfl⟩
  have HQ5 := Lib.hid hq5
  have s3' : q4 < q5 := by omega
  clear A2 X2 F2 HQ4 s2 hq5
  go_upto_region 4 with (first
    | refine wpList_load_row rfl 22 (.tmp 1) rfl w.heap.size rfl 22 (vs .u8 l) (0, 0) _ A3.out Try.underlying22 rfl (HS.out _ HM.out.1) ?_
    | refine wpList_store_row rfl 22 (.tmp 5) (.tmp 15) rfl w3.heap.size (vs .u8 l) rfl rfl 22 (vs .u8 Z) (heap_alloc_new w3 _) (HS.out _ HM.out.1) (by rw [vs_size, vs_size, HM.out.1, HM.out.2.2.2.1]) (vs_all _ _) ?_)
  try simp only [Act.put, List.setIfInBounds_toArray, List.set_cons_succ, List.set_cons_zero]
  rw [← HQ5.out]
  have A4 : Hid (Ar ((w3.alloc (.cells (vs .u8 Z) 22)).setRow q5 (vs .u8 l)) w.heap.size 22 .u8 l) := (A3.out.alloc _).rowFar (by omega) _
  have X4 : Hid (((w3.alloc (.cells (vs .u8 Z) 22)).setRow q5 (vs .u8 l)).heap[q3]? = some (.cells #[.int .u64 a0, .int .u64 a1, .int .u64 a2, .int .u64 a3] 28 (0, 0))) := (setRow_other _ _ _ _ (by omega)).trans ((Below.heap_alloc _ _ _ (heap_lt X3.out)).trans X3.out)
  have C4 : Hid (Ar ((w3.alloc (.cells (vs .u8 Z) 22)).setRow q5 (vs .u8 l)) q4 22 .u8 c) := (C3.out.alloc _).rowFar (by omega) _
  have O4 : Hid (Ar ((w3.alloc (.cells (vs .u8 Z) 22)).setRow q5 (vs .u8 l)) q5 22 .u8 l) := by
    have h := (Ar.new w3 22 .u8 Z).row l
    rw [← HQ5.out] at h
    exact h
  have F4 : Hid (Fr (fun _ => False) w ((w3.alloc (.cells (vs .u8 Z) 22)).setRow q5 (vs .u8 l))) := (F3.out.alloc _).setRow _ (.inr (by omega))
  generalize ((w3.alloc (.cells (vs .u8 Z) 22)).setRow q5 (vs .u8 l)) = w4 at *
  clear A3 X3 C3 F3 HQ5 s3
  have k1 := A4.out.cell HG.out.1
  have k2 := O4.out.cell HG.out.1
  have k3 := O4.out.frozen 31
  have A5 : Hid (Ar (w4.setCell ⟨q5, 31, none⟩ (.int .u8 x)) w.heap.size 22 .u8 l) := A4.out.far (by simp <;> omega) _
  have X5 : Hid ((w4.setCell ⟨q5, 31, none⟩ (.int .u8 x)).heap[q3]? = some (.cells #[.int .u64 a0, .int .u64 a1, .int .u64 a2, .int .u64 a3] 28 (0, 0))) := (heap_setCell_other _ _ _ _ (by simp <;> omega)).trans X4.out
  have C5 : Hid (Ar (w4.setCell ⟨q5, 31, none⟩ (.int .u8 x)) q4 22 .u8 c) := C4.out.far (by simp <;> omega) _
  have O5 : Hid (Ar (w4.setCell ⟨q5, 31, none⟩ (.int .u8 x)) q5 22 .u8 l2) := by
    show Ar _ _ _ _ _
    rw [HE.out.2.2.1]
    exact O4.out.set 31 x
  have F5 : Hid (Fr (fun _ => False) w (w4.setCell ⟨q5, 31, none⟩ (.int .u8 x))) := F4.out.setCell _ (.inr (by simp <;> omega))
  go_upto_region 5 with (fail)
  generalize (w4.setCell ⟨q5, 31, none⟩ (.int .u8 x)) = w5 at *
  clear A4 X4 C4 O4 F4 k1 k2 k3
  refine wp_region_quiet (C := Calm w5) (by kernel_rfl) (by kernel_rfl) (Calm.start _ _ (Fr.refl _ _)) ?_
  refine BigFrame.wpQuiet_want rfl fun K hK => quiet_load 22 (.tmp 4) rfl (q4) rfl 22 _ (0, 0) _ (fun _ h => Calm.at C5.out h) Try.underlying22 rfl (HS.out _ HM.out.2.1) (hK _ ?_)
  refine BigFrame.wpQuiet_want rfl fun K hK => ?_
  try simp only [Act.put, List.setIfInBounds_toArray, List.set_cons_succ, List.set_cons_zero]
  go_big_quiet_op
  refine ⟨_, Calm.calls c3, hK _ ?_⟩
  refine BigFrame.wpQuiet_want rfl fun K hK => quiet_load 28 (.tmp 3) rfl (q3) rfl 28 _ (0, 0) _ (fun _ h => Calm.at X5.out h) Try.underlying28 rfl size28 (hK _ ?_)
  refine BigFrame.wpQuiet_want rfl fun K hK => ?_
  try simp only [Act.put, List.setIfInBounds_toArray, List.set_cons_succ, List.set_cons_zero]
  go_big_quiet_op
  refine ⟨_, Calm.calls c5, hK _ ?_⟩
  refine BigFrame.wpQuiet_want rfl fun K hK => ?_
  try simp only [Act.put, List.setIfInBounds_toArray, List.set_cons_succ, List.set_cons_zero]
  go_big_quiet_op
  refine ⟨_, fun _ _ => rfl, hK _ ?_⟩
  refine BigFrame.wpQuiet_want rfl fun K hK => ?_
  try simp only [Act.put, List.setIfInBounds_toArray, List.set_cons_succ, List.set_cons_zero]
  go_big_quiet_op
  refine hK _ ?_
  refine BigFrame.wpQuiet_want rfl fun K hK => quiet_load 22 (.tmp 5) rfl (q5) rfl 22 _ (0, 0) _ (fun _ h => Calm.at O5.out h) Try.underlying22 rfl (HS.out _ HM.out.2.2.1) (hK _ ?_)
  refine BigFrame.wpQuiet_want rfl fun K hK => ?_
  try simp only [Act.put, List.setIfInBounds_toArray, List.set_cons_succ, List.set_cons_zero]
  go_big_quiet_op
  refine ⟨_, Calm.calls c4, hK _ ?_⟩
  refine BigFrame.wpQuiet_want rfl fun K hK => quiet_load 28 (.tmp 3) rfl (q3) rfl 28 _ (0, 0) _ (fun _ h => Calm.at X5.out h) Try.underlying28 rfl size28 (hK _ ?_)
  refine BigFrame.wpQuiet_want rfl fun K hK => ?_
  try simp only [Act.put, List.setIfInBounds_toArray, List.set_cons_succ, List.set_cons_zero]
  go_big_quiet_op
  refine ⟨_, Calm.calls c5, hK _ ?_⟩
  refine BigFrame.wpQuiet_want rfl fun K hK => ?_
  try simp only [Act.put, List.setIfInBounds_toArray, List.set_cons_succ, List.set_cons_zero]
  go_big_quiet_op
  refine ⟨_, fun _ _ => rfl, hK _ ?_⟩
  refine BigFrame.wpQuiet_want rfl fun K hK => ?_
  try simp only [Act.put, List.setIfInBounds_toArray, List.set_cons_succ, List.set_cons_zero]
  go_big_quiet_op
  refine ⟨_, fun _ _ => rfl, hK _ ?_⟩
  refine wpQuiet_nil ?_
  intro w6 hw6
  try simp only [Act.put, List.setIfInBounds_toArray, List.set_cons_succ, List.set_cons_zero]
  have A6 : Hid (Ar w6 w.heap.size 22 .u8 l) := Calm.at A5.out hw6
  have C6 : Hid (Ar w6 q4 22 .u8 c) := Calm.at C5.out hw6
  have F6 : Hid (Fr (fun _ => False) w w6) := F5.out.trans hw6
  clear hw6 A5 X5 C5 O5 F5 c1 c2 c3 c4 c5
  obtain ⟨y, hy⟩ : ∃ y, y = c.getD 31 0 := ⟨_, rfl⟩
  have gy := getD_some (l := c) (i := 31) (by rw [HM.out.2.1]; omega)
  rw [← hy] at gy
  have ky := C6.out.cell gy
  have y127 : y ≤ 127 := by rw [hy, HE.out.1]; exact top_127 HE.out.2.1
  have cby : Bys c := by rw [HE.out.1]; exact lb_bys _ _
  have y0 : 0 ≤ y := (cby y (List.mem_of_getElem? gy)).1
  have yd : decide (127 < y) = false := by simp; omega
  obtain ⟨tb, htb⟩ : ∃ tb, (y == 127) = tb := ⟨_, rfl⟩
  have HT : Hid (tb = tp c 0) := by show _ = _; rw [← htb, hy]; rfl
  have HC := Lib.hid cby
  have HY := Lib.hid hy
  clear gy hy cby
  go_upto_region 10 with (fail)
  go_wp2
  go_loopw [6, 7] (fun u6 u7 wr => ∃ (k : Nat) (t : Bool), u7 = .int .i64 ((k + 1 : Nat) : Int) ∧ u6 = .bool t ∧ k ≤ 30 ∧ Hid (t = tp c k) ∧ Hid (wr = w6))
    (fun _ u7 _ => 31 - (intOf u7).toNat)
  case atStart => exact ⟨0, tb, rfl, rfl, by omega, HT, rfl⟩
  case round =>
    obtain ⟨k, t, rfl, rfl, hk, ht, hwr⟩ := hrel
    obtain rfl := hwr.out
    by_cases hlt : k < 30
    · obtain ⟨z, hz'⟩ : ∃ z, z = c.getD (k + 1) 0 := ⟨_, rfl⟩
      have gz := getD_some (l := c) (i := k + 1) (by rw [HM.out.2.1]; omega)
      rw [← hz'] at gz
      have kz := C6.out.cell gz
      obtain ⟨zb, hzb⟩ : ∃ zb, (z == 255) = zb := ⟨_, rfl⟩
      have HZ' : Hid ((t && zb) = tp c (k + 1)) := by
        show _ = _
        simp only [tp]
        rw [← ht.out, ← hzb, hz']
      have hkk : ((k + 1 : Nat) : Int) < 31 := by omega
      have hk0 : (0 : Int) ≤ ((k + 1 : Nat) : Int) := by omega
      have hk32 : ((k + 1 : Nat) : Int) < 32 := by omega
      have htn : (((k + 1 : Nat) : Int)).toNat = k + 1 := by omega
      clear gz hz'
      cases t
      · go_wp2
        go_roundw
        case rel => exact ⟨k + 1, false, by go_num, rfl, by omega, by show _ = _; have := HZ'.out; simpa using this, trivial⟩
        case measure => simp [intOf]; omega
      · go_wp2
        go_roundw
        case rel => exact ⟨k + 1, zb, by go_num, rfl, by omega, by show _ = _; have := HZ'.out; simpa using this, trivial⟩
        case measure => simp [intOf]; omega
    · obtain rfl : k = 30 := by omega
      obtain ⟨c0, hc0⟩ : ∃ z, z = c.getD 0 0 := ⟨_, rfl⟩
      have gc0 := getD_some (l := c) (i := 0) (by rw [HM.out.2.1]; omega)
      rw [← hc0] at gc0
      have kc0 := C6.out.cell gc0
      have hd : t = true → decide (237 ≤ c0) = false := fun e => by
        have h := low_237 HE.out.2.1 (by rw [← HE.out.1, ← ht.out]; exact e)
        rw [← HE.out.1, ← hc0] at h
        simp; omega
      clear gc0 hc0 ht hwr hlt hk
      cases t
      case true =>
        have hd' := hd rfl
        clear hd
        go_upto_region 16 with (fail)
        obtain ⟨q8, hq8⟩ : ∃ q, q = wr.heap.size := ⟨_, rfl⟩
        go_upto_region 17 with (fail)
        rw [← hq8]
        obtain ⟨w7, hW⟩ : ∃ W, W = wr.alloc (.cells (vs .u8 Z) 22) := ⟨_, rfl⟩
        have A7 : Hid (Ar w7 w.heap.size 22 .u8 l) := by show Ar _ _ _ _ _; rw [hW]; exact A6.out.alloc _
        have Z7 : Hid (Ar w7 q8 22 .u8 Z) := by show Ar _ _ _ _ _; rw [hW, hq8]; exact Ar.new _ _ _ _
        have F7 : Hid (Fr (fun _ => False) w w7) := by show Fr _ _ _; rw [hW]; exact F6.out.alloc _
        have sq8 : w.heap.size ≤ q8 := by rw [hq8]; exact F6.out.size
        rw [← hW]
        try clear hd'
        clear hW hq8 A6 C6 F6 ky kc0
        have k1 := A7.out.cell HG.out.2
        go_wp2_with fail
        refine (c6 _).mono ?_
        rintro e w8 ⟨rfl, hw8⟩
        have Z8 : Hid (Ar w8 q8 22 .u8 Z) := Z7.out.fr hw8 (fun x => x)
        have F8 : Hid (Fr (fun _ => False) w w8) := F7.out.trans hw8
        have k2 := Z8.out.frozen 0
        have k3 := Z8.out.cell (i := 0) (x := 0) (by rw [HE.out.2.2.2.1]; rfl)
        clear hw8 A7 Z7 F7 k1
        go_upto_region 18 with (fail)
        have L9 : Hid (Ar (w8.setCell ⟨q8, 0, none⟩ (.int .u8 s)) q8 22 .u8 ls) := by
          show Ar _ _ _ _ _
          rw [HE.out.2.2.2.2.2.1]
          exact Z8.out.set 0 s
        have F9 : Hid (Fr (fun _ => False) w (w8.setCell ⟨q8, 0, none⟩ (.int .u8 s))) := F8.out.setCell _ (.inr sq8)
        generalize (w8.setCell ⟨q8, 0, none⟩ (.int .u8 s)) = w9 at *
        clear Z8 F8 k2 k3
        obtain ⟨q9, hq9⟩ : ∃ q, q = w9.heap.size := ⟨_, rfl⟩
        have s9 : q8 < q9 := by rw [hq9]; exact L9.out.lt
        go_upto_region 19 with (refine wpList_store_row rfl 22 (.tmp 9) (.tmp 61) rfl w9.heap.size (vs .u8 Z) rfl rfl 22 (vs .u8 Z) (heap_alloc_new w9 _) (HS.out _ HM.out.2.2.2.1) rfl (vs_all _ _) ?_)
        try simp only [Act.put, List.setIfInBounds_toArray, List.set_cons_succ, List.set_cons_zero]
        rw [← hq9]
        have sF : F.length = 32 := HM.out.2.2.2.2.1
        have gF : ∀ k, k < 32 → F[k]? = some 255 := fun k hk => by rw [HE.out.2.2.2.2.1, List.getElem?_replicate, if_pos hk]
        have gf : ∀ k, k < 32 → (fil F k 0)[k]? = some 0 := fun k hk => by
          unfold fil
          rw [List.getElem?_append_right (by rw [List.length_take]; omega), List.length_take, sF, show k - min k 32 = 0 by omega, show (32 - k : Nat) = 31 - k + 1 by omega]
          rfl
        have f0 : fil F 0 0 = Z := by rw [fil_zero, sF, HE.out.2.2.2.1]
        have HF0 := Lib.hid (And.intro sF (And.intro gF gf))
        have N10 : Hid (Ar ((w9.alloc (.cells (vs .u8 Z) 22)).setRow q9 (vs .u8 Z)) q9 22 .u8 (fil F 0 0)) := by
          show Ar _ _ _ _ _
          rw [f0, hq9]
          exact (Ar.new w9 22 .u8 Z).row Z
        have L10 : Hid (Ar ((w9.alloc (.cells (vs .u8 Z) 22)).setRow q9 (vs .u8 Z)) q8 22 .u8 ls) := (L9.out.alloc _).rowFar (by omega) _
        have F10 : Hid (Fr (fun _ => False) w ((w9.alloc (.cells (vs .u8 Z) 22)).setRow q9 (vs .u8 Z))) := (F9.out.alloc _).setRow _ (.inr (by omega))
        generalize ((w9.alloc (.cells (vs .u8 Z) 22)).setRow q9 (vs .u8 Z)) = w10 at *
        clear L9 F9 f0 hq9 sF gF gf
        go_wp2
        go_loopw [10] (fun u10 wz => ∃ (k : Nat), u10 = .int .i64 (k : Int) ∧ k ≤ 32 ∧ Hid (Ar wz q9 22 .u8 (fil F k 0)) ∧ Hid (Ar wz q8 22 .u8 ls) ∧ Hid (Fr (fun _ => False) w wz))
          (fun u10 _ => 32 - (intOf u10).toNat)
        case atStart => exact ⟨0, rfl, by omega, N10, L10, F10⟩
        case round =>
          obtain ⟨k, rfl, hk, N11, L11, F11⟩ := hrel
          clear N10 L10 F10
          by_cases hlt : k < 32
          · have k1 := N11.out.cell (HF0.out.2.2 k hlt)
            have k2 := N11.out.frozen k
            have hkk : ((k : Nat) : Int) < 32 := by omega
            have hk0 : (0 : Int) ≤ ((k : Nat) : Int) := by omega
            have htn : (((k : Nat) : Int)).toNat = k := by omega
            have N12 : Hid (Ar (wr.setCell ⟨q9, k, none⟩ (.int .u8 255)) q9 22 .u8 (fil F (k + 1) 0)) := by
              show Ar _ _ _ _ _
              rw [← fil_set F k 0 255 (HF0.out.2.1 k hlt)]
              exact N11.out.set k 255
            have L12 : Hid (Ar (wr.setCell ⟨q9, k, none⟩ (.int .u8 255)) q8 22 .u8 ls) := L11.out.far (by simp <;> omega) _
            have F12 : Hid (Fr (fun _ => False) w (wr.setCell ⟨q9, k, none⟩ (.int .u8 255))) := F11.out.setCell _ (.inr (by simp <;> omega))
            go_wp2
            go_roundw
            case rel => exact ⟨k + 1, by go_num, by omega, N12, L12, F12⟩
            case measure => simp [intOf]; omega
          · obtain rfl : k = 32 := by omega
            have N13 : Hid (Ar wr q9 22 .u8 F) := by
              show Ar _ _ _ _ _
              have h := fil_all F (0 : Int)
              rw [HF0.out.1] at h
              have h2 := N11.out
              rwa [h] at h2
            have k1 := N13.out.cell (HF0.out.2.1 31 (by omega))
            have k2 := N13.out.frozen 31
            go_upto_region 24 with (fail)
            have N14 : Hid (Ar (wr.setCell ⟨q9, 31, none⟩ (.int .u8 127)) q9 22 .u8 (F.set 31 127)) := N13.out.set 31 127
            have L14 : Hid (Ar (wr.setCell ⟨q9, 31, none⟩ (.int .u8 127)) q8 22 .u8 ls) := L11.out.far (by simp <;> omega) _
            have F14 : Hid (Fr (fun _ => False) w (wr.setCell ⟨q9, 31, none⟩ (.int .u8 127))) := F11.out.setCell _ (.inr (by simp <;> omega))
            generalize (wr.setCell ⟨q9, 31, none⟩ (.int .u8 127)) = w14 at *
            clear N11 L11 F11 N13 k1 k2
            have k1 := L14.out.cell (i := 0) (x := s) (by rw [HE.out.2.2.2.2.2.1, HE.out.2.2.2.1]; rfl)
            have k2 := N14.out.frozen 0
            have k3 := N14.out.cell (i := 0) (x := 255) (by rw [List.getElem?_set_ne (by omega)]; exact HF0.out.2.1 0 (by omega))
            have hs1 : (s + 237) % 256 = s + 237 := by omega
            go_upto_region 25 with (fail)
            have N15 : Hid (Ar (w14.setCell ⟨q9, 0, none⟩ (.int .u8 (s + 237))) q9 22 .u8 lm) := by
              show Ar _ _ _ _ _
              rw [HE.out.2.2.2.2.2.2]
              exact N14.out.set 0 (s + 237)
            have L15 : Hid (Ar (w14.setCell ⟨q9, 0, none⟩ (.int .u8 (s + 237))) q8 22 .u8 ls) := L14.out.far (by simp <;> omega) _
            have F15 : Hid (Fr (fun _ => False) w (w14.setCell ⟨q9, 0, none⟩ (.int .u8 (s + 237)))) := F14.out.setCell _ (.inr (by simp <;> omega))
            generalize (w14.setCell ⟨q9, 0, none⟩ (.int .u8 (s + 237))) = w15 at *
            clear N14 L14 F14 k1 k2 k3
            refine wp_region_quiet (C := Calm w15) (by kernel_rfl) (by kernel_rfl) (Calm.start _ _ (Fr.refl _ _)) ?_
            refine BigFrame.wpQuiet_want rfl fun K hK => quiet_load 22 (.tmp 8) rfl (q8) rfl 22 _ (0, 0) _ (fun _ h => Calm.at L15.out h) Try.underlying22 rfl (HS.out _ HM.out.2.2.2.2.2.1) (hK _ ?_)
            refine BigFrame.wpQuiet_want rfl fun K hK => ?_
            try simp only [Act.put, List.setIfInBounds_toArray, List.set_cons_succ, List.set_cons_zero]
            go_big_quiet_op
            refine ⟨_, Calm.calls c7, hK _ ?_⟩
            refine BigFrame.wpQuiet_want rfl fun K hK => quiet_load 22 (.tmp 9) rfl (q9) rfl 22 _ (0, 0) _ (fun _ h => Calm.at N15.out h) Try.underlying22 rfl (HS.out _ HM.out.2.2.2.2.2.2) (hK _ ?_)
            refine BigFrame.wpQuiet_want rfl fun K hK => ?_
            try simp only [Act.put, List.setIfInBounds_toArray, List.set_cons_succ, List.set_cons_zero]
            go_big_quiet_op
            refine ⟨_, Calm.calls c8, hK _ ?_⟩
            refine BigFrame.wpQuiet_want rfl fun K hK => ?_
            try simp only [Act.put, List.setIfInBounds_toArray, List.set_cons_succ, List.set_cons_zero]
            go_big_quiet_op
            refine ⟨_, Calm.calls c9, hK _ ?_⟩
            refine BigFrame.wpQuiet_want rfl fun K hK => ?_
            try simp only [Act.put, List.setIfInBounds_toArray, List.set_cons_succ, List.set_cons_zero]
            go_big_quiet_op
            refine hK _ ?_
            refine BigFrame.wpQuiet_want rfl fun K hK => ?_
            try simp only [Act.put, List.setIfInBounds_toArray, List.set_cons_succ, List.set_cons_zero]
            go_big_quiet_op
            refine ⟨_, Calm.calls c10, hK _ ?_⟩
            refine BigFrame.wpQuiet_want rfl fun K hK => ?_
            try simp only [Act.put, List.setIfInBounds_toArray, List.set_cons_succ, List.set_cons_zero]
            go_big_quiet_op
            refine ⟨_, fun _ _ => rfl, hK _ ?_⟩
            refine BigFrame.wpQuiet_want rfl fun K hK => ?_
            try simp only [Act.put, List.setIfInBounds_toArray, List.set_cons_succ, List.set_cons_zero]
            go_big_quiet_op
            refine hK _ ?_
            refine wpQuiet_nil ?_
            intro w16 hw16
            try simp only [Act.put, List.setIfInBounds_toArray, List.set_cons_succ, List.set_cons_zero]
            have F16 := F15.out.trans hw16
            go_wp2
            go_ret
            exact ⟨rfl, F16⟩
      case false =>
        clear hd
        go_upto_region 16 with (fail)
        obtain ⟨q8, hq8⟩ : ∃ q, q = wr.heap.size := ⟨_, rfl⟩
        go_upto_region 17 with (fail)
        rw [← hq8]
        obtain ⟨w7, hW⟩ : ∃ W, W = wr.alloc (.cells (vs .u8 Z) 22) := ⟨_, rfl⟩
        have A7 : Hid (Ar w7 w.heap.size 22 .u8 l) := by show Ar _ _ _ _ _; rw [hW]; exact A6.out.alloc _
        have Z7 : Hid (Ar w7 q8 22 .u8 Z) := by show Ar _ _ _ _ _; rw [hW, hq8]; exact Ar.new _ _ _ _
        have F7 : Hid (Fr (fun _ => False) w w7) := by show Fr _ _ _; rw [hW]; exact F6.out.alloc _
        have sq8 : w.heap.size ≤ q8 := by rw [hq8]; exact F6.out.size
        rw [← hW]
        try clear hd'
        clear hW hq8 A6 C6 F6 ky kc0
        have k1 := A7.out.cell HG.out.2
        go_wp2_with fail
        refine (c6 _).mono ?_
        rintro e w8 ⟨rfl, hw8⟩
        have Z8 : Hid (Ar w8 q8 22 .u8 Z) := Z7.out.fr hw8 (fun x => x)
        have F8 : Hid (Fr (fun _ => False) w w8) := F7.out.trans hw8
        have k2 := Z8.out.frozen 0
        have k3 := Z8.out.cell (i := 0) (x := 0) (by rw [HE.out.2.2.2.1]; rfl)
        clear hw8 A7 Z7 F7 k1
        go_upto_region 18 with (fail)
        have L9 : Hid (Ar (w8.setCell ⟨q8, 0, none⟩ (.int .u8 s)) q8 22 .u8 ls) := by
          show Ar _ _ _ _ _
          rw [HE.out.2.2.2.2.2.1]
          exact Z8.out.set 0 s
        have F9 : Hid (Fr (fun _ => False) w (w8.setCell ⟨q8, 0, none⟩ (.int .u8 s))) := F8.out.setCell _ (.inr sq8)
        generalize (w8.setCell ⟨q8, 0, none⟩ (.int .u8 s)) = w9 at *
        clear Z8 F8 k2 k3
        obtain ⟨q9, hq9⟩ : ∃ q, q = w9.heap.size := ⟨_, rfl⟩
        have s9 : q8 < q9 := by rw [hq9]; exact L9.out.lt
        go_upto_region 19 with (refine wpList_store_row rfl 22 (.tmp 9) (.tmp 61) rfl w9.heap.size (vs .u8 Z) rfl rfl 22 (vs .u8 Z) (heap_alloc_new w9 _) (HS.out _ HM.out.2.2.2.1) rfl (vs_all _ _) ?_)
        try simp only [Act.put, List.setIfInBounds_toArray, List.set_cons_succ, List.set_cons_zero]
        rw [← hq9]
        have sF : F.length = 32 := HM.out.2.2.2.2.1
        have gF : ∀ k, k < 32 → F[k]? = some 255 := fun k hk => by rw [HE.out.2.2.2.2.1, List.getElem?_replicate, if_pos hk]
        have gf : ∀ k, k < 32 → (fil F k 0)[k]? = some 0 := fun k hk => by
          unfold fil
          rw [List.getElem?_append_right (by rw [List.length_take]; omega), List.length_take, sF, show k - min k 32 = 0 by omega, show (32 - k : Nat) = 31 - k + 1 by omega]
          rfl
        have f0 : fil F 0 0 = Z := by rw [fil_zero, sF, HE.out.2.2.2.1]
        have HF0 := Lib.hid (And.intro sF (And.intro gF gf))
        have N10 : Hid (Ar ((w9.alloc (.cells (vs .u8 Z) 22)).setRow q9 (vs .u8 Z)) q9 22 .u8 (fil F 0 0)) := by
          show Ar _ _ _ _ _
          rw [f0, hq9]
          exact (Ar.new w9 22 .u8 Z).row Z
        have L10 : Hid (Ar ((w9.alloc (.cells (vs .u8 Z) 22)).setRow q9 (vs .u8 Z)) q8 22 .u8 ls) := (L9.out.alloc _).rowFar (by omega) _
        have F10 : Hid (Fr (fun _ => False) w ((w9.alloc (.cells (vs .u8 Z) 22)).setRow q9 (vs .u8 Z))) := (F9.out.alloc _).setRow _ (.inr (by omega))
        generalize ((w9.alloc (.cells (vs .u8 Z) 22)).setRow q9 (vs .u8 Z)) = w10 at *
        clear L9 F9 f0 hq9 sF gF gf
        go_wp2
        go_loopw [10] (fun u10 wz => ∃ (k : Nat), u10 = .int .i64 (k : Int) ∧ k ≤ 32 ∧ Hid (Ar wz q9 22 .u8 (fil F k 0)) ∧ Hid (Ar wz q8 22 .u8 ls) ∧ Hid (Fr (fun _ => False) w wz))
          (fun u10 _ => 32 - (intOf u10).toNat)
        case atStart => exact ⟨0, rfl, by omega, N10, L10, F10⟩
        case round =>
          obtain ⟨k, rfl, hk, N11, L11, F11⟩ := hrel
          clear N10 L10 F10
          by_cases hlt : k < 32
          · have k1 := N11.out.cell (HF0.out.2.2 k hlt)
            have k2 := N11.out.frozen k
            have hkk : ((k : Nat) : Int) < 32 := by omega
            have hk0 : (0 : Int) ≤ ((k : Nat) : Int) := by omega
            have htn : (((k : Nat) : Int)).toNat = k := by omega
            have N12 : Hid (Ar (wr.setCell ⟨q9, k, none⟩ (.int .u8 255)) q9 22 .u8 (fil F (k + 1) 0)) := by
              show Ar _ _ _ _ _
              rw [← fil_set F k 0 255 (HF0.out.2.1 k hlt)]
              exact N11.out.set k 255
            have L12 : Hid (Ar (wr.setCell ⟨q9, k, none⟩ (.int .u8 255)) q8 22 .u8 ls) := L11.out.far (by simp <;> omega) _
            have F12 : Hid (Fr (fun _ => False) w (wr.setCell ⟨q9, k, none⟩ (.int .u8 255))) := F11.out.setCell _ (.inr (by simp <;> omega))
            go_wp2
            go_roundw
            case rel => exact ⟨k + 1, by go_num, by omega, N12, L12, F12⟩
            case measure => simp [intOf]; omega
          · obtain rfl : k = 32 := by omega
            have N13 : Hid (Ar wr q9 22 .u8 F) := by
              show Ar _ _ _ _ _
              have h := fil_all F (0 : Int)
              rw [HF0.out.1] at h
              have h2 := N11.out
              rwa [h] at h2
            have k1 := N13.out.cell (HF0.out.2.1 31 (by omega))
            have k2 := N13.out.frozen 31
            go_upto_region 24 with (fail)
            have N14 : Hid (Ar (wr.setCell ⟨q9, 31, none⟩ (.int .u8 127)) q9 22 .u8 (F.set 31 127)) := N13.out.set 31 127
            have L14 : Hid (Ar (wr.setCell ⟨q9, 31, none⟩ (.int .u8 127)) q8 22 .u8 ls) := L11.out.far (by simp <;> omega) _
            have F14 : Hid (Fr (fun _ => False) w (wr.setCell ⟨q9, 31, none⟩ (.int .u8 127))) := F11.out.setCell _ (.inr (by simp <;> omega))
            generalize (wr.setCell ⟨q9, 31, none⟩ (.int .u8 127)) = w14 at *
            clear N11 L11 F11 N13 k1 k2
            have k1 := L14.out.cell (i := 0) (x := s) (by rw [HE.out.2.2.2.2.2.1, HE.out.2.2.2.1]; rfl)
            have k2 := N14.out.frozen 0
            have k3 := N14.out.cell (i := 0) (x := 255) (by rw [List.getElem?_set_ne (by omega)]; exact HF0.out.2.1 0 (by omega))
            have hs1 : (s + 237) % 256 = s + 237 := by omega
            go_upto_region 25 with (fail)
            have N15 : Hid (Ar (w14.setCell ⟨q9, 0, none⟩ (.int .u8 (s + 237))) q9 22 .u8 lm) := by
              show Ar _ _ _ _ _
              rw [HE.out.2.2.2.2.2.2]
              exact N14.out.set 0 (s + 237)
            have L15 : Hid (Ar (w14.setCell ⟨q9, 0, none⟩ (.int .u8 (s + 237))) q8 22 .u8 ls) := L14.out.far (by simp <;> omega) _
            have F15 : Hid (Fr (fun _ => False) w (w14.setCell ⟨q9, 0, none⟩ (.int .u8 (s + 237)))) := F14.out.setCell _ (.inr (by simp <;> omega))
            generalize (w14.setCell ⟨q9, 0, none⟩ (.int .u8 (s + 237))) = w15 at *
            clear N14 L14 F14 k1 k2 k3
            refine wp_region_quiet (C := Calm w15) (by kernel_rfl) (by kernel_rfl) (Calm.start _ _ (Fr.refl _ _)) ?_
            refine BigFrame.wpQuiet_want rfl fun K hK => quiet_load 22 (.tmp 8) rfl (q8) rfl 22 _ (0, 0) _ (fun _ h => Calm.at L15.out h) Try.underlying22 rfl (HS.out _ HM.out.2.2.2.2.2.1) (hK _ ?_)
            refine BigFrame.wpQuiet_want rfl fun K hK => ?_
            try simp only [Act.put, List.setIfInBounds_toArray, List.set_cons_succ, List.set_cons_zero]
            go_big_quiet_op
            refine ⟨_, Calm.calls c7, hK _ ?_⟩
            refine BigFrame.wpQuiet_want rfl fun K hK => quiet_load 22 (.tmp 9) rfl (q9) rfl 22 _ (0, 0) _ (fun _ h => Calm.at N15.out h) Try.underlying22 rfl (HS.out _ HM.out.2.2.2.2.2.2) (hK _ ?_)
            refine BigFrame.wpQuiet_want rfl fun K hK => ?_
            try simp only [Act.put, List.setIfInBounds_toArray, List.set_cons_succ, List.set_cons_zero]
            go_big_quiet_op
            refine ⟨_, Calm.calls c8, hK _ ?_⟩
            refine BigFrame.wpQuiet_want rfl fun K hK => ?_
            try simp only [Act.put, List.setIfInBounds_toArray, List.set_cons_succ, List.set_cons_zero]
            go_big_quiet_op
            refine ⟨_, Calm.calls c9, hK _ ?_⟩
            refine BigFrame.wpQuiet_want rfl fun K hK => ?_
            try simp only [Act.put, List.setIfInBounds_toArray, List.set_cons_succ, List.set_cons_zero]
            go_big_quiet_op
            refine hK _ ?_
            refine BigFrame.wpQuiet_want rfl fun K hK => ?_
            try simp only [Act.put, List.setIfInBounds_toArray, List.set_cons_succ, List.set_cons_zero]
            go_big_quiet_op
            refine ⟨_, Calm.calls c10, hK _ ?_⟩
            refine BigFrame.wpQuiet_want rfl fun K hK => ?_
            try simp only [Act.put, List.setIfInBounds_toArray, List.set_cons_succ, List.set_cons_zero]
            go_big_quiet_op
            refine ⟨_, fun _ _ => rfl, hK _ ?_⟩
            refine BigFrame.wpQuiet_want rfl fun K hK => ?_
            try simp only [Act.put, List.setIfInBounds_toArray, List.set_cons_succ, List.set_cons_zero]
            go_big_quiet_op
            refine hK _ ?_
            refine wpQuiet_nil ?_
            intro w16 hw16
            try simp only [Act.put, List.setIfInBounds_toArray, List.set_cons_succ, List.set_cons_zero]
            have F16 := F15.out.trans hw16
            go_wp2
            go_ret
            exact ⟨rfl, F16⟩

set_option maxRecDepth 100000 in
theorem law_bytes_lifted (os : Os) (started : os.Started) (H : Type) (enc : TypeId × Value → H) :
    ReturnsInHanded {} Try.checked os 11 .any (Rows.fieldBytesSpec.pre6 enc Try.prog Try.f11 Rows.fieldBytesRow.domain false) (Rows.fieldBytesSpec.post enc Try.prog Try.f11 false true false false) := by
  refine returnsInHanded_of_change (C := Try.checked) own started (by kernel_rfl) Try.func11
    (ChangeSpec.witness6 (enc := enc) (C := Try.checked) false ⟨#[], #[.agg (vs .u8 (List.replicate 32 0))], []⟩ 8 (by kernel_rfl) (by kernel_rfl) (by kernel_rfl) (by kernel_rfl)) ?_
  intro W base args ds gs before hval0 hW hcnd _
  have hval : ∀ (j : Nat) t v, Try.f11.params[j]? = some t → args[j]? = some v → Value.okWide Try.prog W .any base t v := hval0
  have hW' := hW
  obtain ⟨p, q, hA0, hV, rfl, hfz, hnd⟩ := hW
  have hA : DataW.TrodAll enc Try.prog W 0 (fun _ => true) true Try.f11.params.toList args.toList ds p := hA0
  rw [Try.params11] at hA hval
  obtain ⟨v0, vs0, d0, ds0, p0, q0, hargs, rfl, rfl, h0, r0⟩ := trodAll_cons hA
  obtain ⟨rfl, rfl, rfl⟩ := trodAll_nil r0
  obtain rfl : args = #[v0] := by cases args; simp_all
  obtain ⟨rfl, rfl⟩ := trodVars_none hV
  obtain ⟨l0, rfl, e0, b0⟩ := open_bytes (hval 0 22 v0 rfl rfl) h0
  clear hA0 hval0
  refine (law_bytes_any l0 W e0 b0).mono fun e W' ⟨he, hg⟩ => ?_
  subst he
  exact ⟨_, rfl, post_true rfl hW' (by kernel_rfl) rfl rfl hg⟩

theorem fieldBytes_holds : Rows.FieldBytesSaid :=
  OpenClaim.holds_of_wide 11 Try.f11 rfl rfl rfl rfl rfl rfl rfl ⟨rfl, rfl, rfl, rfl, rfl⟩ rfl rfl rfl rfl rfl (by kernel_rfl) Try.func11 (by kernel_rfl)
    (of_decide_eq_true (by kernel_rfl)) (by unfold Func.isWrapper; first | (rw [if_pos (by decide +kernel)]; kernel_rfl) | (rw [if_neg (by decide +kernel)]; exact ⟨rfl, rfl⟩))
    (fun os started H enc _ => law_bytes_lifted os started H enc)
#print axioms fieldBytes_holds
end Go.Proofs.Ytmhoblefpkjdlaa
