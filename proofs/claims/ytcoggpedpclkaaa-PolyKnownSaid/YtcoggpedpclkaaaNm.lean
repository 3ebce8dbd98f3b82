/- Loads of parts of a block; poly.words, poly.numberOf: contracts. Conditions: bytes, their number. -/
import Derived.Test.YtcoggpedpclkaaaM
import Derived.Laws.Cover3
namespace Go.Proofs.Ytcoggpedpclkaaa
set_option linter.unusedSimpArgs false
set_option linter.unusedVariables false
open Go.RowKit

section
variable {C : World → Prop} {a : Act} {o : Oper} {K : Act → Prop}
/-- A part of a block, an array of integers, is loaded. -/
theorem quiet_mid (ty : TypeId) (d : TypeDesc) (x : Operand) (ho : o.op = .load ty x) (q i : Nat) (hx : a.eval x = .pointer (some ⟨q, i, none⟩)) (k : IntKind) (l : List Int) (hd : Try.prog.underlying ty = some d) (hr : d.isRow = true) (hl : (Try.prog.info? ty).map (·.size) = some l.length) (hg : ∀ w, C w → w.rangeAt q i (vs k l).toList)
    (hk : K (a.put o.dst (.agg (vs k l)))) : o.quiet Try.prog a C K := by
  refine quiet_run _ (fun w hw => ?_) hk
  unfold execOp
  simp only [ho, hx, Instr.loadAt, Instr.sureAddr, Sem.run_bind, Sem.run_pure, Result.andThen_ok, run_loadVar_mid (P := Try.prog) w q i ty (vs k l).toList _ (hg w hw) hd hr (by rw [hl]; simp [vs])]
/-- One cell is loaded. -/
theorem quiet_one (ty : TypeId) (k : IntKind) (x : Operand) (ho : o.op = .load ty x) (q i : Nat) (hx : a.eval x = .pointer (some ⟨q, i, none⟩)) (y : Int) (he : Try.prog.underlying ty = some (.int k)) (hg : ∀ w, C w → w.cell? ⟨q, i, none⟩ = some (.int k y))
    (hk : K (a.put o.dst (.int k y))) : o.quiet Try.prog a C K := by
  refine quiet_run _ (fun w hw => ?_) hk
  have hc := hg w hw
  unfold execOp
  simp [ho, hx, Instr.loadAt, Instr.sureAddr, loadVar, isAgg, run_underlying he, hc, Sem.run_bind, Sem.run_pure, Result.andThen_ok]
end
theorem run_arr {a : Act} {o : Oper} (ty : TypeId) (x : Operand) (ho : o.op = .sliceToArrayPointer ty x) (A : Option Addr) (n c : Nat) {m : Nat} {e : TypeId} (hx : a.eval x = .slice A n c) (hd : Try.prog.underlying ty = some (.array m e)) (hm : m ≤ n) (W : World) :
    (execOp a.eval o).run Try.prog W = .ok (.value (.pointer A)) W := by
  unfold execOp
  simp only [ho, hx, Sem.run_bind, run_arrayAt W ty e m A n c hd hm, Result.andThen_ok, Sem.run_pure]
theorem Ar.take {w : World} {g : Nat} {t : TypeId} {k : IntKind} {l : List Int} (h : Ar w g t k l) (n : Nat) : w.rangeAt g 0 (vs k (l.take n)).toList := fun j v hv => by
  rw [Nat.zero_add, cell_of_row w g j _ _ _ h, vs_get]
  simp only [vs, Array.toList_map, List.getElem?_map, List.getElem?_take] at hv
  split at hv
  · exact hv
  · cases hv
theorem Ar.drop {w : World} {g : Nat} {t : TypeId} {k : IntKind} {l : List Int} (h : Ar w g t k l) (n : Nat) : w.rangeAt g n (vs k (l.drop n)).toList := fun j v hv => by
  rw [cell_of_row w g (n + j) _ _ _ h, vs_get]
  simpa [vs] using hv
theorem info26 : (Try.prog.info? 26).map (·.size) = some 16 := by kernel_rfl
theorem info62 : (Try.prog.info? 62).map (·.size) = some 8 := by kernel_rfl
theorem info47 : (Try.prog.info? 47).map (·.size) = some 2 := by kernel_rfl
theorem info46 : (Try.prog.info? 46).map (·.size) = some 3 := by kernel_rfl
theorem info23 : (Try.prog.info? 23).map (·.size) = some 32 := by kernel_rfl
theorem zero26 (w : World) : (zeroValue 26).run Try.prog w = .ok (.agg (vs .u8 (List.replicate 16 0))) w := by kernel_rfl
theorem zero46 (w : World) : (zeroValue 46).run Try.prog w = .ok (.agg (vs .u64 [0, 0, 0])) w := by kernel_rfl
theorem zero47 (w : World) : (zeroValue 47).run Try.prog w = .ok (.agg (vs .u64 [0, 0])) w := by kernel_rfl

set_option maxRecDepth 100000 in
set_option maxHeartbeats 4000000 in
theorem words_is (l : List Int) (w : World) (hl : l.length = 16) (hb : Bys l) :
    Calls Try.prog 32 #[.agg (vs .u8 l)] w fun e w' => e = .returned (.agg (vs .u64 [vl (l.take 8), vl (l.drop 8)])) ∧ Fr (fun _ => False) w w' := by
  obtain ⟨A, hA⟩ : ∃ A, A = l.take 8 := ⟨_, rfl⟩
  obtain ⟨B, hB⟩ : ∃ B, B = l.drop 8 := ⟨_, rfl⟩
  have lA : A.length = 8 := by rw [hA, List.length_take, hl]; rfl
  have lB : B.length = 8 := by rw [hB, List.length_drop, hl]
  have C1 : ∀ W, Calls Try.prog 37 #[.agg (vs .u8 A)] W fun e w' => e = .returned (.int .u64 (vl A)) ∧ Fr (fun _ => False) W w' := fun W => word_is A W lA (by rw [hA]; exact hb.take 8)
  have C2 : ∀ W, Calls Try.prog 37 #[.agg (vs .u8 B)] W fun e w' => e = .returned (.int .u64 (vl B)) ∧ Fr (fun _ => False) W w' := fun W => word_is B W lB (by rw [hB]; exact hb.drop 8)
  have sA : Hid ((Try.prog.info? 62).map (·.size) = some A.length) := by show _ = _; rw [lA]; exact info62
  have sB : Hid ((Try.prog.info? 62).map (·.size) = some B.length) := by show _ = _; rw [lB]; exact info62
  have HA := Lib.hid hA
  have HB := Lib.hid hB
  rw [← hA, ← hB]
  obtain ⟨a, ha⟩ : ∃ a, a = vl A := ⟨_, rfl⟩
  obtain ⟨b, hb'⟩ : ∃ a, a = vl B := ⟨_, rfl⟩
  rw [← ha] at C1 ⊢
  rw [← hb'] at C2 ⊢
  clear hA hB lA lB hb hl ha hb'
  go_enter Try.func32, Try.ntmps32
  go_upto_region 1 with (fail)
  generalize hW : (w.alloc (.cells (vs .u8 l) 26)).alloc (.cells #[.int .u64 0, .int .u64 0] 47) = W0
  have HW := Lib.hid (calm2 hW)
  have X0 : Hid (Ar W0 w.heap.size 26 .u8 l) := HW.out.1
  have X1 : Hid (W0.heap[w.heap.size + 1]? = some (.cells #[.int .u64 0, .int .u64 0] 47)) := HW.out.2.1
  have F0 : Hid (Fr (fun _ => False) w W0) := HW.out.2.2
  clear hW HW
  refine wp_region_quiet_tail (C := Calm W0) 9 (by kernel_rfl) (by kernel_rfl) (Calm.start _ _ (Fr.refl _ _)) ?_
  simp only [List.take_succ_cons, List.take_zero, List.drop_succ_cons, List.drop_zero]
  refine BigFrame.wpQuiet_want rfl fun K hK => ?_
  try simp only [Act.put, List.setIfInBounds_toArray, List.set_cons_succ, List.set_cons_zero]
  go_big_quiet_op
  first
    | refine ⟨_, fun _ _ => rfl, hK _ ?_⟩
    | refine hK _ ?_
  refine BigFrame.wpQuiet_want rfl fun K hK => quiet_run (.pointer (some ⟨w.heap.size, 0, none⟩)) (fun W _ => run_arr 62 (.tmp 3) rfl (some ⟨w.heap.size, 0, none⟩) 8 16 rfl Try.underlying62 (by decide) W) (hK _ ?_)
  refine BigFrame.wpQuiet_want rfl fun K hK => quiet_mid 62 _ (.tmp 4) rfl (w.heap.size) 0 rfl .u8 (A) Try.underlying62 rfl sA.out (fun _ h => by rw [HA.out]; exact (Ar.fr X0.out h (fun x => x)).take 8) (hK _ ?_)
  refine BigFrame.wpQuiet_want rfl fun K hK => ?_
  try simp only [Act.put, List.setIfInBounds_toArray, List.set_cons_succ, List.set_cons_zero]
  go_big_quiet_op
  refine ⟨_, Calm.calls C1, hK _ ?_⟩
  refine BigFrame.wpQuiet_want rfl fun K hK => ?_
  try simp only [Act.put, List.setIfInBounds_toArray, List.set_cons_succ, List.set_cons_zero]
  go_big_quiet_op
  first
    | refine ⟨_, fun _ _ => rfl, hK _ ?_⟩
    | refine hK _ ?_
  refine BigFrame.wpQuiet_want rfl fun K hK => quiet_run (.pointer (some ⟨w.heap.size, 8, none⟩)) (fun W _ => run_arr 62 (.tmp 7) rfl (some ⟨w.heap.size, 8, none⟩) 8 8 rfl Try.underlying62 (by decide) W) (hK _ ?_)
  refine BigFrame.wpQuiet_want rfl fun K hK => quiet_mid 62 _ (.tmp 8) rfl (w.heap.size) 8 rfl .u8 (B) Try.underlying62 rfl sB.out (fun _ h => by rw [HB.out]; exact (Ar.fr X0.out h (fun x => x)).drop 8) (hK _ ?_)
  refine BigFrame.wpQuiet_want rfl fun K hK => ?_
  try simp only [Act.put, List.setIfInBounds_toArray, List.set_cons_succ, List.set_cons_zero]
  go_big_quiet_op
  refine ⟨_, Calm.calls C2, hK _ ?_⟩
  refine BigFrame.wpQuiet_want rfl fun K hK => ?_
  try simp only [Act.put, List.setIfInBounds_toArray, List.set_cons_succ, List.set_cons_zero]
  go_big_quiet_op
  first
    | refine ⟨_, fun _ _ => rfl, hK _ ?_⟩
    | refine hK _ ?_
  refine wpQuiet_nil ?_
  intro w9 hw9
  have F9 : Hid (Fr (fun _ => False) w w9) := F0.out.trans hw9
  have G9 := Lib.hid hw9
  clear hw9
  try simp only [Act.put, List.setIfInBounds_toArray, List.set_cons_succ, List.set_cons_zero]
  have X2 : Hid (w9.heap[w.heap.size + 1]? = some (.cells #[.int .u64 0, .int .u64 0] 47)) := Calm.at X1.out G9.out
  go_wp2_with (first
    | refine wpList_store_row rfl 47 (.tmp 2) (.tmp 11) rfl (w.heap.size + 1) (vs .u64 [a, b]) rfl rfl 47 _ X2.out (by rw [info47]; rfl) rfl (vs_all _ _) ?_)
  refine bodyPost_ret (results_cell_row Try.results32 _ _ _ 47 _ (0, 0) _ rfl (setRow_heap _ _ _ _ _ _ X2.out) Try.underlying47 rfl (by rw [info47]; rfl)) rfl ⟨rfl, F9.out.setRow _ (.inr (by omega))⟩

/-- The three parts of a number. -/
def num (v : Int) : List Int := [v % 17592186044416, v / 17592186044416 % 17592186044416, v / 309485009821345068724781056]
set_option maxRecDepth 100000 in
set_option maxHeartbeats 4000000 in
theorem numberOf_is (l : List Int) (w : World) (hl : l.length = 16) (hb : Bys l) :
    Calls Try.prog 30 #[.agg (vs .u8 l)] w fun e w' => e = .returned (.agg (vs .u64 (num (vl l)))) ∧ Fr (fun _ => False) w w' := by
  have hv := vl_split l 8 (by omega)
  have ba := vl_bd (l.take 8) (hb.take 8)
  have bb := vl_bd (l.drop 8) (hb.drop 8)
  have C1 : ∀ W, Calls Try.prog 32 #[.agg (vs .u8 l)] W fun e w' => e = .returned (.agg (vs .u64 [vl (l.take 8), vl (l.drop 8)])) ∧ Fr (fun _ => False) W w' := fun W => words_is l W hl hb
  rw [List.length_take, hl] at ba
  rw [List.length_drop, hl] at bb
  obtain ⟨v, hv'⟩ : ∃ v, v = vl l := ⟨_, rfl⟩
  obtain ⟨a, ha⟩ : ∃ a, a = vl (l.take 8) := ⟨_, rfl⟩
  obtain ⟨b, hb'⟩ : ∃ b, b = vl (l.drop 8) := ⟨_, rfl⟩
  rw [← hv'] at hv ⊢
  rw [← ha] at hv ba C1
  rw [← hb'] at hv bb C1
  have wa : Wd a := ⟨by omega, by have := ba.2; simp at this; omega⟩
  have wb : Wd b := ⟨by omega, by have := bb.2; simp at this; omega⟩
  have ev : v = a + 18446744073709551616 * b := by rw [hv]; rfl
  unfold Wd at wa wb
  obtain ⟨n0, hn0⟩ : ∃ n, n = a % 17592186044416 := ⟨_, rfl⟩
  obtain ⟨n1, hn1⟩ : ∃ n, n = v / 17592186044416 % 17592186044416 := ⟨_, rfl⟩
  have e0 : bits .and .u64 a 17592186044415 = n0 := by rw [hn0]; exact low_bits 44 (by decide) a wa
  have e1 : IntKind.u64.wrap (b * 1048576) = (b % 17592186044416) * 1048576 := by rw [IntKind.wrap_u64]; omega
  have e2 : bits .or .u64 (a / 17592186044416) (b % 17592186044416 * 1048576) = a / 17592186044416 + b % 17592186044416 * 1048576 := join 20 _ _ (by decide) (by omega) (by omega) (by omega) (by omega)
  have e3 : bits .and .u64 (a / 17592186044416 + b % 17592186044416 * 1048576) 17592186044415 = n1 := by rw [hn1]; exact (low_bits 44 (by decide) _ ⟨by omega, by omega⟩).trans (by omega)
  have HR : Hid (vs .u64 [n0, n1, b / 16777216] = vs .u64 (num v)) := by
    show _ = _
    have q0 : v % 17592186044416 = n0 := by omega
    have q2 : v / 309485009821345068724781056 = b / 16777216 := by omega
    rw [num, q0, ← hn1, q2]
  have hz : ∀ W : World, (zeroValue 47).run Try.prog W = .ok (.agg (vs .u64 [0, 0])) W := zero47
  have sL : Hid ((Try.prog.info? 26).map (·.size) = some (vs .u8 l).size) := by show _ = _; rw [vs_size, hl]; exact info26
  clear hv ba bb hv' ha hb' ev wa wb hn0 hn1 hb hl
  go_enter Try.func30, Try.ntmps30
  go_upto_region 1 with (fail)
  generalize hW : (w.alloc (.cells (vs .u8 l) 26)).alloc (.cells #[.int .u64 0, .int .u64 0, .int .u64 0] 46) = W0
  have HW := Lib.hid (calm2 hW)
  have X0 : Hid (Ar W0 w.heap.size 26 .u8 l) := HW.out.1
  have X1 : Hid (W0.heap[w.heap.size + 1]? = some (.cells #[.int .u64 0, .int .u64 0, .int .u64 0] 46)) := HW.out.2.1
  have F0 : Hid (Fr (fun _ => False) w W0) := HW.out.2.2
  clear hW HW
  go_upto_region 2 with (first
    | (go_at_call 32; refine (C1 _).mono ?_; rintro e w1 ⟨rfl, hf⟩; replace X1 := Lib.hid (Calm.at X1.out hf); replace F0 := Lib.hid (F0.out.trans hf); clear hf)
    | refine wpList_load_row rfl 26 (.tmp 1) rfl (w.heap.size) rfl 26 (vs .u8 l) (0, 0) _ X0.out Try.underlying26 rfl sL.out ?_
    | refine wpList_store_row rfl 47 (.tmp 3) (.tmp 5) rfl w1.heap.size (vs .u64 [a, b]) rfl rfl 47 (vs .u64 [0, 0]) (heap_alloc_new w1 (.cells (vs .u64 [0, 0]) 47)) (by rw [info47]; rfl) rfl (vs_all _ _) ?_)
  obtain ⟨q, hq⟩ : ∃ q, q = w1.heap.size := ⟨_, rfl⟩
  have hq1 : w.heap.size + 1 < q := by rw [hq]; exact heap_lt X1.out
  have Y0 : Ar ((w1.alloc (.cells (vs .u64 [0, 0]) 47)).setRow w1.heap.size (vs .u64 [a, b])) q 47 .u64 [a, b] := by rw [hq]; exact (Ar.new w1 47 .u64 [0, 0]).row [a, b]
  have X2 : Hid (((w1.alloc (.cells (vs .u64 [0, 0]) 47)).setRow w1.heap.size (vs .u64 [a, b])).heap[w.heap.size + 1]? = some (.cells #[.int .u64 0, .int .u64 0, .int .u64 0] 46)) := (setRow_other _ _ _ _ (by omega)).trans ((Below.heap_alloc w1 _ _ (heap_lt X1.out)).trans X1.out)
  have F1 : Hid (Fr (fun _ => False) w ((w1.alloc (.cells (vs .u64 [0, 0]) 47)).setRow w1.heap.size (vs .u64 [a, b]))) := (F0.out.alloc _).setRow _ (.inr F0.out.size)
  rw [← hq] at Y0 X2 F1 ⊢
  generalize (w1.alloc (.cells (vs .u64 [0, 0]) 47)).setRow q (vs .u64 [a, b]) = W2 at *
  have c0 := Y0.cell (i := 0) rfl
  have c1 := Y0.cell (i := 1) rfl
  clear Y0 X0 X1 F0 hq hq1 C1 hz sL
  try simp only [Act.put, List.setIfInBounds_toArray, List.set_cons_succ, List.set_cons_zero]
  go_wp2_with (first
    | refine wpList_store_row rfl 46 (.tmp 2) (.tmp 20) rfl (w.heap.size + 1) (vs .u64 [n0, n1, b / 16777216]) rfl rfl 46 _ X2.out (by rw [info46]; rfl) rfl (vs_all _ _) ?_)
  refine bodyPost_ret (results_cell_row Try.results30 _ _ _ 46 _ (0, 0) _ rfl (setRow_heap _ _ _ _ _ _ X2.out) Try.underlying46 rfl (by rw [info46]; rfl)) rfl ⟨by rw [HR.out], F1.out.setRow _ (.inr (by omega))⟩
end Go.Proofs.Ytcoggpedpclkaaa
