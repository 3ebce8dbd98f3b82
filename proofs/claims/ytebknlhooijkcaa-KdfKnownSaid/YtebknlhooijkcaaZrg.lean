/- A hash's block: its parts, read and written; what a hash is that has taken bytes. Lemmas alone. -/
import Derived.Test.YtebknlhooijkcaaZrfn
import Derived.Test.YtebknlhooijkcaaZrfy
import Derived.Test.YtebknlhooijkcaaPo
import Derived.Lib.SliceRun
namespace Go.Proofs.Ytebknlhooijkcaa
set_option linter.unusedSimpArgs false
set_option linter.unusedVariables false
open Go.ChangeShapes Go.WideShapes Go.ChangeAt Go.RowKit


/-- A hash's cells. -/
def hcl (sz : Int) (s : List Int) (p : Int) (X : List Int) (c : Int) : List Value := .int .i64 sz :: (s.map (Value.int .u32) ++ (.int .u64 p :: (bs X ++ [.int .i64 c])))
def Hb (w : World) (g : Nat) (sz : Int) (s : List Int) (p : Int) (X : List Int) (c : Int) : Prop := s.length = 8 ∧ X.length = 64 ∧ w.heap[g]? = some (.cells (hcl sz s p X c).toArray 56 (0, 0))
/-- Cells laid into a row. -/
theorem setCells_row : ∀ (cs : List Value) (w : World) (g o : Nat) (cur : Array Value) (t : TypeId), w.heap[g]? = some (.cells cur t (0, 0)) → o + cs.length ≤ cur.size → (w.setCells g o cs).heap[g]? = some (.cells (cur.toList.take o ++ cs ++ cur.toList.drop (o + cs.length)).toArray t (0, 0))
  | [], w, g, o, cur, t, h, _ => by
    simp [World.setCells, h]
  | v :: r, w, g, o, cur, t, h, hl => by
    rw [World.setCells]
    have h1 := heap_setCell_same w g o _ _ v h
    have h2 := setCells_row r (w.setCell ⟨g, o, none⟩ v) g (o + 1) _ t h1 (by simp at hl ⊢; omega)
    rw [h2]
    congr 2
    apply Array.toList_inj.1
    simp only [Array.toList_setIfInBounds, List.toList_toArray, List.length_cons]
    have h3 := list_seg_step cur.toList o v r (by simp at hl ⊢; omega)
    rw [show o + (r.length + 1) = o + 1 + r.length by omega] at h3 ⊢
    rw [h3]
section
variable {w w' : World} {g : Nat} {sz p c : Int} {s X : List Int}
theorem hcl_length (hs : s.length = 8) (hX : X.length = 64) : (hcl sz s p X c).length = 75 := by simp [hcl, bs_length, hs, hX]
theorem hcl_size : (hcl sz s p X c)[0]? = some (.int .i64 sz) := rfl
theorem hcl_sum (hs : s.length = 8) {j : Nat} (hj : j < 8) : (hcl sz s p X c)[1 + j]? = (s[j]?).map (Value.int .u32) := by
  unfold hcl
  rw [Nat.add_comm, List.getElem?_cons_succ, List.getElem?_append_left (by simp [hs, hj]), List.getElem?_map]
theorem hcl_pressed (hs : s.length = 8) : (hcl sz s p X c)[9]? = some (.int .u64 p) := by
  unfold hcl
  rw [List.getElem?_cons_succ, List.getElem?_append_right (by simp [hs])]
  simp [hs]
theorem hcl_wait (hs : s.length = 8) (hX : X.length = 64) {j : Nat} (hj : j < 64) : (hcl sz s p X c)[10 + j]? = (X[j]?).map (Value.int .u8) := by
  unfold hcl
  rw [show 10 + j = (9 + j) + 1 by omega, List.getElem?_cons_succ, List.getElem?_append_right (by simp [hs]; omega), List.length_map, hs, show 9 + j - 8 = j + 1 by omega, List.getElem?_cons_succ, List.getElem?_append_left (by rw [bs_length, hX]; exact hj), bs_get]
theorem hcl_count (hs : s.length = 8) (hX : X.length = 64) : (hcl sz s p X c)[74]? = some (.int .i64 c) := by
  unfold hcl
  rw [List.getElem?_cons_succ, List.getElem?_append_right (by simp [hs]), List.length_map, hs, List.getElem?_cons_succ, List.getElem?_append_right (by rw [bs_length, hX]; decide), bs_length, hX]
  rfl
theorem Hb.cells (h : Hb w g sz s p X c) (j : Nat) : w.cell? ⟨g, j, none⟩ = (hcl sz s p X c)[j]? := by
  rw [cell_of_row w g j _ _ _ h.2.2]
  simp
theorem Hb.size (h : Hb w g sz s p X c) : w.cell? ⟨g, 0, none⟩ = some (.int .i64 sz) := h.cells 0
theorem Hb.pressed (h : Hb w g sz s p X c) : w.cell? ⟨g, 9, none⟩ = some (.int .u64 p) := (h.cells 9).trans (hcl_pressed h.1)
theorem Hb.count (h : Hb w g sz s p X c) : w.cell? ⟨g, 74, none⟩ = some (.int .i64 c) := (h.cells 74).trans (hcl_count h.1 h.2.1)
theorem Hb.frozen (h : Hb w g sz s p X c) (j : Nat) : w.frozen? ⟨g, j, none⟩ = false := frozen_of_row _ _ _ _ _ h.2.2
theorem Hb.lt (h : Hb w g sz s p X c) : g < w.heap.size := heap_lt h.2.2
theorem Hb.fr {S : Nat → Prop} (h : Hb w g sz s p X c) (hf : Fr S w w') (hs : ¬ S g) : Hb w' g sz s p X c := ⟨h.1, h.2.1, (hf.block _ h.lt hs).trans h.2.2⟩
theorem Hb.sum (h : Hb w g sz s p X c) : w.rangeAt g 1 (vs .u32 s).toList := fun j v hv => by
  have hj : j < 8 := by
    have := (List.getElem?_eq_some_iff.1 hv).1
    simp [vs, h.1] at this
    exact this
  rw [h.cells, hcl_sum h.1 hj]
  simpa [vs] using hv
theorem Hb.wait (h : Hb w g sz s p X c) : w.rangeAt g 10 (vs .u8 X).toList := fun j v hv => by
  have hj : j < 64 := by
    have := (List.getElem?_eq_some_iff.1 hv).1
    simp [vs, h.2.1] at this
    exact this
  rw [h.cells, hcl_wait h.1 h.2.1 hj]
  simpa [vs] using hv
theorem Hb.there (h : Hb w g sz s p X c) (o n : Nat) (ho : o + n ≤ 75) : w.there g o n := fun j hj => by
  refine ⟨?_, h.frozen _⟩
  rw [h.cells, List.getElem?_eq_getElem (by rw [hcl_length h.1 h.2.1]; omega)]
  rfl
theorem Hb.setCount (h : Hb w g sz s p X c) (d : Int) : Hb (w.setCell ⟨g, 74, none⟩ (.int .i64 d)) g sz s p X d := by
  refine ⟨h.1, h.2.1, ?_⟩
  rw [heap_setCell_same w g 74 _ _ _ h.2.2]
  congr 2
  apply Array.toList_inj.1
  unfold hcl
  rw [Array.toList_setIfInBounds, List.toList_toArray, List.toList_toArray, List.set_cons_succ, List.set_append_right _ _ (by simp [h.1]), List.length_map, h.1, List.set_cons_succ, List.set_append_right _ _ (by rw [bs_length, h.2.1]; decide), bs_length, h.2.1]
  rfl
theorem Hb.setPressed (h : Hb w g sz s p X c) (d : Int) : Hb (w.setCell ⟨g, 9, none⟩ (.int .u64 d)) g sz s d X c := by
  refine ⟨h.1, h.2.1, ?_⟩
  rw [heap_setCell_same w g 9 _ _ _ h.2.2]
  congr 2
  apply Array.toList_inj.1
  unfold hcl
  rw [Array.toList_setIfInBounds, List.toList_toArray, List.toList_toArray, List.set_cons_succ, List.set_append_right _ _ (by simp [h.1]), List.length_map, h.1]
  rfl
theorem Hb.setFirst (h : Hb w g sz s p X c) (d : Int) : Hb (w.setCell ⟨g, 1, none⟩ (.int .u32 d)) g sz (s.set 0 d) p X c := by
  refine ⟨by rw [List.length_set]; exact h.1, h.2.1, ?_⟩
  rw [heap_setCell_same w g 1 _ _ _ h.2.2]
  congr 2
  apply Array.toList_inj.1
  unfold hcl
  rw [Array.toList_setIfInBounds, List.toList_toArray, List.toList_toArray, List.set_cons_succ, List.set_append_left _ _ (by simp [h.1]), List.map_set]
theorem Hb.setSum (h : Hb w g sz s p X c) {s2 : List Int} (hs : s2.length = 8) : Hb (w.setCells g 1 (vs .u32 s2).toList) g sz s2 p X c := by
  refine ⟨hs, h.2.1, ?_⟩
  rw [setCells_row _ w g 1 _ _ h.2.2 (by simp [vs, hs, hcl_length h.1 h.2.1])]
  congr 3
  simp only [List.toList_toArray, vs, List.length_map, hs]
  unfold hcl
  rw [show (1 + 8) = 8 + 1 by rfl, List.drop_succ_cons, List.drop_append_of_le_length (by simp [h.1]), List.drop_of_length_le (by simp [h.1]), List.take_succ_cons, List.take_zero]
  rfl
theorem Hb.setWait (h : Hb w g sz s p X c) (o : Nat) (Y : List Int) (ho : o + Y.length ≤ 64) :
    Hb (w.setRow g ((hcl sz s p X c).toArray.toList.take (10 + o) ++ bs Y ++ (hcl sz s p X c).toArray.toList.drop (10 + o + (bs Y).length)).toArray) g sz s p (X.take o ++ Y ++ X.drop (o + Y.length)) c := by
  refine ⟨h.1, by simp [h.2.1]; omega, ?_⟩
  rw [setRow_heap w g _ _ _ _ h.2.2]
  congr 3
  simp only [List.toList_toArray, bs_length]
  unfold hcl
  rw [show 10 + o = (9 + o) + 1 by omega, show 9 + o + 1 + Y.length = (9 + o + Y.length) + 1 by omega, List.take_succ_cons, List.drop_succ_cons, List.take_append, List.drop_append, List.length_map, h.1, List.take_of_length_le (by simp [h.1]; omega), List.drop_eq_nil_of_le (by simp [h.1]; omega)]
  rw [show 9 + o - 8 = o + 1 by omega, show 9 + o + Y.length - 8 = (o + Y.length) + 1 by omega, List.take_succ_cons, List.drop_succ_cons, List.take_append_of_le_length (by rw [bs_length, h.2.1]; omega), List.drop_append_of_le_length (by rw [bs_length, h.2.1]; omega)]
  simp [bs, List.map_take, List.map_drop]
end
/-- A slice of an array of 64 bytes, from a place on, or of all. -/
theorem run_slice_low64 {o : Oper} {a : Act} (x y : Operand) (ho : o.op = .slice 54 x (some y) none none) (g off c : Nat) (hx : a.eval x = .pointer (some ⟨g, off, none⟩)) (hy : a.eval y = .int .i64 (c : Int)) (hc : c ≤ 64) (W : World) :
    (execOp a.eval o).run Try.prog W = .ok (.value (.slice (some (if 64 = c then ⟨g, off, none⟩ else ⟨g, off + c, none⟩)) (64 - c) (64 - c))) W := by
  have e1 : (Try.prog.arrayLen 54) = 64 := by kernel_rfl
  have e2 : Try.prog.elem 54 = 5 := by kernel_rfl
  have e3 : Try.prog.underlying 54 = some (.array (Try.prog.arrayLen 54) (Try.prog.elem 54)) := by kernel_rfl
  have h := run_sliceAt_array_l (P := Try.prog) (w := W) (t := 54) (a := ⟨g, off, none⟩) e3 .i64 (c : Int) (by omega) (by rw [e1]; omega)
  unfold execOp
  simp only [ho, hx, hy, Option.map_some, Option.map_none, Sem.run_bind, h]
  cases hq : Try.prog.info? 5 with
  | none => have := size5; simp [hq] at this
  | some i =>
    have hi : i.size = 1 := by have := size5; simpa [hq] using this
    by_cases e4 : 64 = c
    · subst e4
      simp [sizeOf, typeInfo, e2, slicedAt, e1, Addr_add_none, hq, hi]
    · simp [sizeOf, typeInfo, e2, slicedAt, e1, e4, Addr_add_none, hq, hi]
theorem run_slice_high32 {o : Oper} {a : Act} (x y : Operand) (ho : o.op = .slice 24 x none (some y) none) (g off c : Nat) (hx : a.eval x = .pointer (some ⟨g, off, none⟩)) (hy : a.eval y = .int .i64 (c : Int)) (hc : c ≤ 32) (W : World) :
    (execOp a.eval o).run Try.prog W = .ok (.value (.slice (some ⟨g, off, none⟩) c 32)) W := by
  have e1 : (Try.prog.arrayLen 24) = 32 := by kernel_rfl
  have e2 : Try.prog.elem 24 = 5 := by kernel_rfl
  have e3 : Try.prog.underlying 24 = some (.array (Try.prog.arrayLen 24) (Try.prog.elem 24)) := by kernel_rfl
  have h := run_sliceAt_array_h (P := Try.prog) (w := W) (t := 24) (a := ⟨g, off, none⟩) e3 .i64 (c : Int) (by omega) (by rw [e1]; omega)
  unfold execOp
  simp only [ho, hx, hy, Option.map_some, Option.map_none, Sem.run_bind, h]
  cases hq : Try.prog.info? 5 with
  | none => have := size5; simp [hq] at this
  | some i =>
    have hi : i.size = 1 := by have := size5; simpa [hq] using this
    simp [sizeOf, typeInfo, e2, slicedAt, e1, Addr.add, hq, hi]
/-- The bytes of a row of 64 are cleared from a place on. -/
theorem run_clear64 {w : World} {q c : Nat} {L : List Int} (h : Ar w q 54 .u8 L) (hl : L.length = 64) (hc : c ≤ 64) (ty : TypeId) :
    ∃ W, (Builtin.clear_ #[22] ty #[.slice (some (if 64 = c then ⟨q, 0, none⟩ else ⟨q, 0 + c, none⟩)) (64 - c) (64 - c)]).run Try.prog w = .ok (.tuple #[]) W ∧ Ar W q 54 .u8 (L.take c ++ List.replicate (64 - c) 0) ∧ Fr (fun i => i = q) w W := by
  by_cases e : 64 = c
  · subst e
    refine ⟨w, ?_, ?_, Fr.refl _ _⟩
    · unfold Builtin.clear_
      simp [run_underlying Try.underlying22, Sem.run_bind, Sem.run_pure, Result.andThen_ok]
    · rw [List.take_of_length_le (by omega), Nat.sub_self, List.replicate_zero, List.append_nil]
      exact h
  · rw [if_neg e, Nat.zero_add]
    have hr := Lib.run_clear_slice (P := Try.prog) w 22 5 ty (.int .u8 0) Try.underlying22 (fun _ => by kernel_rfl) rfl rfl q c (64 - c) (64 - c) (by omega) (fun j hj => by
      rw [h.cell (i := c + j) (getD_some (by omega))]
      rfl) (fun j hj => h.frozen _)
    refine ⟨_, hr, ?_, Fr.setCells (S := fun i => i = q) (Fr.refl _ _) (.inl rfl) _ _⟩
    show _ = _
    rw [setCells_row _ w q c _ _ h (by simp [vs, hl]; omega)]
    congr 2
    apply Array.toList_inj.1
    simp only [List.toList_toArray, List.length_replicate, vs]
    rw [List.drop_of_length_le (by simp [hl]; omega)]
    simp [List.map_take]
end Go.Proofs.Ytebknlhooijkcaa

/- What a hash is that has taken bytes; the program's none and digest: contracts. Conditions: a hash's block. -/
namespace Go.Proofs.Ytebknlhooijkcaa
set_option linter.unusedSimpArgs false
set_option linter.unusedVariables false
open Go.ChangeShapes Go.WideShapes Go.ChangeAt Go.RowKit


/-- A hash that has taken these bytes. -/
def HashAt (w : World) (g sz : Nat) (k D : List Int) : Prop :=
  1 ≤ sz ∧ sz ≤ 32 ∧ k.length ≤ 32 ∧ D.length ≤ 1125899906842624 ∧ ∃ (n c : Nat) (X : List Int), (inn k D).length = 64 * n + c ∧ c ≤ 64 ∧ (c = 0 → n = 0) ∧ Bys X ∧ X.take c = (inn k D).drop (64 * n) ∧ Hb w g (sz : Int) (eat (h0 (sz : Int) k.length) (inn k D) n) ((64 * n : Nat) : Int) X (c : Int)
theorem HashAt.lt {w : World} {g sz : Nat} {k D : List Int} (h : HashAt w g sz k D) : g < w.heap.size := by
  obtain ⟨_, _, _, _, _, _, _, _, _, _, _, _, h⟩ := h
  exact h.lt
theorem HashAt.fr {S : Nat → Prop} {w w' : World} {g sz : Nat} {k D : List Int} (h : HashAt w g sz k D) (hf : Fr S w w') (hs : ¬ S g) : HashAt w' g sz k D := by
  obtain ⟨a1, a2, a3, a4, n, c, X, b1, b2, b3, b4, b5, h⟩ := h
  exact ⟨a1, a2, a3, a4, n, c, X, b1, b2, b3, b4, b5, h.fr hf hs⟩
theorem inn_app (k D X : List Int) : inn k (D ++ X) = inn k D ++ X := by
  unfold inn
  split
  · rfl
  · simp only [List.append_assoc]
theorem inn_length_le (k D : List Int) (hk : k.length ≤ 32) : (inn k D).length ≤ D.length + 64 := by
  unfold inn
  split
  · omega
  · rw [List.length_append, List.length_append, List.length_replicate]
    omega
theorem eat_app (h l X : List Int) : ∀ n : Nat, 64 * n ≤ l.length → eat h (l ++ X) n = eat h l n
  | 0, _ => rfl
  | n + 1, hn => by
    rw [eat_succ, eat_succ, eat_app h l X n (by omega), List.drop_append_of_le_length (by omega), List.take_append_of_le_length (by rw [List.length_drop]; omega)]
theorem nbl_is {n c : Nat} (hc : c ≤ 64) (h : c = 0 → n = 0) : nbl (64 * n + c) = n := by
  unfold nbl
  omega
set_option maxHeartbeats 4000000 in
theorem none_nil (w : World) : Calls Try.prog 44 #[.pointer none] w fun e w' => e = .returned (.bool true) ∧ Fr (fun _ => False) w w' := by
  go_enter Try.func44, Try.ntmps44
  go_wp2
  go_ret
  exact ⟨rfl, Fr.refl _ _⟩
set_option maxHeartbeats 4000000 in
theorem none_zero (g : Nat) (w : World) (h : w.cell? ⟨g, 0, none⟩ = some (.int .i64 0)) : Calls Try.prog 44 #[.pointer (some ⟨g, 0, none⟩)] w fun e w' => e = .returned (.bool true) ∧ Fr (fun _ => False) w w' := by
  go_enter Try.func44, Try.ntmps44
  go_wp2
  go_ret
  exact ⟨rfl, Fr.refl _ _⟩
set_option maxHeartbeats 4000000 in
theorem none_made (g : Nat) (sz : Int) (w : World) (h : w.cell? ⟨g, 0, none⟩ = some (.int .i64 sz)) (hs : ¬ sz = 0) : Calls Try.prog 44 #[.pointer (some ⟨g, 0, none⟩)] w fun e w' => e = .returned (.bool false) ∧ Fr (fun _ => False) w w' := by
  have e0 : (sz == 0) = false := by simpa using hs
  go_enter Try.func44, Try.ntmps44
  go_wp2
  go_ret
  exact ⟨rfl, Fr.refl _ _⟩
theorem wpList_clear64 {ops : Array Oper} {rest : List Oper} {o : Oper} {a : Act} {w : World} {K : Exit → Act → World → Prop} (hgd : o.guard = none) (x : Operand)
    (ho : o.op = .call { callee := .builtin .clear, args := #[x], argTypes := #[22] }) {q c : Nat} {L : List Int} (h : Ar w q 54 .u8 L) (hl : L.length = 64) (hc : c ≤ 64)
    (hx : a.eval x = .slice (some (if 64 = c then ⟨q, 0, none⟩ else ⟨q, 0 + c, none⟩)) (64 - c) (64 - c))
    (hK : ∀ W, Ar W q 54 .u8 (L.take c ++ List.replicate (64 - c) 0) → Fr (fun i => i = q) w W → wpList Try.prog ops K rest (a.put o.dst (.tuple #[])) W) : wpList Try.prog ops K (o :: rest) a w := by
  refine wpList_plain hgd fun J hk => ?_
  obtain ⟨W, hr, ha, hf⟩ := run_clear64 h hl hc o.type
  unfold Oper.wp execOp
  simp only [ho, resolve, invoke, builtin, Sem.run_bind, Sem.run_pure, Result.andThen_ok, List.map_toArray, List.map_cons, List.map_nil, hx, hr]
  exact hk _ _ (hK W ha hf)
set_option maxRecDepth 100000 in
set_option maxHeartbeats 16000000 in
theorem digest_is (g : Nat) (sz p : Int) (s X : List Int) (c : Nat) (w : World) (hb : Hb w g sz s p X (c : Int)) (hs : V8 s) (hX : Bys X) (hc : c ≤ 64) (hp : 0 ≤ p) (hpc : p + c ≤ 9223372036854775807) :
    Calls Try.prog 38 #[.pointer (some ⟨g, 0, none⟩)] w fun e w' => e = .returned (.agg (vs .u8 (bsw (prm s (ws (X.take c ++ List.replicate (64 - c) 0)) (p + c) true)))) ∧ Fr (fun _ => False) w w' := by
  have lX : Hid (X.length = 64) := hb.2.1
  have ls : Hid (s.length = 8) := hb.1
  obtain ⟨Y, hY⟩ : ∃ Y, Y = X.take c ++ List.replicate (64 - c) 0 := ⟨_, rfl⟩
  have lY : Hid (Y.length = 64) := by show _ = _; rw [hY, List.length_append, List.length_take, List.length_replicate, lX.out]; omega
  have bY : Bys Y := by rw [hY]; exact (hX.take c).append (noughts _)
  have HY := Lib.hid hY
  obtain ⟨M, hM⟩ : ∃ M, M = ws Y := ⟨_, rfl⟩
  have OM : V16 M := by rw [hM]; exact ⟨ws_length 16 Y lY.out, ws_wds 16 Y lY.out bY⟩
  obtain ⟨E, hE⟩ : ∃ E, E = prm s M (p + c) true := ⟨_, rfl⟩
  have OE : V8 E := by rw [hE]; exact fn_ok hs (rd_ok (v0_ok hs _ _) 80)
  obtain ⟨R, hR⟩ : ∃ R, R = bsw E := ⟨_, rfl⟩
  have lR : Hid (R.length = 32) := by show _ = _; rw [hR, bsw_length, OE.1]
  have CN : ∀ W, Calls Try.prog 46 #[.agg (vs .u8 Y)] W fun e w' => e = .returned (.agg (vs .u32 M)) ∧ Fr (fun _ => False) W w' := fun W => by rw [hM]; exact numbers_is Y W lY.out bY
  have CW : ∀ W, Calls Try.prog 45 #[.agg (vs .u32 s), .agg (vs .u32 M), .int .u64 (p + c), .bool true] W fun e w' => e = .returned (.agg (vs .u32 E)) ∧ Fr (fun _ => False) W w' := fun W => by rw [hE]; exact with_yes s M (p + c) W hs OM
  have CB : ∀ W, Calls Try.prog 47 #[.agg (vs .u32 E)] W fun e w' => e = .returned (.agg (vs .u8 R)) ∧ Fr (fun _ => False) W w' := fun W => by rw [hR]; exact bytes_is E W OE
  rw [← hY, ← hM, ← hE, ← hR]
  have H := Lib.hid hb
  have HC := Lib.hid hc
  have sX : Hid ((Try.prog.info? 54).map (·.size) = some X.length) := by show _ = _; rw [lX.out]; exact size64
  have sX2 : Hid ((Try.prog.info? 54).map (·.size) = some (vs .u8 X).size) := by show _ = _; rw [vs_size]; exact sX.out
  have sY : Hid ((Try.prog.info? 54).map (·.size) = some (vs .u8 Y).size) := by show _ = _; rw [vs_size, lY.out]; exact size64
  have ss : Hid ((Try.prog.info? 52).map (·.size) = some s.length) := by show _ = _; rw [ls.out]; exact szE
  have sR : Hid ((Try.prog.info? 24).map (·.size) = some (vs .u8 R).size) := by show _ = _; rw [vs_size, lR.out]; exact szK
  obtain ⟨Z, hZ⟩ : ∃ Z, Z = List.replicate 32 (0 : Int) := ⟨_, rfl⟩
  have hz1 : ∀ W : World, (zeroValue 24).run Try.prog W = .ok (.agg (vs .u8 Z)) W := fun W => by rw [hZ]; exact zeroK W
  obtain ⟨Z2, hZ2⟩ : ∃ Z, Z = List.replicate 64 (0 : Int) := ⟨_, rfl⟩
  have hz2 : ∀ W : World, (zeroValue 54).run Try.prog W = .ok (.agg (vs .u8 Z2)) W := fun W => by rw [hZ2]; exact zero64 W
  have eZ : Hid ((vs .u8 Z).size = (vs .u8 R).size) := by show _ = _; rw [vs_size, vs_size, hZ, lR.out]; rfl
  have eZ2 : Hid ((vs .u8 Z2).size = (vs .u8 X).size) := by show _ = _; rw [vs_size, vs_size, hZ2, lX.out]; rfl
  have k1 : IntKind.u64.wrap (c : Int) = c := by rw [IntKind.wrap_u64]; omega
  have k2 : IntKind.u64.wrap (p + c) = p + c := by rw [IntKind.wrap_u64]; omega
  clear hb hs hX hc hp hpc hY hM hE hR OM OE bY hZ hZ2
  go_enter Try.func38, Try.ntmps38
  go_upto_region 1 with (fail)
  have R0 : Hid (Ar (w.alloc (.cells (vs .u8 Z) 24)) w.heap.size 24 .u8 Z) := Ar.new w 24 .u8 Z
  have F0 : Hid (Fr (fun _ => False) w (w.alloc (.cells (vs .u8 Z) 24))) := (Fr.refl _ _).alloc _
  generalize w.alloc (.cells (vs .u8 Z) 24) = W0 at *
  have H0 := Lib.hid (H.out.fr F0.out (fun x => x))
  go_upto_region 2 with (first
    | refine wpList_mid rfl 54 (.tmp 6) rfl g 10 rfl .u8 X _ H0.out.wait Try.underlying54 rfl sX.out ?_
    | refine wpList_store_row rfl 54 (.tmp 3) (.tmp 7) rfl W0.heap.size (vs .u8 X) rfl rfl 54 (vs .u8 Z2) (heap_alloc_new W0 (.cells (vs .u8 Z2) 54)) sX2.out eZ2.out (vs_all _ _) ?_)
  obtain ⟨q, hq⟩ : ∃ q, q = W0.heap.size := ⟨_, rfl⟩
  have hff : Fr (fun _ => False) W0 ((W0.alloc (.cells (vs .u8 Z2) 54)).setRow W0.heap.size (vs .u8 X)) := ((Fr.refl _ W0).alloc _).setRow _ (.inr (Nat.le_refl _))
  have B1 : Hid (Ar ((W0.alloc (.cells (vs .u8 Z2) 54)).setRow W0.heap.size (vs .u8 X)) q 54 .u8 X) := by rw [hq]; exact (Ar.new W0 54 .u8 Z2).row X
  have NQ : Hid (w.heap.size < q ∧ g < w.heap.size) := ⟨by rw [hq]; exact R0.out.lt, H.out.lt⟩
  have R1 := Lib.hid (R0.out.fr hff (fun x => x))
  have H1 := Lib.hid (H0.out.fr hff (fun x => x))
  have F1 := Lib.hid (F0.out.trans hff)
  rw [← hq] at B1 R1 H1 F1 ⊢
  generalize (W0.alloc (.cells (vs .u8 Z2) 54)).setRow q (vs .u8 X) = W1 at *
  clear hff hq R0 H0 F0 hz1 hz2 eZ2 sX sX2 H
  try simp only [Act.put, List.setIfInBounds_toArray, List.set_cons_succ, List.set_cons_zero]
  have r1 := H1.out.count
  go_upto_region 3 with (first
    | refine wpList_plain rfl fun K' hK' => wp_value _ _ (run_slice_low64 (.tmp 3) (.tmp 11) rfl q 0 c rfl rfl HC.out W1) (hK' _ _ ?_)
    | (refine wpList_clear64 rfl (.tmp 12) rfl B1.out lX.out HC.out rfl ?_; intro W2 hb2 hf2; have B2 := Lib.hid hb2; have G2 := Lib.hid hf2; clear hb2 hf2))
  rw [← HY.out] at B2
  have R2 := Lib.hid (R1.out.fr G2.out (show ¬ w.heap.size = q by have := NQ.out.1; omega))
  have H2 := Lib.hid (H1.out.fr G2.out (show ¬ g = q by have := NQ.out; omega))
  have F2 : Hid (Fr (fun _ => False) w W2) := F1.out.trans' G2.out (fun j hj e => by have := NQ.out.1; omega)
  clear B1 R1 H1 F1 G2 r1 HY lX
  refine wp_region_quiet_tail (C := Calm W2) 18 (by kernel_rfl) (by kernel_rfl) (Calm.start _ _ (Fr.refl _ _)) ?_
  simp only [List.take_succ_cons, List.take_zero, List.drop_succ_cons, List.drop_zero]
  refine BigFrame.wpQuiet_want rfl fun K hK => ?_
  try simp only [Act.put, List.setIfInBounds_toArray, List.set_cons_succ, List.set_cons_zero]
  go_big_quiet_op
  refine hK _ ?_
  refine BigFrame.wpQuiet_want rfl fun K hK => ?_
  try simp only [Act.put, List.setIfInBounds_toArray, List.set_cons_succ, List.set_cons_zero]
  go_big_quiet_op
  first
    | refine ⟨_, fun _ _ => rfl, hK _ ?_⟩
    | refine hK _ ?_
  refine BigFrame.wpQuiet_want rfl fun K hK => ?_
  try simp only [Act.put, List.setIfInBounds_toArray, List.set_cons_succ, List.set_cons_zero]
  go_big_quiet_op
  first
    | refine ⟨_, fun _ _ => rfl, hK _ ?_⟩
    | refine hK _ ?_
  refine BigFrame.wpQuiet_want rfl fun K hK => quiet_mid 52 _ (.tmp 15) rfl (g) 1 rfl .u32 (s) Try.underlying52 rfl ss.out (fun _ h => (H2.out.fr h (fun x => x)).sum) (hK _ ?_)
  refine BigFrame.wpQuiet_want rfl fun K hK => quiet_load 54 (.tmp 3) rfl (q) rfl 54 _ (0, 0) _ (fun _ h => Calm.at B2.out h) Try.underlying54 rfl sY.out (hK _ ?_)
  refine BigFrame.wpQuiet_want rfl fun K hK => ?_
  try simp only [Act.put, List.setIfInBounds_toArray, List.set_cons_succ, List.set_cons_zero]
  go_big_quiet_op
  refine ⟨_, Calm.calls CN, hK _ ?_⟩
  refine BigFrame.wpQuiet_want rfl fun K hK => ?_
  try simp only [Act.put, List.setIfInBounds_toArray, List.set_cons_succ, List.set_cons_zero]
  go_big_quiet_op
  refine hK _ ?_
  refine BigFrame.wpQuiet_want rfl fun K hK => ?_
  try simp only [Act.put, List.setIfInBounds_toArray, List.set_cons_succ, List.set_cons_zero]
  go_big_quiet_op
  first
    | refine ⟨_, fun _ _ => rfl, hK _ ?_⟩
    | refine hK _ ?_
  refine BigFrame.wpQuiet_want rfl fun K hK => ?_
  try simp only [Act.put, List.setIfInBounds_toArray, List.set_cons_succ, List.set_cons_zero]
  go_big_quiet_op
  first
    | refine ⟨_, fun _ _ => rfl, hK _ ?_⟩
    | refine hK _ ?_
  refine BigFrame.wpQuiet_want rfl fun K hK => quiet_one 53 .u64 (.tmp 21) rfl (g) (9) rfl (p) Try.underlying53 (fun _ h => (H2.out.fr h (fun x => x)).pressed) (hK _ ?_)
  refine BigFrame.wpQuiet_want rfl fun K hK => ?_
  try simp only [Act.put, List.setIfInBounds_toArray, List.set_cons_succ, List.set_cons_zero]
  go_big_quiet_op
  refine hK _ ?_
  refine BigFrame.wpQuiet_want rfl fun K hK => ?_
  try simp only [Act.put, List.setIfInBounds_toArray, List.set_cons_succ, List.set_cons_zero]
  go_big_quiet_op
  first
    | refine ⟨_, fun _ _ => rfl, hK _ ?_⟩
    | refine hK _ ?_
  refine BigFrame.wpQuiet_want rfl fun K hK => ?_
  try simp only [Act.put, List.setIfInBounds_toArray, List.set_cons_succ, List.set_cons_zero]
  go_big_quiet_op
  first
    | refine ⟨_, fun _ _ => rfl, hK _ ?_⟩
    | refine hK _ ?_
  refine BigFrame.wpQuiet_want rfl fun K hK => quiet_one 3 .i64 (.tmp 25) rfl (g) (74) rfl ((c : Int)) Try.underlying3 (fun _ h => (H2.out.fr h (fun x => x)).count) (hK _ ?_)
  refine BigFrame.wpQuiet_want rfl fun K hK => ?_
  try simp only [Act.put, List.setIfInBounds_toArray, List.set_cons_succ, List.set_cons_zero]
  go_big_quiet_op
  first
    | refine ⟨_, fun _ _ => rfl, hK _ ?_⟩
    | refine hK _ ?_
  refine BigFrame.wpQuiet_want rfl fun K hK => ?_
  try simp only [Act.put, List.setIfInBounds_toArray, List.set_cons_succ, List.set_cons_zero]
  go_big_quiet_op
  first
    | refine ⟨_, fun _ _ => rfl, hK _ ?_⟩
    | refine hK _ ?_
  refine BigFrame.wpQuiet_want rfl fun K hK => ?_
  try simp only [Act.put, List.setIfInBounds_toArray, List.set_cons_succ, List.set_cons_zero]
  go_big_quiet_op
  refine ⟨_, Calm.calls CW, hK _ ?_⟩
  refine BigFrame.wpQuiet_want rfl fun K hK => ?_
  try simp only [Act.put, List.setIfInBounds_toArray, List.set_cons_succ, List.set_cons_zero]
  go_big_quiet_op
  refine ⟨_, Calm.calls CB, hK _ ?_⟩
  refine wpQuiet_nil ?_
  intro w9 hw9
  have F9 : Hid (Fr (fun _ => False) w w9) := F2.out.trans hw9
  have G9 := Lib.hid hw9
  clear hw9
  try simp only [Act.put, List.setIfInBounds_toArray, List.set_cons_succ, List.set_cons_zero]
  have R9 := Lib.hid (R2.out.fr G9.out (fun x => x))
  clear R2 G9 F2 H2 B2 CN CW CB k1 k2
  go_wp2_with (refine wpList_store_row rfl 24 (.tmp 2) (.tmp 30) rfl w.heap.size (vs .u8 R) rfl rfl 24 _ R9.out sR.out eZ.out (vs_all _ _) ?_)
  all_goals refine bodyPost_ret (results_cell_row Try.results38 _ _ _ 24 _ (0, 0) _ rfl (setRow_heap _ _ _ _ _ _ R9.out) Try.underlying24 rfl sR.out) rfl ⟨rfl, F9.out.setRow _ (.inr (Nat.le_refl _))⟩
theorem padz_take {X : List Int} {c : Nat} (hl : X.length = 64) (hc : c ≤ 64) : padz (X.take c) = X.take c ++ List.replicate (64 - c) 0 := by
  rw [padz, List.length_take, Nat.min_eq_left (by omega)]
theorem digest_at (g sz : Nat) (k D : List Int) (w : World) (h : HashAt w g sz k D) :
    Calls Try.prog 38 #[.pointer (some ⟨g, 0, none⟩)] w fun e w' => e = .returned (.agg (vs .u8 (bsw (digh (h0 (sz : Int) k.length) (inn k D))))) ∧ Fr (fun _ => False) w w' := by
  obtain ⟨_, _, a3, a4, n, c, X, b1, b2, b3, b4, b5, h⟩ := h
  have hl := inn_length_le k D a3
  have e := digest_is g _ _ _ X c w h (eat_ok (h0_ok _ _) _ _) b4 b2 (by omega) (by omega)
  have e2 : digh (h0 (sz : Int) k.length) (inn k D) = prm (eat (h0 (sz : Int) k.length) (inn k D) n) (ws (X.take c ++ List.replicate (64 - c) 0)) (((64 * n : Nat) : Int) + (c : Int)) true := by
    rw [digh, b1, nbl_is b2 b3, ← b5, padz_take h.2.1 b2, ← prm_ws, Int.natCast_add]
  rw [e2]
  exact e
end Go.Proofs.Ytebknlhooijkcaa
