/- A poly's block: its parts read and written; copy into it. Lemmas alone. -/
import Derived.Test.YtebknlhooijkcaaT
import Derived.Laws.CopyRow
import Derived.Test.YtebknlhooijkcaaK
import Derived.Lib.AppendZerosOnto
namespace Go.Proofs.Ytebknlhooijkcaa
set_option linter.unusedSimpArgs false
set_option linter.unusedVariables false
open Go.RowKit

/-- A poly's cells. -/
def pl (r0 r1 r2 h0 h1 h2 s0 s1 : Int) (W : List Int) (c : Nat) : List Value :=
  [.bool true, .int .u64 r0, .int .u64 r1, .int .u64 r2, .int .u64 h0, .int .u64 h1, .int .u64 h2, .int .u64 s0, .int .u64 s1] ++ (bs W ++ [.int .i64 c])
section
variable {w w' : World} {g : Nat} {r0 r1 r2 h0 h1 h2 s0 s1 : Int} {W : List Int} {c : Nat}
theorem pl_length (h : W.length = 16) : (pl r0 r1 r2 h0 h1 h2 s0 s1 W c).length = 26 := by simp [pl, bs_length, h]
end

/-- Bytes are copied into a row of cells. -/
theorem run_op_copy {o : Oper} {a : Act} (x y : Operand) (ho : o.op = .call { callee := .builtin .copy, args := #[x, y], argTypes := #[22, 22] }) (w : World) (g off dl dc : Nat) (hx : a.eval x = .slice (some ⟨g, off, none⟩) dl dc) (A : Addr) (sl sc : Nat) (hy : a.eval y = .slice (some A) sl sc)
    (cur : Array Value) (t : TypeId) (X : List Int) (hg : w.heap[g]? = some (.cells cur t (0, 0))) (hn : X.length = Nat.min sl dl) (hs : ∀ j b, X[j]? = some b → w.cell? (A.add j) = some (.int .u8 b)) (hf : off + X.length ≤ cur.size) :
    (execOp a.eval o).run Try.prog w = .ok (.value (.int .i64 X.length)) (w.setRow g (cur.toList.take off ++ bs X ++ cur.toList.drop (off + (bs X).length)).toArray) := by
  have h := run_copy_row Try.prog w 22 22 o.type 5 g off dl dc A sl sc cur t (bs X) Try.underlying22 size5 hg (by rw [bs_length]; exact hn) (fun j v hv => by
    rw [bs_get] at hv
    cases hX : X[j]? with
    | none => rw [hX] at hv; cases hv
    | some b => rw [hX] at hv; injection hv with hv; subst hv; exact hs j b hX) (by rw [bs_length]; exact hf) (bs_one X)
  rw [bs_length] at h ⊢
  obtain ⟨dst, op, ty, pos, after, guard⟩ := o
  obtain rfl : op = _ := ho
  rw [BigFrame.execOp_builtin, BigFrame.builtin_copy]
  simp only [List.map_toArray, List.map_cons, List.map_nil, hx, hy, Sem.run_bind, h, Result.andThen_ok, Sem.run_pure]
  simp only [goInt]
end Go.Proofs.Ytebknlhooijkcaa

/- Arguments that are keys, arrays of sixteenP bytes, bytes, ints, opened. Lemmas alone. -/
namespace Go.Proofs.Ytebknlhooijkcaa
set_option linter.unusedSimpArgs false
set_option linter.unusedVariables false
open Go.ChangeShapes Go.WideShapes Go.ChangeAt Go.RowKit

theorem open_key {H : Type} {enc : TypeId × Value → H} {W : World} {base b0 : Nat} {sp : Nat → Bool} {held : Bool} {r : Reach} {v : Value} {d : DataW H} {ps : List MemPlace}
    (hv : Value.okWide Try.prog W r b0 32 v) (h : DataW.Trod enc Try.prog W base sp held 32 v d ps) : ∃ k : List Int, v = .agg (vs .u8 k) ∧ k.length = 32 ∧ Bys k := by
  obtain ⟨l, h1, h2, h3⟩ := open_ints_arr Try.underlying32 Try.underlying5 (by kernel_rfl) (by kernel_rfl) hv h
  exact ⟨l, h1, h2, fun x hx => wf_u8 (h3 x hx)⟩
theorem open_a16 {H : Type} {enc : TypeId × Value → H} {W : World} {base b0 : Nat} {sp : Nat → Bool} {held : Bool} {r : Reach} {v : Value} {d : DataW H} {ps : List MemPlace}
    (hv : Value.okWide Try.prog W r b0 80 v) (h : DataW.Trod enc Try.prog W base sp held 80 v d ps) : ∃ k : List Int, v = .agg (vs .u8 k) ∧ k.length = 16 ∧ Bys k := by
  obtain ⟨l, h1, h2, h3⟩ := open_ints_arr Try.underlying80 Try.underlying5 (by kernel_rfl) (by kernel_rfl) hv h
  exact ⟨l, h1, h2, fun x hx => wf_u8 (h3 x hx)⟩
theorem keys_info {k : List Int} (hk : k.length = 32) : (Try.prog.info? 32).map (·.size) = some (vs .u8 k).size := by rw [vs_size, hk]; exact info23
theorem tags_info {k : List Int} (hk : k.length = 16) : (Try.prog.info? 80).map (·.size) = some (vs .u8 k).size := by rw [vs_size, hk]; exact info26
end Go.Proofs.Ytebknlhooijkcaa

/- A poly that has taken bytes; Write: contract. Conditions: a poly that New made, a slice that lies in memory and is not the poly's own. -/
namespace Go.Proofs.Ytebknlhooijkcaa
set_option linter.unusedSimpArgs false
set_option linter.unusedVariables false
open Go.RowKit

def R0 (k : List Int) : Int := rr k % 17592186044416
def R1 (k : List Int) : Int := rr k / 17592186044416 % 17592186044416
def R2 (k : List Int) : Int := rr k / 309485009821345068724781056
def S0 (k : List Int) : Int := vl ((k.drop 16).take 8)
def S1 (k : List Int) : Int := vl ((k.drop 16).drop 8)
section
variable {ops : Array Oper} {rest : List Oper} {op : Oper} {a : Act} {w : World} {Q : Exit → Act → World → Prop}
theorem wpList_midP (hgd : op.guard = none) (ty : TypeId) (x : Operand) (ho : op.op = .load ty x) (q i : Nat) (hx : a.eval x = .pointer (some ⟨q, i, none⟩)) (k : IntKind) (l : List Int) (d : TypeDesc) (hg : w.rangeAt q i (vs k l).toList)
    (hd : Try.prog.underlying ty = some d) (hr : d.isRow = true) (hl : (Try.prog.info? ty).map (·.size) = some l.length) (h : wpList Try.prog ops Q rest (a.put op.dst (.agg (vs k l))) w) : wpList Try.prog ops Q (op :: rest) a w :=
  wpList_load_mid hgd ty x ho q i hx (vs k l).toList d hg hd hr (by rw [hl]; simp [vs]) (by simpa using h)
end
theorem Fr.setCells {S : Nat → Prop} {a b : World} (h : Fr S a b) {g : Nat} (hp : S g ∨ a.heap.size ≤ g) : ∀ (o : Nat) (cs : List Value), Fr S a (b.setCells g o cs) := by
  intro o cs
  induction cs generalizing o b with
  | nil => exact h
  | cons v r ih =>
    rw [World.setCells]
    exact ih (h.setCell v hp) (o + 1)
def sLen : Value → Nat
  | .slice _ n _ => n
  | _ => 0
theorem run_slice_low {o : Oper} {a : Act} (x y : Operand) (ho : o.op = .slice 80 x (some y) none none) (g off c : Nat) (hx : a.eval x = .pointer (some ⟨g, off, none⟩)) (hy : a.eval y = .int .i64 (c : Int)) (hc : c < 16) (W : World) :
    (execOp a.eval o).run Try.prog W = .ok (.value (.slice (some ⟨g, off + c, none⟩) (16 - c) (16 - c))) W := by
  have e1 : (Try.prog.arrayLen 80) = 16 := by kernel_rfl
  have e2 : Try.prog.elem 80 = 5 := by kernel_rfl
  have e3 : Try.prog.underlying 80 = some (.array (Try.prog.arrayLen 80) (Try.prog.elem 80)) := by kernel_rfl
  have e4 : ¬ 16 = c := by omega
  have h := run_sliceAt_array_l (P := Try.prog) (w := W) (t := 80) (a := ⟨g, off, none⟩) e3 .i64 (c : Int) (by omega) (by rw [e1]; omega)
  unfold execOp
  simp only [ho, hx, hy, Option.map_some, Option.map_none, Sem.run_bind, h]
  cases hq : Try.prog.info? 5 with
  | none => have := size5; simp [hq] at this
  | some i =>
    have hi : i.size = 1 := by have := size5; simpa [hq] using this
    simp [sizeOf, typeInfo, e2, slicedAt, e1, e4, Addr_add_none, hq, hi]
end Go.Proofs.Ytebknlhooijkcaa

/- poly.New: contract. Conditions: a key of 32 bytes. -/
namespace Go.Proofs.Ytebknlhooijkcaa
set_option linter.unusedSimpArgs false
set_option linter.unusedVariables false
open Go.RowKit

theorem calm1b {w : World} {A : Obj} {W0 : World} (h : w.alloc A = W0) : W0.heap[w.heap.size]? = some A ∧ Fr (fun _ => False) w W0 := by
  subst h
  exact ⟨heap_alloc_new w A, (Fr.refl _ _).alloc _⟩
end Go.Proofs.Ytebknlhooijkcaa

/- Poly's rest and Sum: contracts. Conditions: a poly that New made. -/
namespace Go.Proofs.Ytebknlhooijkcaa
set_option linter.unusedSimpArgs false
set_option linter.unusedVariables false
open Go.RowKit

theorem pow256 {a b : Nat} (h : a ≤ b) : (256 : Int) ^ a ≤ 256 ^ b := by
  obtain ⟨d, rfl⟩ := Nat.exists_eq_add_of_le h
  rw [Int.pow_add]
  have h1 : (0 : Int) < 256 ^ a := Int.pow_pos (by decide)
  have h2 : (0 : Int) < 256 ^ d := Int.pow_pos (by decide)
  have := Int.mul_le_mul_of_nonneg_left (show (1 : Int) ≤ 256 ^ d by omega) (Int.le_of_lt h1)
  omega
theorem run_slice_high {o : Oper} {a : Act} (x y : Operand) (ho : o.op = .slice 80 x none (some y) none) (g off c : Nat) (hx : a.eval x = .pointer (some ⟨g, off, none⟩)) (hy : a.eval y = .int .i64 (c : Int)) (hc : c ≤ 16) (W : World) :
    (execOp a.eval o).run Try.prog W = .ok (.value (.slice (some ⟨g, off, none⟩) c 16)) W := by
  have e1 : (Try.prog.arrayLen 80) = 16 := by kernel_rfl
  have e2 : Try.prog.elem 80 = 5 := by kernel_rfl
  have e3 : Try.prog.underlying 80 = some (.array (Try.prog.arrayLen 80) (Try.prog.elem 80)) := by kernel_rfl
  have h := run_sliceAt_array_h (P := Try.prog) (w := W) (t := 80) (a := ⟨g, off, none⟩) e3 .i64 (c : Int) (by omega) (by rw [e1]; omega)
  unfold execOp
  simp only [ho, hx, hy, Option.map_some, Option.map_none, Sem.run_bind, h]
  cases hq : Try.prog.info? 5 with
  | none => have := size5; simp [hq] at this
  | some i =>
    have hi : i.size = 1 := by have := size5; simpa [hq] using this
    simp [sizeOf, typeInfo, e2, slicedAt, e1, Addr.add, hq, hi]

end Go.Proofs.Ytebknlhooijkcaa

/- A poly that is none, and one that was never made: Write does nothing, Sum answers zeros; an append that has no room; an append of zeros. Contracts; conditions: the blocks. -/
namespace Go.Proofs.Ytebknlhooijkcaa
set_option linter.unusedSimpArgs false
set_option linter.unusedVariables false
open Go.RowKit

/-- An append onto a slice that has no room. -/
theorem run_grow {w : World} (ty : TypeId) {g0 : Nat} {a0 : Addr} {n c0 : Nat} {l : List Int} (h : Sl w g0 (.slice (some a0) n c0) l) {g : Nat} {a : Addr} {m c : Nat} {k : List Int} (hs : Sl w g (.slice (some a) m c) k) (hroom : c0 < n + m) (hlen : n + m ≤ 140737488355328) :
    ∃ c' w', (Builtin.append_ #[22, 22] ty #[.slice (some a0) n c0, .slice (some a) m c]).run Try.prog w = .ok (.slice (some ⟨w.heap.size, 0, none⟩) (n + m) c') w' ∧ Ow w' (.slice (some ⟨w.heap.size, 0, none⟩) (n + m) c') (l ++ k) ∧ Fr (fun _ => False) w w' := by
  obtain ⟨i0, hi, hz0, hz1, hz2⟩ := info_parts Try.info5
  have cells : ∀ {g : Nat} {a : Addr} {m c : Nat} {k : List Int}, Sl w g (.slice (some a) m c) k → ∀ j u, (bs k)[j]? = some u → w.cell? (a.add j) = some u := by
    intro g a m c k hs j u hu
    rw [bs_get] at hu
    obtain ⟨b, hb, rfl⟩ := Option.map_eq_some_iff.1 hu
    obtain ⟨_, A', c', e, _, _, hx⟩ := hs
    injection e with e1
    obtain ⟨o, e2, _, hcell⟩ := hx (by rintro rfl; simp at hb)
    rw [← e1] at e2
    injection e2 with e2
    subst e2
    rw [Addr_add_none]
    exact hcell j b hb
  have hl := h.len
  have hk := hs.len
  have hr := run_append_grow (P := Try.prog) w 22 ty 5 i0 _ Try.underlying22 hi hz0 a0 n c0 (bs l) (by rw [bs_length, hz1]; omega) (cells h) a m c (bs k) (by rw [bs_length, hz1]; omega) (cells hs) hroom (by omega) (growslice_fits hroom (by rw [hz2]; omega))
  refine ⟨_, _, hr, ⟨⟨by rw [bs_length, Nat.mul_one], .inr ⟨_, _, _, by rw [List.length_append, hl, hk]; rfl, Nat.zero_le _, heap_alloc_new w.drew _, ?_, grownCap_le_maxLen w (n + m) c0 5 (by simp only [maxLen]; omega), ?_, ?_⟩⟩, h.1.append hs.1⟩, ((Fr.refl _ _).drew).alloc _⟩
  · rw [List.length_append, hl, hk]
    exact grownCap_ge w (n + m) c0 5
  · have := grownCap_ge w (n + m) c0 5
    simp only [Array.size_append, List.size_toArray, size_zeroCells, bs_length, hl, hk, Nat.mul_one]
    show n + m + _ * 1 = _
    omega
  · simp only [Array.toList_append, List.append_assoc]
    rw [← List.append_assoc, bs_append, Nat.mul_one]
    have e : (l ++ k).length = (bs (l ++ k)).length := (bs_length _).symm
    rw [e]
    exact List.take_left
theorem zero_cells (k : Nat) : Builtin.zeroCells (Value.int .u8 0).cells k = (bs (List.replicate k 0)).toArray := by
  apply Array.ext'
  apply List.ext_getElem?
  intro j
  rcases Nat.lt_or_ge j k with h | h
  · simp [Builtin.zeroCells, bs, Value.cells, h, Nat.mod_one]
  · simp [Builtin.zeroCells, bs, Value.cells, h]
/-- An append of so many zeros. -/
theorem run_own_zeros {w : World} {v : Value} {l : List Int} (ty : TypeId) (h : Ow w v l) (k : Nat) (h0 : 0 < k) (hlen : l.length + k ≤ 140737488355328) (hl0 : 0 < l.length) :
    ∃ A' N c' w', (Builtin.append_ #[22, 3] ty #[v, .int .i64 k]).run Try.prog w = .ok (.slice A' N c') w' ∧ Ap2 w v l (List.replicate k 0) (.slice A' N c') w' ∧ N = l.length + k := by
  obtain ⟨i0, hi, hz0, hz1, hz2⟩ := info_parts Try.info5
  have hb : Bys (List.replicate k 0) := fun b hb => by rw [(List.mem_replicate.1 hb).2]; omega
  have hll : (l ++ List.replicate k 0).length = l.length + k := by rw [List.length_append, List.length_replicate]
  rcases h.1.2 with ⟨hv, h0⟩ | ⟨g, cap, cur, hv, hbg, hh, hn, hm, hs, ht⟩
  · omega
  · subst hv
    rw [Nat.mul_one] at hs ht
    by_cases hroom : l.length + k ≤ cap
    · have hst := run_storeCells_at Try.prog g l.length 5 (bs (List.replicate k 0)) 0 cur w hh (by rw [bs_length, List.length_replicate]; omega) (bs_one _)
      have hw : IntKind.i64.wrap (k : Int) = k := by rw [IntKind.wrap_i64]; omega
      have hneg : ¬ ((k : Int) < 0) := by omega
      have h48i : ¬ (281474976710656 < (k : Int)) := by omega
      have hk : k ≠ 0 := by omega
      rw [Nat.add_zero] at hst
      refine ⟨some ⟨g, 0, none⟩, l.length + k, cap, w.setRow g (cur.toList.take l.length ++ bs (List.replicate k 0) ++ cur.toList.drop (l.length + (bs (List.replicate k 0)).length)).toArray, ?_, ⟨⟨⟨by rw [bs_length, Nat.mul_one], .inr ⟨g, cap, _, by rw [hll], Nat.zero_le _, setRow_heap w g cur _ 5 _ hh, by rw [hll]; exact hroom, hm, ?_, ?_⟩⟩, h.2.append hb⟩, ⟨rfl, rfl, rfl, by simp, fun k _ hk => setRow_other w g k _ (fun e => hk (by simp [Value.ownBlock, e]))⟩, .inl rfl⟩, rfl⟩
      · simp [Builtin.append_, run_underlying Try.underlying22, run_underlying Try.underlying3, sizeOf, typeInfo, hi, hz0, hz1, hz2, asInt, asIntOf, hw, hneg, h48i, hk, hroom, zeroValue, zero_cells, Addr.add_lit, hst]
      · simp only [List.size_toArray, List.length_append, List.length_take, List.length_drop, Array.length_toList, bs_length, List.length_replicate]
        omega
      · have e : ((cur.toList.take l.length ++ bs (List.replicate k 0) ++ cur.toList.drop (l.length + (bs (List.replicate k 0)).length)).toArray).toList = bs (l ++ List.replicate k 0) ++ cur.toList.drop (l.length + (bs (List.replicate k 0)).length) := by
          rw [ht, bs_append]
        rw [e, Nat.mul_one, ← bs_length (l ++ List.replicate k 0)]
        exact List.take_left
    · have hf : (Builtin.firstCells i0.size l.length (.slice (some ⟨g, 0, none⟩) l.length cap)).run Try.prog w.drew = .ok (bs l).toArray w.drew := run_firstCells_some (P := Try.prog) w.drew i0.size l.length ⟨g, 0, none⟩ l.length cap (bs l) (by rw [bs_length, hz1, Nat.mul_one]) (by simpa using h.1.cells (g := g) rfl)
      have hr := Lib.run_append_grow_zeros (P := Try.prog) w 22 3 ty 5 i0 _ .i64 .i64 Try.underlying22 Try.underlying3 hi hz0 (some ⟨g, 0, none⟩) l.length cap (bs l) hf k h0 (by rw [hz1]; decide) (by omega) (by omega) (by rw [hz2]; omega) (growslice_fits (by omega) (by rw [hz2]; omega))
      have hge := grownCap_ge w (l.length + k) cap 5
      refine ⟨_, _, _, _, hr, ⟨⟨⟨by rw [bs_length, Nat.mul_one], .inr ⟨_, _, _, by rw [hll]; rfl, Nat.zero_le _, heap_alloc_new w.drew _, by rw [hll]; exact hge, grownCap_le_maxLen w (l.length + k) cap 5 (by simp only [maxLen]; omega), ?_, ?_⟩⟩, h.2.append hb⟩, ⟨rfl, rfl, rfl, by simp, fun k hk _ => heap_alloc_old w.drew _ hk⟩, .inr rfl⟩, rfl⟩
      · simp only [zero_cells, Array.size_append, List.size_toArray, bs_length, List.length_replicate, Nat.mul_one]
        omega
      · simp only [zero_cells, Array.toList_append]
        rw [bs_append, Nat.mul_one, ← bs_length (l ++ List.replicate k 0)]
        exact List.take_left
end Go.Proofs.Ytebknlhooijkcaa

/- poly.Tag: contract. Conditions: a key of 32 bytes, a slice that lies in memory. -/
namespace Go.Proofs.Ytebknlhooijkcaa
set_option linter.unusedSimpArgs false
set_option linter.unusedVariables false
open Go.RowKit

theorem Sl.empty {w : World} {g : Nat} {v : Value} (h : Sl w g v []) (g' : Nat) : Sl w g' v [] := by
  obtain ⟨h1, A, c, h2, h3, h4, _⟩ := h
  exact ⟨h1, A, c, h2, h3, h4, fun e => absurd rfl e⟩
/-- A block that is not g, where the bytes may be said to lie. -/
theorem Sl.apart {w : World} {gb : Nat} {v : Value} {l : List Int} (h : Sl w gb v l) (hgb : l ≠ [] → gb < w.heap.size) (g : Nat) (hg : w.heap.size ≤ g) : ∃ gc, gc ≠ g ∧ Sl w gc v l ∧ (l ≠ [] → gc < w.heap.size) := by
  by_cases hl : l = []
  · subst hl
    exact ⟨g + 1, by omega, h.empty _, fun e => absurd rfl e⟩
  · exact ⟨gb, by have := hgb hl; omega, h, hgb⟩
end Go.Proofs.Ytebknlhooijkcaa
