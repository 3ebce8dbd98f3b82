/- A slice of arrays of 32 bytes, of the call's own: made by a literal, appended to, read. Laws of the model's operations; condition: the lengths that are said. -/
import Derived.Test.YtmhoblefpkjdlaaLift
import Derived.Test.YtmhoblefpkjdlaaBytesM
import Derived.Test.YtmhoblefpkjdlaaCalm
import Derived.Maps.AppendAt
import Derived.Great.BuildSlice
import Derived.Deep.MidRow
namespace Go.Proofs.Ytmhoblefpkjdlaa
open Go.RowKit

/-- A slice of n arrays of bytes, of the call's own. -/
def Ent (w : World) (base : Nat) (v : Value) (n : Nat) : Prop := ∃ xs : List Int, Bys xs ∧ w.ownsRow base 22 32 v n (bs xs)
theorem Ent.nil (w : World) (base : Nat) : Ent w base (.slice none 0 0) 0 := ⟨[], (by intro b hb; cases hb), World.ownsRow_nil _ _ _ _⟩
theorem Ent.shape {w : World} {base : Nat} {v : Value} {n : Nat} (h : Ent w base v n) : ∃ A c, v = .slice A n c := by
  obtain ⟨xs, hb, h⟩ := h
  rcases h.2 with ⟨hv, h0⟩ | ⟨g, cap, cur, hv, _⟩
  · exact ⟨none, 0, by rw [hv, h0]⟩
  · exact ⟨_, cap, hv⟩
theorem Ent.shape2 {w : World} {base : Nat} {v : Value} {n : Nat} (h : Ent w base v (n + 1)) : ∃ q c, v = .slice (some ⟨q, 0, none⟩) (n + 1) c := by
  obtain ⟨xs, hb, h⟩ := h
  rcases h.2 with ⟨hv, h0⟩ | ⟨g, cap, cur, hv, _⟩
  · omega
  · exact ⟨_, cap, hv⟩
theorem Ent.base {w : World} {base : Nat} {v : Value} {n : Nat} (h : Ent w base v n) : ∀ k, v.ownBlock = some k → base ≤ k := by
  obtain ⟨xs, hb, h⟩ := h
  intro k hk
  rcases h.2 with ⟨hv, h0⟩ | ⟨g, cap, cur, hv, hg, _⟩
  · rw [hv] at hk; cases hk
  · rw [hv] at hk; have hk : some g = some k := hk; injection hk with hk; omega
theorem Ent.keep {w w' : World} {base : Nat} {v : Value} {n : Nat} (h : Ent w base v n) {S : Nat → Prop} (hf : Fr S w w') (hv : ∀ k, v.ownBlock = some k → ¬ S k) : Ent w' base v n := by
  obtain ⟨xs, hb, hl, hx⟩ := h
  refine ⟨xs, hb, hl, ?_⟩
  rcases hx with hx | ⟨g, cap, cur, hv', hb, hh, r⟩
  · exact .inl hx
  · exact .inr ⟨g, cap, cur, hv', hb, (hf.block g (heap_lt hh) (hv g (by rw [hv']; rfl))).trans hh, r⟩
theorem Ent.lt {w : World} {base : Nat} {v : Value} {n : Nat} (h : Ent w base v n) : ∀ k, v.ownBlock = some k → k < w.heap.size := by
  obtain ⟨xs, hb, h⟩ := h
  intro k hk
  rcases h.2 with ⟨hv, h0⟩ | ⟨g, cap, cur, hv, hg, hh, _⟩
  · rw [hv] at hk; cases hk
  · rw [hv] at hk; have hk : some g = some k := hk; injection hk with hk; have := heap_lt hh; omega
theorem info22 : (Try.prog.info? 22).map (fun i => (i.zero, i.size, i.bytes)) = some (some (.agg (vs .u8 (List.replicate 32 0))), 32, 32) := by kernel_rfl
theorem underlying54 : Try.prog.underlying 54 = some (.slice 22) := by kernel_rfl
theorem vs_bs (l : List Int) : vs .u8 l = (bs l).toArray := rfl
theorem bs_app (l k : List Int) : bs (l ++ k) = bs l ++ bs k := by simp [bs]

theorem run_ent {w : World} {base : Nat} {v : Value} {n : Nat} (ty : TypeId) (h : Ent w base v n) {g m c : Nat} {k : List Int} (hk : Bys k) (hl : k.length = m * 32) {t : TypeId} (hg : Ar w g t .u8 k)
    (hlen : n + m ≤ 1000) (hbase : base ≤ w.heap.size) :
    ∃ v' w', (Builtin.append_ #[54, 54] ty #[v, .slice (some ⟨g, 0, none⟩) m c]).run Try.prog w = .ok v' w' ∧ Ent w' base v' (n + m) ∧ w.grownBy w' v.ownBlock := by
  obtain ⟨i0, hi, hz0, hz1, hz2⟩ := info_parts info22
  obtain ⟨xs, hb, hown⟩ := h
  have hcells : ∀ j u, (bs k)[j]? = some u → w.cell? ((⟨g, 0, none⟩ : Addr).add j) = some u := by
    intro j u hu
    rw [bs_get] at hu
    obtain ⟨b, hb, rfl⟩ := Option.map_eq_some_iff.1 hu
    rw [Addr.add_mid, Nat.zero_add]
    exact hg.cell hb
  obtain ⟨v', w', hrun, h2, h3, _, h5⟩ := run_append_own_at (P := Try.prog) w base 54 ty 22 i0 _ 32 32 underlying54 hi hz0 hz1 hz2 rfl (by decide) v n (bs xs) hown ⟨g, 0, none⟩ m c (bs k) (by rw [bs_length, hl]) hcells (bs_one k) (by simp only [maxLen]; omega) (by omega) hbase
  refine ⟨v', w', hrun, ⟨xs ++ k, ?_, by rw [bs_app]; exact h2⟩, h3⟩
  intro b hbm
  rcases List.mem_append.1 hbm with hm | hm
  · exact hb b hm
  · exact hk b hm

theorem wpList_ent {ops : Array Oper} {rest : List Oper} {o : Oper} {a : Act} {w : World} {Q : Exit → Act → World → Prop} (hgd : o.guard = none) (s x : Operand)
    (ho : o.op = .call { callee := .builtin .append, args := #[s, x], argTypes := #[54, 54] })
    {base : Nat} {v : Value} {n : Nat} (h : Ent w base v n) (hsv : a.eval s = v) {g m c : Nat} {k : List Int} (hx : a.eval x = .slice (some ⟨g, 0, none⟩) m c) (hk : Bys k) (hl : k.length = m * 32) {t : TypeId} (hg : Ar w g t .u8 k)
    (hlen : n + m ≤ 1000) (hbase : base ≤ w.heap.size)
    (hK : ∀ v' w', Ent w' base v' (n + m) → w.grownBy w' v.ownBlock → wpList Try.prog ops Q rest (a.put o.dst v') w') : wpList Try.prog ops Q (o :: rest) a w := by
  refine wpList_plain hgd fun K hk' => ?_
  obtain ⟨v', w', hrun, he, hgr⟩ := run_ent o.type h hk hl hg hlen hbase
  unfold Oper.wp execOp
  simp only [ho, resolve, invoke, builtin, Sem.run_bind, Sem.run_pure, Result.andThen_ok, List.map_toArray, List.map_cons, List.map_nil, hsv, hx]
  rw [hrun]
  exact hk' _ _ (hK v' w' he hgr)

/-- A literal of two arrays. -/
theorem wpList_lit2 {ops : Array Oper} {rest : List Oper} {o : Oper} {a : Act} {w : World} {Q : Exit → Act → World → Prop} (hg : o.guard = none) (x y : Operand) (ho : o.op = .buildSlice 54 2 #[(0, x), (1, y)])
    (l m : List Int) (hl : l.length = 32) (hm : m.length = 32) (hx : a.eval x = .agg (vs .u8 l)) (hy : a.eval y = .agg (vs .u8 m))
    (h : wpList Try.prog ops Q rest (a.put o.dst (.slice (some ⟨w.heap.size, 0, none⟩) 2 2)) (w.alloc (.cells (vs .u8 (l ++ m)) 22))) : wpList Try.prog ops Q (o :: rest) a w := by
  obtain ⟨i0, hi, hz0, hz1, hz2⟩ := info_parts info22
  refine wpList_buildSlice hg 54 22 2 #[(0, x), (1, y)] ho (vs .u8 (l ++ m)) i0 _ underlying54 hi hz0 (by rw [hz1]; decide) (by rw [hz1]; decide) ?_ h
  rw [hz1]
  have e := Great.fill_whole (s := 32) (by decide) [.agg (vs .u8 l), .agg (vs .u8 m)] ((Array.range (2 * 32)).map ((Value.agg (vs .u8 (List.replicate 32 0))).cells[· % (Value.agg (vs .u8 (List.replicate 32 0))).cells.size]!))
    (by
      intro v hv
      simp only [List.mem_cons, List.not_mem_nil, or_false] at hv
      rcases hv with rfl | rfl
      · show (vs .u8 l).size = 32
        rw [vs_size, hl]
      · show (vs .u8 m).size = 32
        rw [vs_size, hm])
    (by simp)
  have e2 : ((#[(0, x), (1, y)] : Array (Nat × Operand)).map fun (i, x) => (i, a.eval x)).toList = (([.agg (vs .u8 l), .agg (vs .u8 m)] : List Value).zipIdx 0).map fun x => (x.2, x.1) := by
    simp [hx, hy]
  rw [e2, e]
  congr 1
  simp [vs, Value.cells]
theorem wpList_lit1 {ops : Array Oper} {rest : List Oper} {o : Oper} {a : Act} {w : World} {Q : Exit → Act → World → Prop} (hg : o.guard = none) (x : Operand) (ho : o.op = .buildSlice 54 1 #[(0, x)])
    (l : List Int) (hl : l.length = 32) (hx : a.eval x = .agg (vs .u8 l))
    (h : wpList Try.prog ops Q rest (a.put o.dst (.slice (some ⟨w.heap.size, 0, none⟩) 1 1)) (w.alloc (.cells (vs .u8 l) 22))) : wpList Try.prog ops Q (o :: rest) a w := by
  obtain ⟨i0, hi, hz0, hz1, hz2⟩ := info_parts info22
  refine wpList_buildSlice hg 54 22 1 #[(0, x)] ho (vs .u8 l) i0 _ underlying54 hi hz0 (by rw [hz1]; decide) (by rw [hz1]; decide) ?_ h
  rw [hz1]
  have e := Great.fill_whole (s := 32) (by decide) [.agg (vs .u8 l)] ((Array.range (1 * 32)).map ((Value.agg (vs .u8 (List.replicate 32 0))).cells[· % (Value.agg (vs .u8 (List.replicate 32 0))).cells.size]!))
    (by
      intro v hv
      simp only [List.mem_cons, List.not_mem_nil, or_false] at hv
      subst hv
      show (vs .u8 l).size = 32
      rw [vs_size, hl])
    (by simp)
  have e2 : ((#[(0, x)] : Array (Nat × Operand)).map fun (i, x) => (i, a.eval x)).toList = (([.agg (vs .u8 l)] : List Value).zipIdx 0).map fun x => (x.2, x.1) := by
    simp [hx]
  rw [e2, e]
  congr 1
  simp [vs, Value.cells]
/-- What an array of the slice reads. -/
theorem Ent.get {w : World} {base q n c : Nat} (h : Ent w base (.slice (some ⟨q, 0, none⟩) n c) n) : ∃ xs : List Int, Bys xs ∧ xs.length = n * 32 ∧ n ≤ c ∧ ∃ cur : Array Value, w.heap[q]? = some (.cells cur 22 (0, 0)) ∧ cur.toList.take (n * 32) = bs xs := by
  obtain ⟨xs, hb, hl, hx⟩ := h
  rw [bs_length] at hl
  rcases hx with ⟨hx, _⟩ | ⟨g, cap, cur, hv, _, hh, hn, _, _, ht⟩
  · cases hx
  · injection hv with e1 e2 e3
    injection e1 with e1
    injection e1 with e1
    subst e1
    exact ⟨xs, hb, hl, by omega, cur, hh, ht⟩
theorem range_of {w : World} {q n i : Nat} {xs : List Int} {cur : Array Value} (hh : w.heap[q]? = some (.cells cur 22 (0, 0))) (ht : cur.toList.take (n * 32) = bs xs) (hl : xs.length = n * 32) (hi : i < n) :
    w.rangeAt q (i * 32) (bs ((xs.drop (i * 32)).take 32)) := by
  intro j v hj
  rw [cell_of_row w q (i * 32 + j) cur 22 (0, 0) hh]
  rw [bs_get, List.getElem?_take] at hj
  split at hj
  · rw [List.getElem?_drop] at hj
    have h1 : (bs xs)[i * 32 + j]? = some v := by rw [bs_get]; exact hj
    rw [← ht, List.getElem?_take] at h1
    split at h1
    · simpa using h1
    · cases h1
  · cases hj

section
variable {C : World → Prop} {a : Act} {o : Oper} {K : Act → Prop}
/-- The address of an array of the slice. -/
theorem quiet_index (x y : Operand) (ho : o.op = .indexAddr 54 x y) (q n c i : Nat) (hx : a.eval x = .slice (some ⟨q, 0, none⟩) n c) (z : Int) (hy : a.eval y = .int .i64 z) (hz : z = (i : Int)) (hi : i < n)
    (hk : K (a.put o.dst (.pointer (some ⟨q, i * 32, none⟩)))) : o.quiet Try.prog a C K := by
  subst hz
  refine quiet_run _ (fun w hw => ?_) hk
  obtain ⟨i0, h0, hz0, hz1, hz2⟩ := info_parts info22
  have h1 : ((0 : Int) ≤ (i : Int) ∧ (i : Int) < (n : Int)) := ⟨by omega, by omega⟩
  have h2 : ((i : Int)).toNat = i := by omega
  unfold execOp
  simp [ho, hx, hy, Instr.indexAt, asIntOf, run_underlying underlying54, sizeOf, typeInfo, h0, hz1, h1, h2, Sem.run_bind, Sem.run_pure, Result.andThen_ok, Addr.add_mid]
  exact fun h => by omega
theorem quiet_mid (x : Operand) (ho : o.op = .load 22 x) (q i : Nat) (hx : a.eval x = .pointer (some ⟨q, i, none⟩)) (l : List Int) (hl : l.length = 32) (hg : ∀ w, C w → w.rangeAt q i (bs l))
    (hk : K (a.put o.dst (.agg (vs .u8 l)))) : o.quiet Try.prog a C K := by
  refine quiet_run _ (fun w hw => ?_) hk
  unfold execOp
  simp only [ho, hx, Instr.loadAt, Instr.sureAddr, Sem.run_bind, Sem.run_pure, Result.andThen_ok, run_loadVar_mid (P := Try.prog) w q i 22 (bs l) _ (hg w hw) Try.underlying22 rfl (by rw [size22, bs_length, hl])]
  rfl
theorem quiet_cell (x : Operand) (ho : o.op = .load 5 x) (q i : Nat) (hx : a.eval x = .pointer (some ⟨q, i, none⟩)) (l : List Int) (y : Int) (hl : l[i]? = some y) (hg : ∀ w, C w → Ar w q 22 .u8 l)
    (hk : K (a.put o.dst (.int .u8 y))) : o.quiet Try.prog a C K := by
  refine quiet_run _ (fun w hw => ?_) hk
  have hc := (hg w hw).cell hl
  unfold execOp
  simp [ho, hx, Instr.loadAt, Instr.sureAddr, loadVar, isAgg, run_underlying Try.underlying5, hc, Sem.run_bind, Sem.run_pure, Result.andThen_ok]
end
end Go.Proofs.Ytmhoblefpkjdlaa
