/- The reference's number and places: contracts. Conditions: bytes, the place within them. -/
import Derived.Test.YtebknlhooijkcaaQ
import Derived.Test.YtebknlhooijkcaaK
import Derived.StillTailTactics
import Derived.Great.BuildSlice
import Derived.Lib.ConvBytes
import Derived.Laws.AppendOwn
namespace Go.Proofs.Ytebknlhooijkcaa
set_option linter.unusedSimpArgs false
set_option linter.unusedVariables false
open Go.RowKit


def flatP : List Int := [0, 4, 8, 12, 1, 5, 9, 13, 2, 6, 10, 14, 3, 7, 11, 15, 0, 5, 10, 15, 1, 6, 11, 12, 2, 7, 8, 13, 3, 4, 9, 14]
theorem size57 : (Try.prog.info? 76).map (·.size) = some 32 := by kernel_rfl
theorem size56 : (Try.prog.info? 75).map (·.size) = some 4 := by kernel_rfl
end Go.Proofs.Ytebknlhooijkcaa

/- The places of the quarter rounds, one behind the other: lemmas alone. -/
namespace Go.Proofs.Ytebknlhooijkcaa
set_option linter.unusedSimpArgs false
set_option linter.unusedVariables false
open Go.RowKit

/-- The first places' quarter rounds. -/
def pk (m : Nat) (t : List Int) : List Int := (places.take m).foldl qal t
theorem pk_succ (t : List Int) (m : Nat) (h : m < 8) : pk (m + 1) t = qal (pk m t) (places.getD m []) := by
  have h2 : m < places.length := h
  unfold pk
  rw [List.take_succ_eq_append_getElem h2, List.foldl_append, List.getD_eq_getElem?_getD, List.getElem?_eq_getElem h2]
  rfl
theorem pk_eight (t : List Int) : pk 8 t = rds t := rfl
theorem pk_ok {t : List Int} (hl : t.length = 16) (hw : Wds t) (m : Nat) : (pk m t).length = 16 ∧ Wds (pk m t) := by
  have key : ∀ (ps : List (List Nat)) (s : List Int), (∀ p ∈ ps, ∀ x ∈ p, x < 16) → s.length = 16 → Wds s → (ps.foldl qal s).length = 16 ∧ Wds (ps.foldl qal s) := by
    intro ps
    induction ps with
    | nil => intro s _ h1 h2; exact ⟨h1, h2⟩
    | cons p r ih =>
      intro s hp h1 h2
      have hb : ∀ i, p.getD i 0 < 16 := fun i => by
        rw [List.getD_eq_getElem?_getD]
        rcases h : p[i]? with _ | x
        · simp
        · exact hp p (by simp) x (List.mem_of_getElem? h)
      exact ih _ (fun q hq => hp q (by simp [hq])) (by rw [qal, qat_length, h1]) (qat_wds h2 (by rw [h1]; exact hb 0) (by rw [h1]; exact hb 1) (by rw [h1]; exact hb 2) (by rw [h1]; exact hb 3))
  have all : ∀ p ∈ places, ∀ x ∈ p, x < 16 := by decide
  exact key _ t (fun p hp => all p (List.mem_of_mem_take hp)) hl hw
theorem flat_at : ∀ m, m < 8 → ∃ p0 p1 p2 p3 : Nat, places.getD m [] = [p0, p1, p2, p3] ∧ p0 < 16 ∧ p1 < 16 ∧ p2 < 16 ∧ p3 < 16 ∧ (flatP.drop (4 * m)).take 4 = [(p0 : Int), (p1 : Int), (p2 : Int), (p3 : Int)] := by
  intro m hm
  match m, hm with
  | 0, _ => exact ⟨0, 4, 8, 12, rfl, by decide, by decide, by decide, by decide, rfl⟩
  | 1, _ => exact ⟨1, 5, 9, 13, rfl, by decide, by decide, by decide, by decide, rfl⟩
  | 2, _ => exact ⟨2, 6, 10, 14, rfl, by decide, by decide, by decide, by decide, rfl⟩
  | 3, _ => exact ⟨3, 7, 11, 15, rfl, by decide, by decide, by decide, by decide, rfl⟩
  | 4, _ => exact ⟨0, 5, 10, 15, rfl, by decide, by decide, by decide, by decide, rfl⟩
  | 5, _ => exact ⟨1, 6, 11, 12, rfl, by decide, by decide, by decide, by decide, rfl⟩
  | 6, _ => exact ⟨2, 7, 8, 13, rfl, by decide, by decide, by decide, by decide, rfl⟩
  | 7, _ => exact ⟨3, 4, 9, 14, rfl, by decide, by decide, by decide, by decide, rfl⟩
theorem flat_range {W : World} {tq : Nat} {FP : List Int} {m p0 p1 p2 p3 : Nat} (h : Ar W tq 76 .i64 FP) (hf : (FP.drop (4 * m)).take 4 = [(p0 : Int), (p1 : Int), (p2 : Int), (p3 : Int)]) :
    W.rangeAt tq (4 * m) [.int .i64 p0, .int .i64 p1, .int .i64 p2, .int .i64 p3] := fun j v hj => by
  have e : [Value.int .i64 p0, .int .i64 p1, .int .i64 p2, .int .i64 p3] = ((FP.drop (4 * m)).take 4).map (Value.int .i64) := by rw [hf]; rfl
  rw [e, List.getElem?_map] at hj
  obtain ⟨x, hx, rfl⟩ := Option.map_eq_some_iff.1 hj
  rw [List.getElem?_take] at hx
  split at hx
  · rw [List.getElem?_drop] at hx
    exact h.cell hx
  · cases hx
/-- The first of four words laid at their places. -/
def ps (s : List Int) (pl : List Nat) (ql : List Int) : Nat → List Int
  | 0 => s
  | i + 1 => (ps s pl ql i).set (pl.getD i 0) (ql.getD i 0)
theorem ps_length (s : List Int) (pl : List Nat) (ql : List Int) (i : Nat) : (ps s pl ql i).length = s.length := by
  induction i with
  | zero => rfl
  | succ i ih => simp [ps, ih]
theorem ps_four {s : List Int} {p0 p1 p2 p3 : Nat} {x0 x1 x2 x3 z0 z1 z2 z3 : Int} (h0 : s.getD p0 0 = x0) (h1 : s.getD p1 0 = x1) (h2 : s.getD p2 0 = x2) (h3 : s.getD p3 0 = x3) (hq : qf x0 x1 x2 x3 = (z0, z1, z2, z3)) :
    ps s [p0, p1, p2, p3] [z0, z1, z2, z3] 4 = qat s p0 p1 p2 p3 := (qat_eq h0 h1 h2 h3 hq).symm
theorem get_nat {l : List Nat} {i : Nat} (h : i < l.length) : l[i]? = some (l.getD i 0) := by
  rw [List.getD_eq_getElem?_getD, List.getElem?_eq_getElem h]
  rfl
theorem cast4 {p0 p1 p2 p3 i : Nat} (h : i < 4) : ([(p0 : Int), p1, p2, p3])[i]? = some (([p0, p1, p2, p3].getD i 0 : Nat) : Int) := by
  match i, h with
  | 0, _ => rfl
  | 1, _ => rfl
  | 2, _ => rfl
  | 3, _ => rfl
theorem lt4 {p0 p1 p2 p3 i : Nat} (h : i < 4) (b : p0 < 16 ∧ p1 < 16 ∧ p2 < 16 ∧ p3 < 16) : [p0, p1, p2, p3].getD i 0 < 16 := by
  match i, h with
  | 0, _ => exact b.1
  | 1, _ => exact b.2.1
  | 2, _ => exact b.2.2.1
  | 3, _ => exact b.2.2.2
end Go.Proofs.Ytebknlhooijkcaa

/- The reference's Block: contract. Conditions: a key of 32 bytes, a word, a nonce of 12 bytes. -/
namespace Go.Proofs.Ytebknlhooijkcaa
set_option linter.unusedSimpArgs false
set_option linter.unusedVariables false
open Go.RowKit

theorem size51 : (Try.prog.info? 69).map (·.size) = some 16 := by kernel_rfl
end Go.Proofs.Ytebknlhooijkcaa

/- Xor: contracts. Conditions: a key of 32 bytes, a word, a nonce of 12 bytes, a slice that lies in memory. -/
namespace Go.Proofs.Ytebknlhooijkcaa
set_option linter.unusedSimpArgs false
set_option linter.unusedVariables false
open Go.RowKit

def x8 (p q : Int) : Int := bits .xor .u8 p q
/-- The byte of the stream at a place. -/
def ks (k : List Int) (c : Int) (n : List Int) (j : Nat) : Int := (bk64 k (sm c ((j / 64 : Nat) : Int)) n).getD (j % 64) 0
/-- Bytes, xored with the stream. -/
def xo (k : List Int) (c : Int) (n : List Int) (b : List Int) : List Int := (List.range b.length).map fun j => x8 (b.getD j 0) (ks k c n j)
theorem xo_length (k : List Int) (c : Int) (n b : List Int) : (xo k c n b).length = b.length := by simp [xo]
theorem xo_get {k : List Int} {c : Int} {n b : List Int} {j : Nat} (h : j < b.length) : (xo k c n b)[j]? = some (x8 (b.getD j 0) (ks k c n j)) := by simp [xo, h]
theorem ks_at (k : List Int) (c : Int) (n : List Int) (q i : Nat) (hi : i < 64) : ks k c n (64 * q + i) = (bk64 k (sm c q) n).getD i 0 := by
  unfold ks
  rw [show (64 * q + i) / 64 = q by omega, show (64 * q + i) % 64 = i by omega]
theorem st_set {k n : List Int} {c d : Int} (hk : k.length = 32) : (st k c n).set 12 d = st k d n := by
  have h1 := ws_length 8 k (by omega)
  unfold st
  simp only [List.set_cons_succ]
  rw [List.set_append_right _ _ (by omega), h1]
  rfl
theorem sm_succ (c : Int) (q : Nat) : IntKind.u32.wrap (sm c q + 1) = sm c ((q + 1 : Nat) : Int) := by
  rw [wrap32]
  unfold sm
  omega
theorem sm_zero {c : Int} (h : Wd c) : sm c ((0 : Nat) : Int) = c := by
  unfold Wd at h
  unfold sm
  omega
end Go.Proofs.Ytebknlhooijkcaa

/- The reference's Xor: contracts. Conditions: a key of 32 bytes, a word, a nonce of 12 bytes, a slice that lies in memory. -/
namespace Go.Proofs.Ytebknlhooijkcaa
set_option linter.unusedSimpArgs false
set_option linter.unusedVariables false
open Go.RowKit

theorem one_cell (y : Int) (j : Nat) (h : j < [y].length) : (#[Value.int .u8 y])[j]? = (bs [y])[j]? := by
  have e : j = 0 := by simp only [List.length_cons, List.length_nil] at h; omega
  subst e
  rfl
theorem fill1 {a : Act} {x : Operand} {y : Int} (hx : a.eval x = .int .u8 y) : Instr.fill (fun i => some (i * 1, 1)) ((Array.range (1 * 1)).map ((Value.int .u8 0).cells[· % (Value.int .u8 0).cells.size]!)) ((#[(0, x)] : Array (Nat × Operand)).map fun (i, x) => (i, a.eval x)).toList = some #[.int .u8 y] := by
  have e2 : ((#[(0, x)] : Array (Nat × Operand)).map fun (i, x) => (i, a.eval x)).toList = [(0, .int .u8 y)] := by simp [hx]
  rw [e2]
  exact Great.fill_whole (s := 1) (by decide) [.int .u8 y] ((Array.range (1 * 1)).map ((Value.int .u8 0).cells[· % (Value.int .u8 0).cells.size]!)) (by intro v hv; simp only [List.mem_cons, List.not_mem_nil, or_false] at hv; subst hv; rfl) (by simp)
theorem x8_nat (x y : Nat) (hx : x < 256) (hy : y < 256) : x8 x y = ((x ^^^ y : Nat) : Int) := u8_xor_nat x y hx hy
theorem x8_by {x y : Int} (hx : 0 ≤ x ∧ x ≤ 255) (hy : 0 ≤ y ∧ y ≤ 255) : 0 ≤ x8 x y ∧ x8 x y ≤ 255 := by
  obtain ⟨x, rfl⟩ := Int.eq_ofNat_of_zero_le hx.1
  obtain ⟨y, rfl⟩ := Int.eq_ofNat_of_zero_le hy.1
  rw [x8_nat x y (by omega) (by omega)]
  have h : x ^^^ y < 2 ^ 8 := Nat.xor_lt_two_pow (by omega) (by omega)
  omega
theorem x8_x8 {x y : Int} (hx : 0 ≤ x ∧ x ≤ 255) (hy : 0 ≤ y ∧ y ≤ 255) : x8 (x8 x y) y = x := by
  obtain ⟨x, rfl⟩ := Int.eq_ofNat_of_zero_le hx.1
  obtain ⟨y, rfl⟩ := Int.eq_ofNat_of_zero_le hy.1
  have h : x ^^^ y < 2 ^ 8 := Nat.xor_lt_two_pow (by omega) (by omega)
  rw [x8_nat x y (by omega) (by omega), x8_nat _ y (by omega) (by omega), Nat.xor_assoc, Nat.xor_self, Nat.xor_zero]
theorem xo_bys {k : List Int} {c : Int} {n b : List Int} (hb : Bys b) (hk : ∀ c, Bys (bk64 k c n)) : Bys (xo k c n b) := by
  intro y hy
  simp only [xo, List.mem_map, List.mem_range] at hy
  obtain ⟨j, hj, rfl⟩ := hy
  have h1 := hb (b.getD j 0) (List.mem_of_getElem? (getD_some hj))
  have h2 : 0 ≤ ks k c n j ∧ ks k c n j ≤ 255 := by
    unfold ks
    rw [List.getD_eq_getElem?_getD]
    rcases h : (bk64 k (sm c ((j / 64 : Nat) : Int)) n)[j % 64]? with _ | z
    · simp
    · exact hk _ z (List.mem_of_getElem? h)
  exact x8_by h1 h2
theorem Ow.lt {w : World} {v : Value} {l : List Int} (h : Ow w v l) : ∀ k, v.ownBlock = some k → k < w.heap.size := by
  intro k hk
  rcases h.1.2 with ⟨hv, _⟩ | ⟨g, cap, cur, hv, _, hh, _⟩
  · rw [hv] at hk; cases hk
  · rw [hv] at hk
    have hk : some g = some k := hk
    injection hk with hk
    have := heap_lt hh
    omega
theorem take_snoc {X : List Int} {j : Nat} {y : Int} (h : X[j]? = some y) : X.take j ++ [y] = X.take (j + 1) := by
  have hj : j < X.length := (List.getElem?_eq_some_iff.1 h).1
  have hy : X[j] = y := by rw [List.getElem?_eq_getElem hj] at h; injection h
  rw [List.take_succ_eq_append_getElem hj, hy]
end Go.Proofs.Ytebknlhooijkcaa

/- Xor once more, where the answer lies said by a name; what is xored twice. Conditions as there. -/
namespace Go.Proofs.Ytebknlhooijkcaa
set_option linter.unusedSimpArgs false
set_option linter.unusedVariables false
open Go.RowKit

theorem Ar.sl {w : World} {g m : Nat} {l : List Int} (h : Ar w g 5 .u8 l) (hb : Bys l) (hl : l.length = m) (hm : m ≤ maxLen) : Sl w g (.slice (some ⟨g, 0, none⟩) m m) l := by
  subst hl
  exact Sl.block hb h (fun j _ => by rw [vs_bs]; simp) (Nat.le_refl _) hm
theorem ks_by (k : List Int) (c : Int) (n : List Int) (j : Nat) : 0 ≤ ks k c n j ∧ ks k c n j ≤ 255 := by
  unfold ks
  rw [List.getD_eq_getElem?_getD]
  rcases h : (bk64 k (sm c ((j / 64 : Nat) : Int)) n)[j % 64]? with _ | z
  · simp
  · exact bk64_bys _ _ _ z (List.mem_of_getElem? h)
theorem xo_bys' {k : List Int} {c : Int} {n b : List Int} (hb : Bys b) : Bys (xo k c n b) := xo_bys hb (fun _ => bk64_bys _ _ _)
theorem xo_getD {k : List Int} {c : Int} {n b : List Int} {j : Nat} (h : j < b.length) : (xo k c n b).getD j 0 = x8 (b.getD j 0) (ks k c n j) := by
  rw [List.getD_eq_getElem?_getD, xo_get h]
  rfl
theorem xo_xo {k : List Int} {c : Int} {n b : List Int} (hb : Bys b) : xo k c n (xo k c n b) = b := by
  apply List.ext_getElem?
  intro j
  by_cases h : j < b.length
  · rw [xo_get (by rw [xo_length]; exact h), xo_getD h, x8_x8 (hb _ (List.mem_of_getElem? (getD_some h))) (ks_by k c n j), getD_some h]
  · rw [List.getElem?_eq_none (by rw [xo_length, xo_length]; omega), List.getElem?_eq_none (by omega)]
section
variable {ops : Array Oper} {rest : List Oper} {op : Oper} {a : Act} {w : World} {Q : Exit → Act → World → Prop}
theorem wpList_mid (hgd : op.guard = none) (ty : TypeId) (x : Operand) (ho : op.op = .load ty x) (q i : Nat) (hx : a.eval x = .pointer (some ⟨q, i, none⟩)) (k : IntKind) (l : List Int) (d : TypeDesc) (hg : w.rangeAt q i (vs k l).toList)
    (hd : Try.prog.underlying ty = some d) (hr : d.isRow = true) (hl : (Try.prog.info? ty).map (·.size) = some l.length) (h : wpList Try.prog ops Q rest (a.put op.dst (.agg (vs k l))) w) : wpList Try.prog ops Q (op :: rest) a w :=
  wpList_load_mid hgd ty x ho q i hx (vs k l).toList d hg hd hr (by rw [hl]; simp [vs]) (by simpa using h)
end
end Go.Proofs.Ytebknlhooijkcaa

/- The reference's Bring: a number brought below another; noughts made. Condition: at least 1. -/
namespace Go.Proofs.Ytebknlhooijkcaa
set_option linter.unusedSimpArgs false
set_option linter.unusedVariables false
open Go.RowKit


set_option maxHeartbeats 2000000 in
theorem bring_ex (n : Int) (k : Nat) (w : World) (h1 : -9223372036854775808 ≤ n) (h2 : n ≤ 9223372036854775807) (hk : 1 ≤ k) (hk2 : k ≤ 140737488355328) :
    Calls Try.prog 24 #[.int .i64 n, .int .i64 k] w fun e w' => ∃ r : Nat, r < k ∧ e = .returned (.int .i64 r) ∧ w = w' := by
  have hd : decide ((k : Int) ≤ 0) = false := decide_eq_false (by omega)
  have hk0 : ¬ ((k : Int) = 0) := by omega
  have hb1 : -(k : Int) < n.tmod k := by
    rcases Int.le_total 0 n with h | h
    · rw [Int.tmod_eq_emod_of_nonneg h]; have := Int.emod_nonneg n hk0; omega
    · have e : n.tmod k = -((-n).tmod k) := by rw [← Int.neg_tmod, Int.neg_neg]
      rw [e, Int.tmod_eq_emod_of_nonneg (by omega)]
      have := Int.emod_lt_of_pos (-n) (show (0 : Int) < k by omega)
      omega
  have hb2 : n.tmod k < k := by
    rcases Int.le_total 0 n with h | h
    · rw [Int.tmod_eq_emod_of_nonneg h]; exact Int.emod_lt_of_pos n (by omega)
    · have e : n.tmod k = -((-n).tmod k) := by rw [← Int.neg_tmod, Int.neg_neg]
      rw [e, Int.tmod_eq_emod_of_nonneg (by omega)]
      have := Int.emod_nonneg (-n) hk0
      omega
  obtain ⟨t, ht⟩ : ∃ t, n.tmod (k : Int) = t := ⟨_, rfl⟩
  rw [ht] at hb1 hb2
  have v1 : IntKind.i64.wrap t = t := by rw [IntKind.wrap_i64]; omega
  have v2 : IntKind.i64.wrap (t + k) = t + k := by rw [IntKind.wrap_i64]; omega
  by_cases h0 : t < 0
  · have hd2 : decide (t < 0) = true := decide_eq_true h0
    go_enter Try.func24, Try.ntmps24
    go_wp2
    go_ret
    exact ⟨(t + k).toNat, by omega, by show _ = Ending.returned (.int .i64 _); rw [Int.toNat_of_nonneg (by omega)]; rfl, rfl⟩
  · have hd2 : decide (t < 0) = false := decide_eq_false h0
    go_enter Try.func24, Try.ntmps24
    go_wp2
    go_ret
    exact ⟨t.toNat, by omega, by show _ = Ending.returned (.int .i64 _); rw [Int.toNat_of_nonneg (by omega)]; rfl, rfl⟩
theorem run_mk2 (n : Nat) (hn : n ≤ 140737488355328) (W : World) : (Instr.makeSlice 22 (.int .i64 (n : Int)) (.int .i64 (n : Int))).run Try.prog W = .ok (.slice (some ⟨W.heap.size, 0, none⟩) n n) (W.alloc (.cells (vs .u8 (List.replicate n 0)) 5)) := by
  rw [run_mk n hn W]
  simp [vs]
theorem noughts (m : Nat) : Bys (List.replicate m 0) := by
  intro b hb
  rw [List.eq_of_mem_replicate hb]
  omega
theorem xo_noughts {k : List Int} {c : Int} {n : List Int} {m i : Nat} (h : i < m) : (xo k c n (List.replicate m 0))[i]? = some (ks k c n i) := by
  rw [xo_get (by simpa using h)]
  have e : (List.replicate m (0 : Int)).getD i 0 = 0 := by simp [List.getD_eq_getElem?_getD, List.getElem?_replicate]; split <;> rfl
  have := ks_by k c n i
  obtain ⟨x, hx⟩ := Int.eq_ofNat_of_zero_le this.1
  rw [e, hx]
  have h2 := x8_nat 0 x (by omega) (by rw [hx] at this; omega)
  rw [Nat.zero_xor] at h2
  exact congrArg some h2
theorem ks_shift (k : List Int) (c : Int) (n : List Int) (r j : Nat) : ks k (sm c r) n j = ks k c n (64 * r + j) := by
  unfold ks
  rw [show (64 * r + j) % 64 = j % 64 by omega, show (64 * r + j) / 64 = r + j / 64 by omega]
  congr 2
  unfold sm
  omega
theorem xo_drop (k : List Int) (c : Int) (n b : List Int) (r : Nat) : xo k (sm c r) n (b.drop (64 * r)) = (xo k c n b).drop (64 * r) := by
  apply List.ext_getElem?
  intro j
  rw [List.getElem?_drop]
  by_cases h : 64 * r + j < b.length
  · rw [xo_get (by rw [List.length_drop]; omega), xo_get h, ks_shift]
    simp [List.getD_eq_getElem?_getD, List.getElem?_drop]
  · rw [List.getElem?_eq_none (by rw [xo_length, List.length_drop]; omega), List.getElem?_eq_none (by rw [xo_length]; omega)]
end Go.Proofs.Ytebknlhooijkcaa

/- What ChachaKnown's examples come to: reckoned. No condition. -/
namespace Go.Proofs.Ytebknlhooijkcaa
set_option linter.unusedSimpArgs false
set_option linter.unusedVariables false
set_option linter.unusedVariables false
open Go.ChangeShapes Go.WideShapes Go.ChangeAt Go.RowKit

def keyL : List Int := [0, 1, 2, 3, 4, 5, 6, 7, 8, 9, 10, 11, 12, 13, 14, 15, 16, 17, 18, 19, 20, 21, 22, 23, 24, 25, 26, 27, 28, 29, 30, 31]
def n1L : List Int := [0, 0, 0, 9, 0, 0, 0, 74, 0, 0, 0, 0]
def n2L : List Int := [0, 0, 0, 0, 0, 0, 0, 74, 0, 0, 0, 0]
def txL : List Int := [76, 97, 100, 105, 101, 115, 32, 97, 110, 100, 32, 71, 101, 110, 116, 108, 101, 109, 101, 110, 32, 111, 102, 32, 116, 104, 101, 32, 99, 108, 97, 115, 115, 32, 111, 102, 32, 39, 57, 57, 58, 32, 73, 102, 32, 73, 32, 99, 111, 117, 108, 100, 32, 111, 102, 102, 101, 114, 32, 121, 111, 117, 32, 111, 110, 108, 121, 32, 111, 110, 101, 32, 116, 105, 112, 32, 102, 111, 114, 32, 116, 104, 101, 32, 102, 117, 116, 117, 114, 101, 44, 32, 115, 117, 110, 115, 99, 114, 101, 101, 110, 32, 119, 111, 117, 108, 100, 32, 98, 101, 32, 105, 116, 46]
set_option maxRecDepth 100000 in
theorem kn16 : (bk64 keyL 1 n1L).take 16 = [16, 241, 231, 228, 209, 59, 89, 21, 80, 15, 221, 31, 163, 32, 113, 196] := by decide +kernel
set_option maxRecDepth 100000 in
theorem kn4 : (bk64 keyL 1 n1L).drop 60 = [162, 80, 60, 78] := by decide +kernel
set_option maxRecDepth 100000 in
theorem kn8 : (xo keyL 1 n2L txL).take 8 = [110, 46, 53, 154, 37, 104, 249, 128] := by
  have e : (xo keyL 1 n2L txL).take 8 = (List.range 8).map fun j => x8 (txL.getD j 0) (ks keyL 1 n2L j) := by
    rw [xo, ← List.map_take]
    rfl
  rw [e]
  decide +kernel
theorem xo_block {k : List Int} {c : Int} {n : List Int} (hk : k.length = 32) (bk : Bys k) (hc : Wd c) (hn : n.length = 12) (bn : Bys n) : xo k c n (List.replicate 64 0) = bk64 k c n := by
  have hl := bk64_length hk bk hc hn bn
  apply List.ext_getElem?
  intro j
  by_cases h : j < 64
  · rw [xo_noughts h, getD_some (l := bk64 k c n) (by omega)]
    unfold ks
    rw [show j / 64 = 0 by omega, show j % 64 = j by omega, sm_zero hc]
  · rw [List.getElem?_eq_none (by rw [xo_length]; simp; omega), List.getElem?_eq_none (by omega)]
end Go.Proofs.Ytebknlhooijkcaa

/- Bytes of a string. Laws of the model's conversion; no condition but the length. -/
namespace Go.Proofs.Ytebknlhooijkcaa
set_option linter.unusedSimpArgs false
set_option linter.unusedVariables false
set_option linter.unusedVariables false
open Go.ChangeShapes Go.WideShapes Go.ChangeAt Go.RowKit

def sb (s : ByteArray) : List Int := s.data.toList.map fun b => (b.toNat : Int)
theorem sb_length (s : ByteArray) : (sb s).length = s.size := by
  unfold sb
  rw [List.length_map, Array.length_toList]
  rfl
theorem bw_fr (w : World) (s : ByteArray) : Fr (fun _ => False) w (Lib.bytesWorld w 5 s) := ⟨rfl, rfl, rfl, by rw [Lib.bytesWorld_size]; omega, fun i hi _ => Lib.bytesWorld_at_old w 5 s i hi⟩
theorem bw_sl (w : World) (s : ByteArray) (h : s.size ≤ maxLen) : Sl (Lib.bytesWorld w 5 s) w.heap.size (.slice (some ⟨w.heap.size, 0, none⟩) s.size (grownCap w s.size 0 5)) (sb s) := by
  refine ⟨?_, _, _, by rw [sb_length], by rw [sb_length]; exact grownCap_ge _ _ _ _, grownCap_le_maxLen _ _ _ _ h, fun _ => ⟨0, rfl, by rw [Lib.bytesWorld_size]; omega, fun j b hj => ?_⟩⟩
  · intro b hb
    simp only [sb, List.mem_map] at hb
    obtain ⟨x, _, rfl⟩ := hb
    have := x.toNat_lt
    omega
  · have hjs : j < s.size := by
      have := (List.getElem?_eq_some_iff.1 hj).1
      rwa [sb_length] at this
    rw [Nat.zero_add, Lib.bytesWorld_cell w 5 s j hjs]
    simp only [sb, List.getElem?_map] at hj
    obtain ⟨x, hx, rfl⟩ := Option.map_eq_some_iff.1 hj
    rw [List.getD_eq_getElem?_getD, hx]
    rfl
theorem wpList_str {ops : Array Oper} {rest : List Oper} {o : Oper} {a : Act} {w : World} {Q : Exit → Act → World → Prop} (hg : o.guard = none) (x : Operand) (s : ByteArray) (ho : o.op = .convert 9 22 x) (hx : a.eval x = .string s) (m : Nat) (l : List Int) (hm : s.size = m) (hl : sb s = l) (hmx : m ≤ maxLen)
    (h : ∀ cp W', Sl W' w.heap.size (.slice (some ⟨w.heap.size, 0, none⟩) m cp) l → Fr (fun _ => False) w W' → wpList Try.prog ops Q rest (a.put o.dst (.slice (some ⟨w.heap.size, 0, none⟩) m cp)) W') : wpList Try.prog ops Q (o :: rest) a w := by
  subst hm hl
  refine wpList_plain hg fun K hK => wp_value (.slice (some ⟨w.heap.size, 0, none⟩) s.size (grownCap w s.size 0 5)) (Lib.bytesWorld w 5 s) ?_ (hK _ _ (h _ _ (bw_sl w s hmx) (bw_fr w s)))
  unfold execOp
  simp only [ho, hx, Sem.run_bind, Lib.run_convert_string_bytes w 9 22 5 s Try.underlying9 Try.underlying22 Try.underlying5, Result.andThen_ok, Sem.run_pure]
theorem ms_run {n : Nat} (hn : n ≤ 140737488355328) {o : Oper} {a : Act} {w : World} {x y : Operand} (ho : o.op = .makeSlice 22 x y) (hx : a.eval x = .int .i64 n) (hy : a.eval y = .int .i64 n) :
    (execOp a.eval o).run Try.prog w = .ok (.value (.slice (some ⟨w.heap.size, 0, none⟩) n n)) (w.alloc (.cells (vs .u8 (List.replicate n 0)) 5)) := by
  unfold execOp
  simp only [ho, hx, hy, Sem.run_bind, run_mk2 n hn w, Result.andThen_ok, Sem.run_pure]
end Go.Proofs.Ytebknlhooijkcaa
