/- Xor once more, where the answer lies said by a name; what is xored twice. Conditions as there. -/
import Derived.Test.YtbafppdmlhogbaaRx
import Derived.Test.YtbafppdmlhogbaaQ
import Derived.Lib.ConvBytes
import Derived.Laws.AppendOwn
namespace Go.Proofs.Ytbafppdmlhogbaa
set_option linter.unusedSimpArgs false
set_option linter.unusedVariables false
open Go.RowKit

theorem Ar.sl {w : World} {g m : Nat} {l : List Int} (h : Ar w g 5 .u8 l) (hb : Bys l) (hl : l.length = m) (hm : m ≤ maxLen) : Sl w g (.slice (some ⟨g, 0, none⟩) m m) l := by
  subst hl
  exact Sl.block hb h (fun j _ => by rw [vs_bs]; simp) (Nat.le_refl _) hm
theorem ks_by (k : List Int) (c : Int) (n : List Int) (j : Nat) : 0 ≤ ks k c n j ∧ ks k c n j ≤ 255 := by
  unfold ks
  rw [List.getD_eq_getElem?_getD]
  rcases h : (bk64 k (sm c ((j / 64 : Nat) : Int)) n)[j % 64]? with _ | z
  · simp
  · exact bk64_bys _ _ _ z (List.mem_of_getElem? h)
theorem xo_bys' {k : List Int} {c : Int} {n b : List Int} (hb : Bys b) : Bys (xo k c n b) := xo_bys hb (fun _ => bk64_bys _ _ _)
theorem xo_getD {k : List Int} {c : Int} {n b : List Int} {j : Nat} (h : j < b.length) : (xo k c n b).getD j 0 = x8 (b.getD j 0) (ks k c n j) := by
  rw [List.getD_eq_getElem?_getD, xo_get h]
  rfl
theorem xo_xo {k : List Int} {c : Int} {n b : List Int} (hb : Bys b) : xo k c n (xo k c n b) = b := by
  apply List.ext_getElem?
  intro j
  by_cases h : j < b.length
  · rw [xo_get (by rw [xo_length]; exact h), xo_getD h, x8_x8 (hb _ (List.mem_of_getElem? (getD_some h))) (ks_by k c n j), getD_some h]
  · rw [List.getElem?_eq_none (by rw [xo_length, xo_length]; omega), List.getElem?_eq_none (by omega)]
/-- Xor, whose bytes lie within a memory's reach. -/
theorem xor_ex (k : List Int) (c : Int) (n : List Int) (gb : Nat) (A : Option Addr) (m cap : Nat) (l : List Int) (w : World) (hk : k.length = 32) (bk : Bys k) (hc : Wd c) (hn : n.length = 12) (bn : Bys n)
    (hs : Sl w gb (.slice A m cap) l) (hm : m ≤ 140737488355328) (hlim : (m : Int) ≤ (4294967296 - c) * 64) (hgb : 0 < m → gb < w.heap.size) :
    Calls Try.prog 22 #[.agg (vs .u8 k), .int .u32 c, .agg (vs .u8 n), .slice A m cap] w fun e w' => ∃ g, w.heap.size ≤ g ∧ e = .returned (.tuple #[.slice (some ⟨g, 0, none⟩) m m, .int .i64 0]) ∧ Ar w' g 5 .u8 (xo k c n l) ∧ Fr (fun _ => False) w w' := by
  refine (xor_yes k c n gb A m cap l w hk bk hc hn bn hs hm hlim hgb).mono ?_
  rintro e w' ⟨h1, h2, h3⟩
  exact ⟨_, by omega, h1, h2, h3⟩
section
variable {ops : Array Oper} {rest : List Oper} {op : Oper} {a : Act} {w : World} {Q : Exit → Act → World → Prop}
theorem wpList_mid (hgd : op.guard = none) (ty : TypeId) (x : Operand) (ho : op.op = .load ty x) (q i : Nat) (hx : a.eval x = .pointer (some ⟨q, i, none⟩)) (k : IntKind) (l : List Int) (d : TypeDesc) (hg : w.rangeAt q i (vs k l).toList)
    (hd : Try.prog.underlying ty = some d) (hr : d.isRow = true) (hl : (Try.prog.info? ty).map (·.size) = some l.length) (h : wpList Try.prog ops Q rest (a.put op.dst (.agg (vs k l))) w) : wpList Try.prog ops Q (op :: rest) a w :=
  wpList_load_mid hgd ty x ho q i hx (vs k l).toList d hg hd hr (by rw [hl]; simp [vs]) (by simpa using h)
end
end Go.Proofs.Ytbafppdmlhogbaa

/- The reference's Bring: a number brought below another; noughts made. Condition: at least 1. -/
namespace Go.Proofs.Ytbafppdmlhogbaa
set_option linter.unusedSimpArgs false
set_option linter.unusedVariables false
open Go.RowKit


theorem run_mk2 (n : Nat) (hn : n ≤ 140737488355328) (W : World) : (Instr.makeSlice 29 (.int .i64 (n : Int)) (.int .i64 (n : Int))).run Try.prog W = .ok (.slice (some ⟨W.heap.size, 0, none⟩) n n) (W.alloc (.cells (vs .u8 (List.replicate n 0)) 5)) := by
  rw [run_mk n hn W]
  simp [vs]
theorem noughts (m : Nat) : Bys (List.replicate m 0) := by
  intro b hb
  rw [List.eq_of_mem_replicate hb]
  omega
theorem xo_noughts {k : List Int} {c : Int} {n : List Int} {m i : Nat} (h : i < m) : (xo k c n (List.replicate m 0))[i]? = some (ks k c n i) := by
  rw [xo_get (by simpa using h)]
  have e : (List.replicate m (0 : Int)).getD i 0 = 0 := by simp [List.getD_eq_getElem?_getD, List.getElem?_replicate]; split <;> rfl
  have := ks_by k c n i
  obtain ⟨x, hx⟩ := Int.eq_ofNat_of_zero_le this.1
  rw [e, hx]
  have h2 := x8_nat 0 x (by omega) (by rw [hx] at this; omega)
  rw [Nat.zero_xor] at h2
  exact congrArg some h2
theorem ks_shift (k : List Int) (c : Int) (n : List Int) (r j : Nat) : ks k (sm c r) n j = ks k c n (64 * r + j) := by
  unfold ks
  rw [show (64 * r + j) % 64 = j % 64 by omega, show (64 * r + j) / 64 = r + j / 64 by omega]
  congr 2
  unfold sm
  omega
theorem xo_drop (k : List Int) (c : Int) (n b : List Int) (r : Nat) : xo k (sm c r) n (b.drop (64 * r)) = (xo k c n b).drop (64 * r) := by
  apply List.ext_getElem?
  intro j
  rw [List.getElem?_drop]
  by_cases h : 64 * r + j < b.length
  · rw [xo_get (by rw [List.length_drop]; omega), xo_get h, ks_shift]
    simp [List.getD_eq_getElem?_getD, List.getElem?_drop]
  · rw [List.getElem?_eq_none (by rw [xo_length, List.length_drop]; omega), List.getElem?_eq_none (by rw [xo_length]; omega)]
end Go.Proofs.Ytbafppdmlhogbaa

/- What ChachaKnown's examples come to: reckoned. No condition. -/
namespace Go.Proofs.Ytbafppdmlhogbaa
set_option linter.unusedSimpArgs false
set_option linter.unusedVariables false
set_option linter.unusedVariables false
open Go.ChangeShapes Go.WideShapes Go.ChangeAt Go.RowKit

def keyL : List Int := [0, 1, 2, 3, 4, 5, 6, 7, 8, 9, 10, 11, 12, 13, 14, 15, 16, 17, 18, 19, 20, 21, 22, 23, 24, 25, 26, 27, 28, 29, 30, 31]
def n1L : List Int := [0, 0, 0, 9, 0, 0, 0, 74, 0, 0, 0, 0]
def n2L : List Int := [0, 0, 0, 0, 0, 0, 0, 74, 0, 0, 0, 0]
def txL : List Int := [76, 97, 100, 105, 101, 115, 32, 97, 110, 100, 32, 71, 101, 110, 116, 108, 101, 109, 101, 110, 32, 111, 102, 32, 116, 104, 101, 32, 99, 108, 97, 115, 115, 32, 111, 102, 32, 39, 57, 57, 58, 32, 73, 102, 32, 73, 32, 99, 111, 117, 108, 100, 32, 111, 102, 102, 101, 114, 32, 121, 111, 117, 32, 111, 110, 108, 121, 32, 111, 110, 101, 32, 116, 105, 112, 32, 102, 111, 114, 32, 116, 104, 101, 32, 102, 117, 116, 117, 114, 101, 44, 32, 115, 117, 110, 115, 99, 114, 101, 101, 110, 32, 119, 111, 117, 108, 100, 32, 98, 101, 32, 105, 116, 46]
set_option maxRecDepth 100000 in
theorem kn16 : (bk64 keyL 1 n1L).take 16 = [16, 241, 231, 228, 209, 59, 89, 21, 80, 15, 221, 31, 163, 32, 113, 196] := by decide +kernel
set_option maxRecDepth 100000 in
theorem kn4 : (bk64 keyL 1 n1L).drop 60 = [162, 80, 60, 78] := by decide +kernel
set_option maxRecDepth 100000 in
theorem kn8 : (xo keyL 1 n2L txL).take 8 = [110, 46, 53, 154, 37, 104, 249, 128] := by
  have e : (xo keyL 1 n2L txL).take 8 = (List.range 8).map fun j => x8 (txL.getD j 0) (ks keyL 1 n2L j) := by
    rw [xo, ← List.map_take]
    rfl
  rw [e]
  decide +kernel
theorem xo_block {k : List Int} {c : Int} {n : List Int} (hk : k.length = 32) (bk : Bys k) (hc : Wd c) (hn : n.length = 12) (bn : Bys n) : xo k c n (List.replicate 64 0) = bk64 k c n := by
  have hl := bk64_length hk bk hc hn bn
  apply List.ext_getElem?
  intro j
  by_cases h : j < 64
  · rw [xo_noughts h, getD_some (l := bk64 k c n) (by omega)]
    unfold ks
    rw [show j / 64 = 0 by omega, show j % 64 = j by omega, sm_zero hc]
  · rw [List.getElem?_eq_none (by rw [xo_length]; simp; omega), List.getElem?_eq_none (by omega)]
end Go.Proofs.Ytbafppdmlhogbaa

/- Bytes of a string. Laws of the model's conversion; no condition but the length. -/
namespace Go.Proofs.Ytbafppdmlhogbaa
set_option linter.unusedSimpArgs false
set_option linter.unusedVariables false
set_option linter.unusedVariables false
open Go.ChangeShapes Go.WideShapes Go.ChangeAt Go.RowKit

def sb (s : ByteArray) : List Int := s.data.toList.map fun b => (b.toNat : Int)
theorem sb_length (s : ByteArray) : (sb s).length = s.size := by
  unfold sb
  rw [List.length_map, Array.length_toList]
  rfl
theorem bw_fr (w : World) (s : ByteArray) : Fr (fun _ => False) w (Lib.bytesWorld w 5 s) := ⟨rfl, rfl, rfl, by rw [Lib.bytesWorld_size]; omega, fun i hi _ => Lib.bytesWorld_at_old w 5 s i hi⟩
theorem bw_sl (w : World) (s : ByteArray) (h : s.size ≤ maxLen) : Sl (Lib.bytesWorld w 5 s) w.heap.size (.slice (some ⟨w.heap.size, 0, none⟩) s.size (grownCap w s.size 0 5)) (sb s) := by
  refine ⟨?_, _, _, by rw [sb_length], by rw [sb_length]; exact grownCap_ge _ _ _ _, grownCap_le_maxLen _ _ _ _ h, fun _ => ⟨0, rfl, by rw [Lib.bytesWorld_size]; omega, fun j b hj => ?_⟩⟩
  · intro b hb
    simp only [sb, List.mem_map] at hb
    obtain ⟨x, _, rfl⟩ := hb
    have := x.toNat_lt
    omega
  · have hjs : j < s.size := by
      have := (List.getElem?_eq_some_iff.1 hj).1
      rwa [sb_length] at this
    rw [Nat.zero_add, Lib.bytesWorld_cell w 5 s j hjs]
    simp only [sb, List.getElem?_map] at hj
    obtain ⟨x, hx, rfl⟩ := Option.map_eq_some_iff.1 hj
    rw [List.getD_eq_getElem?_getD, hx]
    rfl
theorem wpList_str {ops : Array Oper} {rest : List Oper} {o : Oper} {a : Act} {w : World} {Q : Exit → Act → World → Prop} (hg : o.guard = none) (x : Operand) (s : ByteArray) (ho : o.op = .convert 9 29 x) (hx : a.eval x = .string s) (m : Nat) (l : List Int) (hm : s.size = m) (hl : sb s = l) (hmx : m ≤ maxLen)
    (h : ∀ cp W', Sl W' w.heap.size (.slice (some ⟨w.heap.size, 0, none⟩) m cp) l → Fr (fun _ => False) w W' → wpList Try.prog ops Q rest (a.put o.dst (.slice (some ⟨w.heap.size, 0, none⟩) m cp)) W') : wpList Try.prog ops Q (o :: rest) a w := by
  subst hm hl
  refine wpList_plain hg fun K hK => wp_value (.slice (some ⟨w.heap.size, 0, none⟩) s.size (grownCap w s.size 0 5)) (Lib.bytesWorld w 5 s) ?_ (hK _ _ (h _ _ (bw_sl w s hmx) (bw_fr w s)))
  unfold execOp
  simp only [ho, hx, Sem.run_bind, Lib.run_convert_string_bytes w 9 29 5 s Try.underlying9 Try.underlying29 Try.underlying5, Result.andThen_ok, Sem.run_pure]
theorem ms_run {n : Nat} (hn : n ≤ 140737488355328) {o : Oper} {a : Act} {w : World} {x y : Operand} (ho : o.op = .makeSlice 29 x y) (hx : a.eval x = .int .i64 n) (hy : a.eval y = .int .i64 n) :
    (execOp a.eval o).run Try.prog w = .ok (.value (.slice (some ⟨w.heap.size, 0, none⟩) n n)) (w.alloc (.cells (vs .u8 (List.replicate n 0)) 5)) := by
  unfold execOp
  simp only [ho, hx, hy, Sem.run_bind, run_mk2 n hn w, Result.andThen_ok, Sem.run_pure]
end Go.Proofs.Ytbafppdmlhogbaa
