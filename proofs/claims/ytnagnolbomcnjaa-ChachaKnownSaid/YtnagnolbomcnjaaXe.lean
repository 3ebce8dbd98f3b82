/- Xor once more, where the answer lies said by a name; what is xored twice. Conditions as there. -/
import Derived.Test.YtnagnolbomcnjaaRx
import Derived.Test.YtnagnolbomcnjaaOp
namespace Go.Proofs.Ytnagnolbomcnjaa
set_option linter.unusedSimpArgs false
set_option linter.unusedVariables false
open Go.RowKit

theorem Ar.sl {w : World} {g m : Nat} {l : List Int} (h : Ar w g 5 .u8 l) (hb : Bys l) (hl : l.length = m) (hm : m ≤ maxLen) : Sl w g (.slice (some ⟨g, 0, none⟩) m m) l := by
  subst hl
  exact Sl.block hb h (fun j _ => by rw [vs_bs]; simp) (Nat.le_refl _) hm
theorem ks_by (k : List Int) (c : Int) (n : List Int) (j : Nat) : 0 ≤ ks k c n j ∧ ks k c n j ≤ 255 := by
  unfold ks
  rw [List.getD_eq_getElem?_getD]
  rcases h : (bk64 k (sm c ((j / 64 : Nat) : Int)) n)[j % 64]? with _ | z
  · simp
  · exact bk64_bys _ _ _ z (List.mem_of_getElem? h)
theorem xo_bys' {k : List Int} {c : Int} {n b : List Int} (hb : Bys b) : Bys (xo k c n b) := xo_bys hb (fun _ => bk64_bys _ _ _)
theorem xo_getD {k : List Int} {c : Int} {n b : List Int} {j : Nat} (h : j < b.length) : (xo k c n b).getD j 0 = x8 (b.getD j 0) (ks k c n j) := by
  rw [List.getD_eq_getElem?_getD, xo_get h]
  rfl
theorem xo_xo {k : List Int} {c : Int} {n b : List Int} (hb : Bys b) : xo k c n (xo k c n b) = b := by
  apply List.ext_getElem?
  intro j
  by_cases h : j < b.length
  · rw [xo_get (by rw [xo_length]; exact h), xo_getD h, x8_x8 (hb _ (List.mem_of_getElem? (getD_some h))) (ks_by k c n j), getD_some h]
  · rw [List.getElem?_eq_none (by rw [xo_length, xo_length]; omega), List.getElem?_eq_none (by omega)]
/-- Xor, whose bytes lie within a memory's reach. -/
theorem xor_ex (k : List Int) (c : Int) (n : List Int) (gb : Nat) (A : Option Addr) (m cap : Nat) (l : List Int) (w : World) (hk : k.length = 32) (bk : Bys k) (hc : Wd c) (hn : n.length = 12) (bn : Bys n)
    (hs : Sl w gb (.slice A m cap) l) (hm : m ≤ 140737488355328) (hlim : (m : Int) ≤ (4294967296 - c) * 64) (hgb : 0 < m → gb < w.heap.size) :
    Calls Try.prog 19 #[.agg (vs .u8 k), .int .u32 c, .agg (vs .u8 n), .slice A m cap] w fun e w' => ∃ g, w.heap.size ≤ g ∧ e = .returned (.tuple #[.slice (some ⟨g, 0, none⟩) m m, .int .i64 0]) ∧ Ar w' g 5 .u8 (xo k c n l) ∧ Fr (fun _ => False) w w' := by
  refine (xor_yes k c n gb A m cap l w hk bk hc hn bn hs hm hlim hgb).mono ?_
  rintro e w' ⟨h1, h2, h3⟩
  exact ⟨_, by omega, h1, h2, h3⟩
section
variable {ops : Array Oper} {rest : List Oper} {op : Oper} {a : Act} {w : World} {Q : Exit → Act → World → Prop}
theorem wpList_mid (hgd : op.guard = none) (ty : TypeId) (x : Operand) (ho : op.op = .load ty x) (q i : Nat) (hx : a.eval x = .pointer (some ⟨q, i, none⟩)) (k : IntKind) (l : List Int) (d : TypeDesc) (hg : w.rangeAt q i (vs k l).toList)
    (hd : Try.prog.underlying ty = some d) (hr : d.isRow = true) (hl : (Try.prog.info? ty).map (·.size) = some l.length) (h : wpList Try.prog ops Q rest (a.put op.dst (.agg (vs k l))) w) : wpList Try.prog ops Q (op :: rest) a w :=
  wpList_load_mid hgd ty x ho q i hx (vs k l).toList d hg hd hr (by rw [hl]; simp [vs]) (by simpa using h)
end
end Go.Proofs.Ytnagnolbomcnjaa
