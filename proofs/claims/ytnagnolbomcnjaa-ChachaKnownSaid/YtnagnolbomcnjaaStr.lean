/- Bytes of a string. Laws of the model's conversion; no condition but the length. -/
import Derived.Test.YtnagnolbomcnjaaKn
import Derived.Lib.ConvBytes
import Derived.Laws.AppendOwn
namespace Go.Proofs.Ytnagnolbomcnjaa
set_option linter.unusedSimpArgs false
set_option linter.unusedVariables false
set_option linter.unusedVariables false
open Go.ChangeShapes Go.WideShapes Go.ChangeAt Go.RowKit

def sb (s : ByteArray) : List Int := s.data.toList.map fun b => (b.toNat : Int)
theorem sb_length (s : ByteArray) : (sb s).length = s.size := by
  unfold sb
  rw [List.length_map, Array.length_toList]
  rfl
theorem bw_fr (w : World) (s : ByteArray) : Fr (fun _ => False) w (Lib.bytesWorld w 5 s) := ⟨rfl, rfl, rfl, by rw [Lib.bytesWorld_size]; omega, fun i hi _ => Lib.bytesWorld_at_old w 5 s i hi⟩
theorem bw_sl (w : World) (s : ByteArray) (h : s.size ≤ maxLen) : Sl (Lib.bytesWorld w 5 s) w.heap.size (.slice (some ⟨w.heap.size, 0, none⟩) s.size (grownCap w s.size 0 5)) (sb s) := by
  refine ⟨?_, _, _, by rw [sb_length], by rw [sb_length]; exact grownCap_ge _ _ _ _, grownCap_le_maxLen _ _ _ _ h, fun _ => ⟨0, rfl, by rw [Lib.bytesWorld_size]; omega, fun j b hj => ?_⟩⟩
  · intro b hb
    simp only [sb, List.mem_map] at hb
    obtain ⟨x, _, rfl⟩ := hb
    have := x.toNat_lt
    omega
  · have hjs : j < s.size := by
      have := (List.getElem?_eq_some_iff.1 hj).1
      rwa [sb_length] at this
    rw [Nat.zero_add, Lib.bytesWorld_cell w 5 s j hjs]
    simp only [sb, List.getElem?_map] at hj
    obtain ⟨x, hx, rfl⟩ := Option.map_eq_some_iff.1 hj
    rw [List.getD_eq_getElem?_getD, hx]
    rfl
theorem wpList_str {ops : Array Oper} {rest : List Oper} {o : Oper} {a : Act} {w : World} {Q : Exit → Act → World → Prop} (hg : o.guard = none) (x : Operand) (s : ByteArray) (ho : o.op = .convert 9 35 x) (hx : a.eval x = .string s) (m : Nat) (l : List Int) (hm : s.size = m) (hl : sb s = l) (hmx : m ≤ maxLen)
    (h : ∀ cp W', Sl W' w.heap.size (.slice (some ⟨w.heap.size, 0, none⟩) m cp) l → Fr (fun _ => False) w W' → wpList Try.prog ops Q rest (a.put o.dst (.slice (some ⟨w.heap.size, 0, none⟩) m cp)) W') : wpList Try.prog ops Q (o :: rest) a w := by
  subst hm hl
  refine wpList_plain hg fun K hK => wp_value (.slice (some ⟨w.heap.size, 0, none⟩) s.size (grownCap w s.size 0 5)) (Lib.bytesWorld w 5 s) ?_ (hK _ _ (h _ _ (bw_sl w s hmx) (bw_fr w s)))
  unfold execOp
  simp only [ho, hx, Sem.run_bind, Lib.run_convert_string_bytes w 9 35 5 s Try.underlying9 Try.underlying35 Try.underlying5, Result.andThen_ok, Sem.run_pure]
theorem ms_run {n : Nat} (hn : n ≤ 140737488355328) {o : Oper} {a : Act} {w : World} {x y : Operand} (ho : o.op = .makeSlice 35 x y) (hx : a.eval x = .int .i64 n) (hy : a.eval y = .int .i64 n) :
    (execOp a.eval o).run Try.prog w = .ok (.value (.slice (some ⟨w.heap.size, 0, none⟩) n n)) (w.alloc (.cells (vs .u8 (List.replicate n 0)) 5)) := by
  unfold execOp
  simp only [ho, hx, hy, Sem.run_bind, run_mk2 n hn w, Result.andThen_ok, Sem.run_pure]
end Go.Proofs.Ytnagnolbomcnjaa
