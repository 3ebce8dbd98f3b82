/- WireRow answers true for every list of calls that holds, all in all, at most 1048576 values, and its argument reads behind the call as it did: the given statement WireRowUptoSaid. Condition: that of the statement, the bulk of what comes in. -/
import Derived.Test.YtkkicekhkidhjaaCalls
import Derived.Test.YtkkicekhkidhjaaRowW
import Derived.JoinedCond
namespace Go.Proofs.Ytkkicekhkidhjaa
set_option linter.unusedSimpArgs false
set_option linter.unusedVariables false
open Go.ChangeShapes Go.WideShapes Go.ChangeAt Go.RowKit

theorem bulk_one {H : Type} : ∀ d : DataW H, 1 ≤ Rows.uptoBulk d := by
  intro d
  rcases d with ⟨_ | _ | _ | _ | _⟩ | _ | _ | _ | _ | _ | _ | _ <;> simp [Rows.uptoBulk]
theorem bulk_length {H : Type} : ∀ l : List (DataW H), l.length ≤ Rows.uptoBulkAll l
  | [] => by simp [Rows.uptoBulkAll]
  | d :: r => by
    have h1 := bulk_one d
    have h2 := bulk_length r
    simp only [Rows.uptoBulkAll, List.length_cons]
    omega
theorem bulk_part {H : Type} {d : DataW H} : ∀ {l : List (DataW H)}, d ∈ l → Rows.uptoBulk d ≤ Rows.uptoBulkAll l
  | x :: r, h => by
    simp only [Rows.uptoBulkAll]
    rcases List.mem_cons.1 h with rfl | h
    · omega
    · have := bulk_part h
      omega

theorem row_len {H : Type} {enc : TypeId × Value → H} {W : World} {A : Option Addr} {n c : Nat} {d : DataW H} {ps : List MemPlace} (h : DataW.Trod enc Try.prog W 0 (fun _ => true) true 27 (.slice A n c) d ps) :
    n = 0 ∨ ∃ elems spare, d = .slice elems spare ∧ n ≤ elems.length + spare.length := by
  obtain ⟨fuel, hf⟩ := h
  rcases open_ints Try.underlying27 Try.underlying5 Try.cells5 hf with ⟨hcs, hx⟩ | ⟨a, len', cap', zs, hcs, _, hl, hm, hz, hx, hcell, hwz⟩
  · simp [Value.cells] at hcs
    exact .inl hcs.2.1
  · simp [Value.cells] at hcs
    obtain ⟨rfl, rfl, rfl⟩ := hcs
    simp only [Prod.mk.injEq] at hx
    simp only [if_true] at hz
    refine .inr ⟨_, _, hx.1, ?_⟩
    simp only [lits, List.length_map, List.length_take, List.length_drop]
    omega

theorem open_calls2 {H : Type} {enc : TypeId × Value → H} {W : World} {base : Nat} {v : Value} {d : DataW H} {ps : List MemPlace} (hv : Value.okWide Try.prog W .any base 22 v) (h : DataW.Trod enc Try.prog W 0 (fun _ => true) true 22 v d ps) (hlt : ∀ x ∈ ps, x.block < W.heap.size) :
    ∃ A len cap, v = .slice A len cap ∧ len ≤ Rows.uptoBulk d ∧ (0 < len → ∃ b off, A = some ⟨b, off, none⟩ ∧ ∀ i, i < len → ∃ what n size A m c g data, CallAt W b off i what n size A m c g data ∧ -9223372036854775808 ≤ n ∧ m ≤ Rows.uptoBulk d) := by
  obtain ⟨A, len, cap, rfl⟩ := okWide_slice Try.underlying22 hv
  obtain ⟨fuel, hf⟩ := h
  rcases Go.Deep.open_slice Try.underlying22 hf with ⟨hcs, hx⟩ | ⟨a, len', cap', m, n, D, Pl, hcs, _, hl, hm, hmm, hx, hel⟩
  · simp [Value.cells] at hcs
    obtain ⟨rfl, rfl, rfl⟩ := hcs
    exact ⟨none, 0, 0, rfl, by simp, fun h => absurd h (Nat.lt_irrefl _)⟩
  · simp [Value.cells] at hcs
    obtain ⟨rfl, rfl, rfl⟩ := hcs
    simp only [if_true] at hmm
    simp only [Prod.mk.injEq] at hx
    obtain ⟨rfl, rfl⟩ := hx
    subst hmm
    rw [Try.cells29] at hel
    have hlb : len ≤ Rows.uptoBulk (DataW.slice ((List.range len).map D) ((List.range (m - len)).map fun j => D (len + j))) := by
      have h1 := bulk_length ((List.range len).map D)
      rw [List.length_map, List.length_range] at h1
      simp only [Rows.uptoBulk]
      omega
    refine ⟨_, len, m, rfl, hlb, fun h0 => ?_⟩
    obtain ⟨b, off, spot⟩ := a
    have hspot : spot = none := by
      obtain ⟨cs', h1, _⟩ := hel 0 (by omega)
      obtain ⟨_, hlen, hcell⟩ := World.cells?_some h1
      match cs', hlen with
      | [v0, v1, v2, v3], _ =>
        have := hcell 0 (by omega)
        simpa [Addr.add] using World.cell?_spot this
    subst hspot
    refine ⟨b, off, rfl, fun i hi => ?_⟩
    obtain ⟨cs', h1, h2⟩ := hel i (by omega)
    obtain ⟨_, hlen, hcell⟩ := World.cells?_some h1
    obtain ⟨xs, k, hk, hxy, _, hxl, hfl⟩ := DataW.trod_struct Try.underlying29 h2
    match xs, hxl, cs', hlen with
    | [y0, y1, y2, y3], _, [v0, v1, v2, v3], _ =>
      have g0 : DataW.trod enc Try.prog W 0 (fun _ => true) true k 3 [v0] = some y0 := by have := hfl 0 _ rfl; simpa [Try.cells3] using this
      have g1 : DataW.trod enc Try.prog W 0 (fun _ => true) true k 3 [v1] = some y1 := by have := hfl 1 _ rfl; simpa [Try.cells3] using this
      have g2 : DataW.trod enc Try.prog W 0 (fun _ => true) true k 3 [v2] = some y2 := by have := hfl 2 _ rfl; simpa [Try.cells3] using this
      have g3 : DataW.trod enc Try.prog W 0 (fun _ => true) true k 27 [v3] = some (y3.1, y3.2) := by have := hfl 3 _ rfl; simpa [Try.cells27] using this
      obtain ⟨what, e0, _, w0⟩ := DataW.trod_int Try.underlying3 g0
      obtain ⟨vn, e1, _, w1⟩ := DataW.trod_int Try.underlying3 g1
      obtain ⟨size, e2, _, w2⟩ := DataW.trod_int Try.underlying3 g2
      have hpl : ∀ x ∈ y3.2, x.block < W.heap.size := fun x hx => hlt x (List.mem_append_right _ (List.mem_flatMap.2 ⟨i, List.mem_range.2 (by omega), by
        have e : Pl i = _ := congrArg Prod.snd hxy
        rw [e]
        exact List.mem_flatMap.2 ⟨y3, by simp, hx⟩⟩))
      obtain ⟨A, m', c, g, data, e3, hs, hg⟩ := open_sl_cell g3 hpl
      have q0 := hcell 0 (by omega)
      have q1 := hcell 1 (by omega)
      have q2 := hcell 2 (by omega)
      have q3 := hcell 3 (by omega)
      simp only [Addr_add_none] at q0 q1 q2 q3
      obtain rfl : v0 = _ := by simpa using e0
      obtain rfl : v1 = _ := by simpa using e1
      obtain rfl : v2 = _ := by simpa using e2
      subst e3
      have hbulk : m' ≤ Rows.uptoBulk (DataW.slice ((List.range len).map D) ((List.range (m - len)).map fun j => D (len + j))) := by
        have h3 : m' ≤ Rows.uptoBulk y3.1 := by
          rcases row_len ⟨k, g3⟩ with h4 | ⟨el, sp, e4, h4⟩
          · omega
          · rw [e4]
            have := bulk_length el
            have := bulk_length sp
            simp only [Rows.uptoBulk]
            omega
        have h5 : Rows.uptoBulk y3.1 ≤ Rows.uptoBulk (D i) := by
          have e : D i = _ := congrArg Prod.fst hxy
          rw [e]
          simp only [Rows.uptoBulk]
          exact Nat.le_succ_of_le (bulk_part (by simp))
        have h6 : Rows.uptoBulk (D i) ≤ Rows.uptoBulkAll ((List.range len).map D) := bulk_part (List.mem_map.2 ⟨i, List.mem_range.2 hi, rfl⟩)
        simp only [Rows.uptoBulk]
        omega
      exact ⟨what, vn, size, A, m', c, g, data, ⟨ by simpa using q0, by simpa using q1, by simpa using q2, by simpa using q3, hs, (wf_i64 w0).1, (wf_i64 w0).2, (wf_i64 w1).2, (wf_i64 w2).1, (wf_i64 w2).2, hg⟩, (wf_i64 w1).1, hbulk⟩

set_option maxRecDepth 100000 in
theorem row_contract (H : Type) (enc : TypeId × Value → H) (W : World) (base : Nat) (args : Array Value) (ds gs : List (DataW H)) (before : List MemPlace)
    (hval0 : ∀ (j : Nat) t v, Try.f3.params[j]? = some t → args[j]? = some v → Value.okWide Try.prog W .any base t v)
    (hW : DataW.Whole enc Try.prog Try.f3.params.toList Rows.wireRowSpec.vars false W args.toList ds gs before) (hk : Rows.uptoSmall H (ds ++ gs) = true) :
    Calls Try.prog 3 args W fun e W' => ∃ v, e = .returned v ∧ Rows.wireRowSpec.post enc Try.prog Try.f3 false true false false W args v W' := by
  have hval : ∀ (j : Nat) t v, Try.f3.params[j]? = some t → args[j]? = some v → Value.okWide Try.prog W .any base t v := hval0
  have hW' := hW
  obtain ⟨p, q, hA0, hV, rfl, hfz, hnd⟩ := hW
  have hA : DataW.TrodAll enc Try.prog W 0 (fun _ => true) true Try.f3.params.toList args.toList ds p := hA0
  rw [Try.params3] at hA hval
  obtain ⟨v0, vs0, d0, ds0, p0, q0, hargs, rfl, rfl, h0, r0⟩ := trodAll_cons hA
  obtain ⟨rfl, rfl, rfl⟩ := trodAll_nil r0
  obtain rfl : args = #[v0] := by cases args; simp_all
  obtain ⟨rfl, rfl⟩ := trodVars_none hV
  have hlt : ∀ x ∈ p0, x.block < W.heap.size := fun x hx => hW'.lt x (by simp [hx])
  have hbulk : Rows.uptoBulk d0 ≤ 1048576 := by
    have h := of_decide_eq_true hk
    simp only [List.append_nil, Rows.uptoBulkAll] at h
    omega
  obtain ⟨A, len, cap, rfl, hm, hC⟩ := open_calls2 (hval 0 22 v0 rfl rfl) h0 hlt
  clear hA0 hval0
  have main : Calls Try.prog 3 #[.slice A len cap] W fun e w' => e = .returned (.bool true) ∧ Fr (fun _ => False) W w' := by
    rcases Nat.eq_zero_or_pos len with rfl | hl
    · exact row_any A 0 0 0 cap (fun h => absurd h (Nat.lt_irrefl _)) W (by omega) (fun i hi => absurd hi (Nat.not_lt_zero _))
    · obtain ⟨b, off, rfl, hC2⟩ := hC hl
      refine row_any _ b off len cap (fun _ => rfl) W (by omega) (fun i hi => ?_)
      obtain ⟨what, n, size, A, m, c, g, data, h1, h2, h3⟩ := hC2 i hi
      exact ⟨what, n, size, A, m, c, g, data, h1, h2, by omega⟩
  refine main.mono fun e W' ⟨he, hg⟩ => ?_
  subst he
  exact ⟨_, rfl, post_true rfl hW' (by kernel_rfl) rfl rfl hg⟩

set_option maxRecDepth 100000 in
theorem row_lifted (os : Os) (started : os.Started) (H : Type) (enc : TypeId × Value → H) (F : Stop.Interp) :
    ReturnsInHanded {} Try.checked os 3 .any ((Rows.OpenSpec.upto Rows.wireRowSpec).pre6 enc Try.prog Try.f3 Rows.wireRowUptoRow.domain false) (((Rows.OpenSpec.upto Rows.wireRowSpec).at F).post enc Try.prog Try.f3 false true false false) := by
  refine returnsInHanded_of_cond (C := Try.checked) (s := Rows.OpenSpec.upto Rows.wireRowSpec) (k := Rows.uptoSmall) rfl own started (by kernel_rfl) Try.func3
    (OpenSpec.witness (enc := enc) (C := Try.checked) (s := Rows.OpenSpec.upto Rows.wireRowSpec) (k := Rows.uptoSmall) rfl false ⟨#[], #[.slice none 0 0], []⟩ 8 (by kernel_rfl) (by kernel_rfl) (by kernel_rfl)
      (x := ([.nil], [], [])) (by kernel_rfl) rfl (by kernel_rfl)) ?_
  intro W base args ds gs before hval hW _ hk _
  exact row_contract H enc W base args ds gs before hval hW hk

theorem wireRow_upto : Rows.WireRowUptoSaid :=
  OpenClaim.holds_of_cond 3 Try.f3 rfl rfl rfl rfl rfl rfl rfl ⟨rfl, rfl, rfl, rfl, rfl⟩ rfl rfl rfl rfl rfl (by kernel_rfl) Try.func3 (by kernel_rfl)
    (of_decide_eq_true (by kernel_rfl)) (by unfold Func.isWrapper; first | (rw [if_pos (by decide +kernel)]; kernel_rfl) | (rw [if_neg (by decide +kernel)]; exact ⟨rfl, rfl⟩))
    (fun os started H enc _ F => row_lifted os started H enc F)
#print axioms wireRow_upto
end Go.Proofs.Ytkkicekhkidhjaa
