/- The argument In (a key, a nonce, bytes that go along, a text or a box), opened, its parts read. Lemmas alone. -/
import Derived.Test.YtbafppdmlhogbaaAv
import Derived.Lib.SmallJoins
import Derived.Test.YtbafppdmlhogbaaXe
import Derived.Great.BuildSlice
import Derived.Lib.SlBytesConst
namespace Go.Proofs.Ytbafppdmlhogbaa
set_option linter.unusedSimpArgs false
set_option linter.unusedVariables false
open Go.ChangeShapes Go.WideShapes Go.ChangeAt Go.RowKit


theorem sized_field {H : Type} {P : Program} {ts : List TypeId} {ds : List (DataW H)} (h : (DataW.weightsEach P ts ds).all (· ≤ reachBytes) = true) {j : Nat} {t s e : TypeId} {fs : Array Field} {parts elems spare : List (DataW H)} {m : Nat}
    (ht : ts[j]? = some t) (hd : ds[j]? = some (.agg parts)) (hu : P.underlying t = some (.struct fs)) (hf : (fs.toList.map (·.type))[m]? = some s) (hp : parts[m]? = some (.slice elems spare)) (hs : P.underlying s = some (.slice e)) :
    (elems.length + spare.length) * P.bytesOf e ≤ reachBytes := by
  have h2 := DataW.weights_mem_each (P := P) hf hp ((elems.length + spare.length) * P.bytesOf e) (by simp [DataW.weights, hs])
  have := List.all_eq_true.1 h _ (DataW.weights_mem_each ht hd ((elems.length + spare.length) * P.bytesOf e) (by simp only [DataW.weights, hu]; exact h2))
  simpa using this
/-- Cells that read as a slice of bytes. -/
theorem open_sl_cs {H : Type} {enc : TypeId × Value → H} {W : World} {cs : List Value} {fuel : Nat} {x : DataW H × List MemPlace} (hf : DataW.trod enc Try.prog W 0 (fun _ => true) true fuel 29 cs = some x) (hlt : ∀ y ∈ x.2, y.block < W.heap.size) :
    ∃ A n c g l, cs = [.slice A n c] ∧ Sl W g (.slice A n c) l ∧ (n = 0 ∨ ∃ el sp, x.1 = .slice el sp ∧ n ≤ el.length + sp.length) := by
  obtain ⟨d, ps⟩ := x
  rcases open_ints Try.underlying29 Try.underlying5 Try.cells5 hf with ⟨hcs, hx⟩ | ⟨a, n, c, zs, hcs, _, hl, hm, hz, hx, hcell, hwz⟩
  · exact ⟨none, 0, 0, 0, [], by simpa using hcs, Sl.nil _ _, .inl rfl⟩
  · simp only [Prod.mk.injEq] at hx
    obtain ⟨rfl, rfl⟩ := hx
    simp only [if_true] at hz
    have hb : Bys (zs.take n) := fun b hb => wf_u8 (hwz b (List.mem_of_mem_take hb))
    have hlen : (zs.take n).length = n := by rw [List.length_take]; omega
    by_cases h0 : n = 0
    · subst h0
      exact ⟨some a, 0, c, 0, [], by simpa using hcs, ⟨Bys.nil, _, c, rfl, by simp, hm, fun h => absurd rfl h⟩, .inl rfl⟩
    · obtain ⟨b, off, spot⟩ := a
      have hspot : spot = none := by simpa [Addr.add] using World.cell?_spot (hcell 0 (by omega))
      subst hspot
      have hbW : b < W.heap.size := hlt (.cell b off) (MemPlace.mem_row.2 ⟨0, by omega, by simp⟩)
      refine ⟨_, n, c, b, zs.take n, by simpa using hcs, ⟨hb, _, c, by rw [hlen], by omega, hm, fun _ => ⟨off, rfl, hbW, fun j x hj => ?_⟩⟩, ?_⟩
      · have hjn : j < n := by
          rcases Nat.lt_or_ge j n with h | h
          · exact h
          · rw [List.getElem?_eq_none (by omega)] at hj; cases hj
        have := hcell j (by omega)
        rw [Addr_add_none] at this
        rw [this]
        rw [List.getElem?_take, if_pos hjn] at hj
        rw [List.getD_eq_getElem?_getD, hj]
        rfl
      · refine .inr ⟨_, _, rfl, ?_⟩
        simp only [lits, List.length_map, List.length_take, List.length_drop]
        omega
/-- A key, a nonce, two slices. -/
def ainn (k n : List Int) (x y : Value) : Array Value := ((k.map (Value.int .u8)) ++ (n.map (Value.int .u8) ++ [x, y])).toArray
theorem under_in : ∃ f0 f1 f2 f3 : Field, Try.prog.underlying 31 = some (.struct #[f0, f1, f2, f3]) ∧ f0.type = 28 ∧ f0.offset = 0 ∧ f1.type = 22 ∧ f1.offset = 32 ∧ f2.type = 29 ∧ f2.offset = 44 ∧ f3.type = 29 ∧ f3.offset = 45 :=
  ⟨_, _, _, _, Try.underlying31, rfl, rfl, rfl, rfl, rfl, rfl, rfl, rfl⟩
theorem list46 {α : Type} {cs : List α} (h : cs.length = 46) : cs = (cs.drop 0).take 32 ++ ((cs.drop 32).take 12 ++ ((cs.drop 44).take 1 ++ (cs.drop 45).take 1)) := by
  have e1 : (cs.drop 44).take 1 ++ (cs.drop 45).take 1 = (cs.drop 44).take 2 := by
    rw [show cs.drop 45 = (cs.drop 44).drop 1 by rw [List.drop_drop], ← List.take_add]
  have e2 : (cs.drop 32).take 12 ++ (cs.drop 44).take 2 = (cs.drop 32).take 14 := by
    rw [show cs.drop 44 = (cs.drop 32).drop 12 by rw [List.drop_drop], ← List.take_add]
  have e3 : (cs.drop 0).take 32 ++ (cs.drop 32).take 14 = (cs.drop 0).take 46 := by
    rw [show cs.drop 32 = (cs.drop 0).drop 32 by rw [List.drop_drop], ← List.take_add]
  rw [e1, e2, e3, List.drop_zero, List.take_of_length_le (by omega)]
theorem open_in {H : Type} {enc : TypeId × Value → H} {W : World} {b0 : Nat} {r : Reach} {v : Value} {d : DataW H} {ps : List MemPlace}
    (hv : Value.okWide Try.prog W r b0 31 v) (h : DataW.Trod enc Try.prog W 0 (fun _ => true) true 31 v d ps) (hlt : ∀ y ∈ ps, y.block < W.heap.size) :
    ∃ (k n : List Int) (A2 : Option Addr) (m2 c2 g2 : Nat) (l2 : List Int) (A3 : Option Addr) (m3 c3 g3 : Nat) (l3 : List Int) (x0 x1 x2 x3 : DataW H), v = .agg (ainn k n (.slice A2 m2 c2) (.slice A3 m3 c3)) ∧ d = .agg [x0, x1, x2, x3] ∧
      k.length = 32 ∧ Bys k ∧ n.length = 12 ∧ Bys n ∧ Sl W g2 (.slice A2 m2 c2) l2 ∧ Sl W g3 (.slice A3 m3 c3) l3 ∧
      (m2 = 0 ∨ ∃ el sp, x2 = .slice el sp ∧ m2 ≤ el.length + sp.length) ∧ (m3 = 0 ∨ ∃ el sp, x3 = .slice el sp ∧ m3 ≤ el.length + sp.length) := by
  obtain ⟨f0, f1, f2, f3, hu, t0, o0, t1, o1, t2, o2, t3, o3⟩ := under_in
  obtain ⟨cs, rfl, hsz⟩ := okWide_struct hu hv
  obtain ⟨fuel, hf⟩ := h
  obtain ⟨y0, y1, y2, y3, n, hx, hl, h0, h1, h2, h3⟩ := Go.Joins.trod_struct4 hu hf
  have c31 : Try.prog.cellsOf 31 = 46 := by kernel_rfl
  have c28 : Try.prog.cellsOf 28 = 32 := by kernel_rfl
  have c22 : Try.prog.cellsOf 22 = 12 := by kernel_rfl
  have c29 : Try.prog.cellsOf 29 = 1 := by kernel_rfl
  have c5 : Try.prog.cellsOf 5 = 1 := by kernel_rfl
  simp only [Prod.mk.injEq] at hx
  obtain ⟨rfl, rfl⟩ := hx
  simp only [Value.cells, t0, o0, t1, o1, t2, o2, t3, o3, c28, c22, c29] at h0 h1 h2 h3
  have hl2 : cs.toList.length = 46 := by rw [← c31]; simpa using hsz
  obtain ⟨k, e0, l0, b0'⟩ := trod_ints Try.underlying28 Try.underlying5 c5 (by simp; omega) h0
  obtain ⟨m, e1, l1, b1'⟩ := trod_ints Try.underlying22 Try.underlying5 c5 (by simp; omega) h1
  obtain ⟨A2, m2, c2, g2, l2, e2, s2, w2⟩ := open_sl_cs h2 (fun y hy => hlt y (by simp [hy]))
  obtain ⟨A3, m3, c3, g3, l3, e3, s3, w3⟩ := open_sl_cs h3 (fun y hy => hlt y (by simp [hy]))
  refine ⟨k, m, A2, m2, c2, g2, l2, A3, m3, c3, g3, l3, _, _, _, _, ?_, rfl, l0, fun x hx => wf_u8 (b0' x hx), l1, fun x hx => wf_u8 (b1' x hx), s2, s3, w2, w3⟩
  congr 1
  apply Array.toList_inj.1
  rw [list46 hl2, e0, e1, e2, e3]
  simp [ainn]
section
variable {w : World} {q : Nat} {k n : List Int} {x y : Value}
theorem ainn_size (hk : k.length = 32) (hn : n.length = 12) : (ainn k n x y).size = 46 := by simp [ainn, hk, hn]
theorem ainn_key (hk : k.length = 32) (h : w.heap[q]? = some (.cells (ainn k n x y) 31 (0, 0))) : w.rangeAt q 0 (vs .u8 k).toList := fun j v hj => by
  rw [Nat.zero_add, cell_of_row _ _ _ _ _ _ h]
  simp only [ainn, List.getElem?_toArray]
  have hj2 : j < k.length := by
    rcases Nat.lt_or_ge j k.length with h | h
    · exact h
    · rw [List.getElem?_eq_none (by simpa [vs] using h)] at hj; cases hj
  rw [List.getElem?_append_left (by simpa using hj2)]
  simpa [vs] using hj
theorem ainn_nonce (hk : k.length = 32) (h : w.heap[q]? = some (.cells (ainn k n x y) 31 (0, 0))) : w.rangeAt q 32 (vs .u8 n).toList := fun j v hj => by
  rw [cell_of_row _ _ _ _ _ _ h]
  simp only [ainn, List.getElem?_toArray]
  have hj2 : j < n.length := by
    rcases Nat.lt_or_ge j n.length with h | h
    · exact h
    · rw [List.getElem?_eq_none (by simpa [vs] using h)] at hj; cases hj
  rw [List.getElem?_append_right (by simp [hk])]
  simp only [List.length_map, hk]
  rw [show 32 + j - 32 = j by omega, List.getElem?_append_left (by simpa using hj2)]
  simpa [vs] using hj
theorem ainn_ad (hk : k.length = 32) (hn : n.length = 12) (h : w.heap[q]? = some (.cells (ainn k n x y) 31 (0, 0))) : w.cell? ⟨q, 44, none⟩ = some x := by
  rw [cell_of_row _ _ _ _ _ _ h]
  simp only [ainn, List.getElem?_toArray]
  rw [List.getElem?_append_right (by simp [hk]), List.getElem?_append_right (by simp [hk, hn])]
  simp [hk, hn]
theorem ainn_b (hk : k.length = 32) (hn : n.length = 12) (h : w.heap[q]? = some (.cells (ainn k n x y) 31 (0, 0))) : w.cell? ⟨q, 45, none⟩ = some y := by
  rw [cell_of_row _ _ _ _ _ _ h]
  simp only [ainn, List.getElem?_toArray]
  rw [List.getElem?_append_right (by simp [hk]), List.getElem?_append_right (by simp [hk, hn])]
  simp [hk, hn]
end
end Go.Proofs.Ytbafppdmlhogbaa

/- The law's usual: contract, no condition. -/
namespace Go.Proofs.Ytbafppdmlhogbaa
set_option linter.unusedSimpArgs false
set_option linter.unusedVariables false
open Go.ChangeShapes Go.WideShapes Go.ChangeAt Go.RowKit

theorem wpList_bytesConst {ops : Array Oper} {rest : List Oper} {o : Oper} {a : Act} {w : World} {Q : Exit → Act → World → Prop} (hg : o.guard = none) (x : Operand) (ho : o.op = .convert 29 29 x) (n c : Nat) (hx : a.eval x = .slice (some ⟨w.heap.size, 0, none⟩) n c) (C : Array Value)
    (h : wpList Try.prog ops Q rest (a.put o.dst (.slice (some ⟨w.heap.size, 0, none⟩) n c)) (w.alloc (.cells C 5 (C.size, C.size + 1)))) : wpList Try.prog ops Q (o :: rest) a (w.alloc (.cells C 5)) := by
  refine wpList_plain hg fun K hK => wp_value (.slice (some ⟨w.heap.size, 0, none⟩) n c) _ ?_ (hK _ _ h)
  unfold execOp
  simp only [ho, hx, Sem.run_bind, Lib.run_convert_bytes_const w 29 5 C n c Try.underlying29 Try.underlying5, Result.andThen_ok, Sem.run_pure]

theorem bys_of (l : List Int) (h : (l.all fun b => decide (0 ≤ b) && decide (b ≤ 255)) = true) : Bys l := by
  intro b hb
  have := List.all_eq_true.1 h b hb
  simpa using this
/-- The RFC's example: key, nonce, ad, text. -/
def uk : List Int := [128, 129, 130, 131, 132, 133, 134, 135, 136, 137, 138, 139, 140, 141, 142, 143, 144, 145, 146, 147, 148, 149, 150, 151, 152, 153, 154, 155, 156, 157, 158, 159]
def un : List Int := [7, 0, 0, 0, 64, 65, 66, 67, 68, 69, 70, 71]
def uad : List Int := [80, 81, 82, 83, 192, 193, 194, 195, 196, 197, 198, 199]
def utx : List Int := [76, 97, 100, 105, 101, 115, 32, 97, 110, 100, 32, 71, 101, 110, 116, 108, 101, 109, 101, 110, 32, 111, 102, 32, 116, 104, 101, 32, 99, 108, 97, 115, 115, 32, 111, 102, 32, 39, 57, 57, 58, 32, 73, 102, 32, 73, 32, 99, 111, 117, 108, 100, 32, 111, 102, 102, 101, 114, 32, 121, 111, 117, 32, 111, 110, 108, 121, 32, 111, 110, 101, 32, 116, 105, 112, 32, 102, 111, 114, 32, 116, 104, 101, 32, 102, 117, 116, 117, 114, 101, 44, 32, 115, 117, 110, 115, 99, 114, 101, 101, 110, 32, 119, 111, 117, 108, 100, 32, 98, 101, 32, 105, 116, 46]
theorem uk_bys : Bys uk := bys_of _ (by decide +kernel)
theorem un_bys : Bys un := bys_of _ (by decide +kernel)
theorem uad_bys : Bys uad := bys_of _ (by decide +kernel)
theorem utx_bys : Bys utx := bys_of _ (by decide +kernel)
theorem uk_get : ∀ i : Nat, i < 32 → uk[i]? = some ((128 + (i : Int)) % 256) := by decide +kernel
section
variable {k n : List Int} {x y : Value}
theorem ainn_setk (v : Int) (i : Nat) (hi : i < k.length) : (ainn k n x y).setIfInBounds i (.int .u8 v) = ainn (k.set i v) n x y := by
  apply Array.toList_inj.1
  simp only [ainn, Array.toList_setIfInBounds]
  rw [List.set_append_left _ _ (by simpa using hi), List.map_set]
theorem ainn_setb (hk : k.length = 32) (hn : n.length = 12) (z : Value) : (ainn k n x y).setIfInBounds 45 z = ainn k n x z := by
  apply Array.toList_inj.1
  simp only [ainn, Array.toList_setIfInBounds]
  rw [List.set_append_right _ _ (by simp [hk]), List.set_append_right _ _ (by simp [hk, hn])]
  simp [hk, hn]
theorem ainn_all (A B : Option Addr) (m c l d : Nat) : ((ainn k n (.slice A m c) (.slice B l d)).all (·.oneCell')) = true := by
  apply Array.all_eq_true_iff_forall_mem.2
  intro v hv
  simp only [ainn, List.mem_toArray, List.mem_append, List.mem_map, List.mem_cons, List.not_mem_nil, or_false] at hv
  rcases hv with ⟨x, _, rfl⟩ | ⟨x, _, rfl⟩ | rfl | rfl <;> rfl
end
theorem info_in : (Try.prog.info? 31).map (·.size) = some 46 := by kernel_rfl
set_option maxRecDepth 100000 in
set_option maxHeartbeats 8000000 in
theorem usual_is (w : World) : Calls Try.prog 27 #[] w fun e w' => ∃ g2 c2 g3 c3, e = .returned (.agg (ainn uk un (.slice (some ⟨g2, 0, none⟩) 12 c2) (.slice (some ⟨g3, 0, none⟩) 114 c3))) ∧ Sl w' g2 (.slice (some ⟨g2, 0, none⟩) 12 c2) uad ∧ Sl w' g3 (.slice (some ⟨g3, 0, none⟩) 114 c3) utx ∧ Fr (fun _ => False) w w' := by
  obtain ⟨UK, hUK⟩ : ∃ x, x = uk := ⟨_, rfl⟩
  obtain ⟨UN, hUN⟩ : ∃ x, x = un := ⟨_, rfl⟩
  have z0 : fil UK 0 0 = List.replicate 32 0 := by rw [hUK]; rfl
  have hz : ∀ W : World, (zeroValue 31).run Try.prog W = .ok (.agg (ainn (List.replicate 32 0) (List.replicate 12 0) (.slice none 0 0) (.slice none 0 0))) W := fun _ => by kernel_rfl
  obtain ⟨Z, hZ⟩ : ∃ x, x = ainn (List.replicate 32 0) (List.replicate 12 0) (.slice none 0 0) (.slice none 0 0) := ⟨_, rfl⟩
  rw [← hZ] at hz
  have sZ : Hid (Z.size = 46) := by show _ = _; rw [hZ]; rfl
  have lUK : Hid (UK.length = 32) := by show _ = _; rw [hUK]; rfl
  have lUN : Hid (UN.length = 12) := by show _ = _; rw [hUN]; rfl
  have gUK : Hid (∀ i : Nat, i < 32 → UK[i]? = some ((128 + (i : Int)) % 256)) := by show ∀ _, _; rw [hUK]; exact uk_get
  have HU : Unit → UK = uk ∧ UN = un := fun _ => ⟨hUK, hUN⟩
  clear hZ
  go_enter Try.func27, Try.ntmps27
  go_upto_region 1 with (fail)
  have X0 : Hid ((w.alloc (.cells Z 31)).heap[w.heap.size]? = some (.cells Z 31 (0, 0))) := heap_alloc_new w _
  have F0 : Hid (Fr (fun _ => False) w (w.alloc (.cells Z 31))) := (Fr.refl _ _).alloc _
  generalize w.alloc (.cells Z 31) = W0 at *
  refine wp_region_list ?_
  refine wpList_buildFlatArr rfl 22 5 12 _ rfl .u8 un Try.underlying22 size5 (by kernel_rfl) (by kernel_rfl) ?_
  refine wpList_buildFlat rfl 29 5 12 _ rfl .u8 uad Try.underlying29 size5 (by kernel_rfl) rfl (by decide) (by decide) (by kernel_rfl) ?_
  change wpList _ _ _ _ _ (W0.alloc (.cells (vs .u8 uad) 5))
  have S1 : Hid (Sl (W0.alloc (.cells (vs .u8 uad) 5)) W0.heap.size (.slice (some ⟨W0.heap.size, 0, none⟩) 12 12) uad) := Sl.block uad_bys (heap_alloc_new W0 _) (fun j _ => by rw [vs_bs]; simp) (by decide) (by decide)
  have X1 := Lib.hid ((Below.heap_alloc W0 (.cells (vs .u8 uad) 5) _ (heap_lt X0.out)).trans X0.out)
  have F1 : Hid (Fr (fun _ => False) w (W0.alloc (.cells (vs .u8 uad) 5))) := F0.out.alloc _
  obtain ⟨g2, hg2⟩ : ∃ g, g = W0.heap.size := ⟨_, rfl⟩
  have HG2 : Hid (¬ g2 = w.heap.size) := by have := heap_lt X0.out; show ¬ _; omega
  rw [← hg2] at S1 ⊢
  generalize W0.alloc (.cells (vs .u8 uad) 5) = W1 at *
  clear X0 F0 hg2
  refine wpList_plain rfl fun _ hK => wp_value (.agg (ainn (List.replicate 32 0) un (.slice (some ⟨g2, 0, none⟩) 12 12) (.slice none 0 0))) W1 (by kernel_rfl) (hK _ _ ?_)
  rw [← z0, ← hUN]
  refine wpList_plain rfl fun _ hK => wp_alloc_any 31 rfl Z hz (hK _ _ ?_)
  have lf : (fil UK 0 0).length = 32 := by rw [fil_length UK 0 0 (by have := lUK.out; omega), lUK.out]
  refine wpList_store_row rfl 31 (.tmp 1) (.tmp 5) rfl W1.heap.size (ainn (fil UK 0 0) UN (.slice (some ⟨g2, 0, none⟩) 12 12) (.slice none 0 0)) rfl rfl 31 Z (heap_alloc_new W1 _) (by rw [ainn_size lf lUN.out]; exact info_in) (by rw [ainn_size lf lUN.out, sZ.out]) (ainn_all _ _ _ _ _ _) ?_
  obtain ⟨q, hq⟩ : ∃ q, q = W1.heap.size := ⟨_, rfl⟩
  have X2 : Hid (((W1.alloc (.cells Z 31)).setRow W1.heap.size (ainn (fil UK 0 0) UN (.slice (some ⟨g2, 0, none⟩) 12 12) (.slice none 0 0))).heap[q]? = some (.cells (ainn (fil UK 0 0) UN (.slice (some ⟨g2, 0, none⟩) 12 12) (.slice none 0 0)) 31 (0, 0))) := by
    rw [hq]
    exact setRow_heap _ _ _ _ _ _ (heap_alloc_new W1 _)
  have FQ : Fr (fun _ => False) W1 ((W1.alloc (.cells Z 31)).setRow W1.heap.size (ainn (fil UK 0 0) UN (.slice (some ⟨g2, 0, none⟩) 12 12) (.slice none 0 0))) := ((Fr.refl _ _).alloc _).setRow _ (.inr (Nat.le_refl _))
  have X3 := Lib.hid ((FQ.block _ (heap_lt X1.out) (fun x => x)).trans X1.out)
  have S3 := Lib.hid (S1.out.fr FQ (fun _ x => x))
  have F3 := Lib.hid (F1.out.trans FQ)
  have hqs : W1.heap.size ≤ q := Nat.le_of_eq hq.symm
  have hqg : Hid (w.heap.size ≤ q ∧ w.heap.size ≠ q ∧ g2 ≠ q) := by
    have h1 := F1.out.size
    have h2 := heap_lt X1.out
    have h3 := S1.out.lt6 (by decide)
    show _ ∧ _ ∧ _
    omega
  rw [← hq] at X2 X3 S3 F3 ⊢
  generalize (W1.alloc (.cells Z 31)).setRow q (ainn (fil UK 0 0) UN (.slice (some ⟨g2, 0, none⟩) 12 12) (.slice none 0 0)) = W3 at *
  clear FQ hq hqs X1 S1 F1 hz hUN lf z0 hUK
  try simp only [Act.put, List.setIfInBounds_toArray, List.set_cons_succ, List.set_cons_zero]
  go_upto_region 3 with (fail)
  go_loopw [2] (fun u2 wr => ∃ i : Nat, u2 = .int .i64 i ∧ i ≤ 32 ∧ Hid (wr.heap[w.heap.size]? = some (.cells Z 31 (0, 0))) ∧ Hid (wr.heap[q]? = some (.cells (ainn (fil UK i 0) UN (.slice (some ⟨g2, 0, none⟩) 12 12) (.slice none 0 0)) 31 (0, 0))) ∧ Hid (Sl wr g2 (.slice (some ⟨g2, 0, none⟩) 12 12) uad) ∧ Hid (Fr (fun _ => False) w wr)) (fun u2 _ => 32 - (intOf u2).toNat)
  case atStart => exact ⟨0, rfl, by omega, X3, X2, S3, F3⟩
  case round =>
  clear X2 X3 S3 F3
  obtain ⟨i, rfl, hi, hX, hQ, hS, hF⟩ := hrel
  by_cases hil : i < 32
  · have j1 : ((i : Int)).toNat = i := by omega
    have j2 : 0 ≤ (i : Int) := by omega
    have j3 : (i : Int) < 32 := by omega
    have gx := gUK.out i hil
    obtain ⟨y, hy⟩ : ∃ y : Int, (128 + (i : Int)) % 256 = y := ⟨_, rfl⟩
    rw [hy] at gx
    have j4 : IntKind.u8.wrap (128 + (i : Int)) = y := by rw [IntKind.wrap_u8, hy]
    have lf : (fil UK i 0).length = 32 := by rw [fil_length UK i 0 (by have := lUK.out; omega), lUK.out]
    have cQ : wr.cell? ⟨q, i, none⟩ = some (.int .u8 0) := by
      have h := ainn_key lf hQ.out i (.int .u8 0) (by simp [vs, fil_get UK i 0 (by have := lUK.out; omega)])
      rwa [Nat.zero_add] at h
    have fQ : wr.frozen? ⟨q, i, none⟩ = false := frozen_of_row _ _ _ _ _ hQ.out
    have Q2 : Hid ((wr.setCell ⟨q, i, none⟩ (.int .u8 y)).heap[q]? = some (.cells (ainn (fil UK (i + 1) 0) UN (.slice (some ⟨g2, 0, none⟩) 12 12) (.slice none 0 0)) 31 (0, 0))) := by
      have h := heap_setCell_same wr q i _ _ (.int .u8 y) hQ.out
      rw [ainn_setk y i (by omega), fil_set UK i 0 _ gx] at h
      exact h
    have QN := Lib.hid (And.intro hqg.out.2.1 hqg.out.2.2)
    clear gx hy lf hQ
    go_wp2
    go_roundw
    case rel => exact ⟨i + 1, by go_num, by omega, (heap_setCell_other _ _ _ _ QN.out.1).trans hX.out, Q2, hS.out.fr (S := fun k => k = q) ((Fr.refl _ _).setCell _ (.inl rfl)) (fun _ => QN.out.2), hF.out.setCell _ (.inr hqg.out.1)⟩
    case measure => simp [intOf]; omega
  obtain rfl : i = 32 := by omega
  have Q9 : Hid (wr.heap[q]? = some (.cells (ainn UK UN (.slice (some ⟨g2, 0, none⟩) 12 12) (.slice none 0 0)) 31 (0, 0))) := by
    have h := hQ.out
    have e := fil_all UK (0 : Int)
    rw [lUK.out] at e
    rwa [e] at h
  clear hQ
  go_upto_region 6 with (fail)
  obtain ⟨W4, rfl⟩ : ∃ W4 : World, W4 = wr := ⟨_, rfl⟩
  obtain ⟨SA, hSA⟩ : ∃ x : Value, x = .slice (some ⟨g2, 0, none⟩) 12 12 := ⟨_, rfl⟩
  have iA : Unit → ∀ B l d, (ainn UK UN SA (.slice B l d)).all (·.oneCell') = true := fun _ B l d => by rw [hSA]; exact ainn_all _ _ _ _ _ _
  have HSA : Unit → SA = .slice (some ⟨g2, 0, none⟩) 12 12 := fun _ => hSA
  rw [← hSA] at Q9 hS
  clear hSA
  refine wp_region_list ?_
  refine wpList_buildFlat rfl 29 5 114 _ rfl .u8 utx Try.underlying29 size5 (by kernel_rfl) rfl (by decide) (by decide) (by kernel_rfl) ?_
  change wpList _ _ _ _ _ (W4.alloc (.cells (vs .u8 utx) 5))
  refine wpList_bytesConst rfl (.tmp 16) rfl 114 114 rfl (vs .u8 utx) ?_
  obtain ⟨fz, hfz⟩ : ∃ f, f = ((vs .u8 utx).size, (vs .u8 utx).size + 1) := ⟨_, rfl⟩
  rw [← hfz]
  have FB : Fr (fun _ => False) W4 (W4.alloc (.cells (vs .u8 utx) 5 fz)) := (Fr.refl _ _).alloc _
  have S5 : Hid (Sl (W4.alloc (.cells (vs .u8 utx) 5 fz)) W4.heap.size (.slice (some ⟨W4.heap.size, 0, none⟩) 114 114) utx) := Sl.block utx_bys (heap_alloc_new W4 _) (fun j _ => by rw [vs_bs]; simp) (by decide) (by decide)
  have X5 := Lib.hid ((FB.block _ (heap_lt hX.out) (fun x => x)).trans hX.out)
  have Q5 := Lib.hid ((FB.block _ (heap_lt Q9.out) (fun x => x)).trans Q9.out)
  have A5 := Lib.hid (hS.out.fr FB (fun _ x => x))
  have F5 := Lib.hid (hF.out.trans FB)
  have hg3 : Hid (W4.heap.size ≠ q) := by have := heap_lt Q9.out; show _ ≠ _; omega
  obtain ⟨g3, hg⟩ : ∃ g, g = W4.heap.size := ⟨_, rfl⟩
  have HG3 : Hid (¬ g3 = w.heap.size) := by have := heap_lt hX.out; show ¬ _; omega
  rw [← hg] at S5 hg3 ⊢
  generalize W4.alloc (.cells (vs .u8 utx) 5 fz) = W5 at *
  clear FB hg hfz hX Q9 hS hF
  have cB : W5.cell? ⟨q, 45, none⟩ = some (.slice none 0 0) := ainn_b lUK.out lUN.out Q5.out
  have fB : W5.frozen? ⟨q, 45, none⟩ = false := frozen_of_row _ _ _ _ _ Q5.out
  have Q6 : Hid ((W5.setCell ⟨q, 45, none⟩ (.slice (some ⟨g3, 0, none⟩) 114 114)).heap[q]? = some (.cells (ainn UK UN SA (.slice (some ⟨g3, 0, none⟩) 114 114)) 31 (0, 0))) := by
    have h := heap_setCell_same W5 q 45 _ _ (.slice (some ⟨g3, 0, none⟩) 114 114) Q5.out
    rwa [ainn_setb lUK.out lUN.out] at h
  clear Q5
  go_wp2_with (first
    | refine wpList_load_row rfl 31 (.tmp 1) rfl q rfl 31 (ainn UK UN SA (.slice (some ⟨g3, 0, none⟩) 114 114)) (0, 0) _ Q6.out Try.underlying31 rfl (by rw [ainn_size lUK.out lUN.out]; exact info_in) ?_
    | refine wpList_store_row rfl 31 (.tmp 0) (.tmp 19) rfl (w.heap.size) (ainn UK UN SA (.slice (some ⟨g3, 0, none⟩) 114 114)) rfl rfl 31 Z ((heap_setCell_other _ _ _ _ hqg.out.2.1).trans X5.out) (by rw [ainn_size lUK.out lUN.out]; exact info_in) (by rw [ainn_size lUK.out lUN.out, sZ.out]) (iA () _ _ _) ?_)
  have X6 : Hid ((W5.setCell ⟨q, 45, none⟩ (.slice (some ⟨g3, 0, none⟩) 114 114)).heap[w.heap.size]? = some (.cells Z 31 (0, 0))) := (heap_setCell_other _ _ _ _ hqg.out.2.1).trans X5.out
  have FS : Fr (fun k => k = q) W5 (W5.setCell ⟨q, 45, none⟩ (.slice (some ⟨g3, 0, none⟩) 114 114)) := (Fr.refl _ _).setCell _ (.inl rfl)
  have F6 : Fr (fun _ => False) w (W5.setCell ⟨q, 45, none⟩ (.slice (some ⟨g3, 0, none⟩) 114 114)) := F5.out.setCell _ (.inr hqg.out.1)
  have A6 := A5.out.fr FS (fun _ => hqg.out.2.2)
  have T6 := S5.out.fr FS (fun _ => hg3.out)
  refine bodyPost_ret (results_cell_row Try.results27 _ _ _ 31 _ (0, 0) _ rfl (setRow_heap _ _ _ _ _ _ X6.out) Try.underlying31 rfl (by rw [ainn_size lUK.out lUN.out]; exact info_in)) rfl ?_
  have FR : Fr (fun k => k = w.heap.size) (W5.setCell ⟨q, 45, none⟩ (.slice (some ⟨g3, 0, none⟩) 114 114)) ((W5.setCell ⟨q, 45, none⟩ (.slice (some ⟨g3, 0, none⟩) 114 114)).setRow w.heap.size (ainn UK UN SA (.slice (some ⟨g3, 0, none⟩) 114 114))) := (Fr.refl _ _).setRow _ (.inl rfl)
  rw [(HU ()).1, (HU ()).2, HSA ()]
  rw [(HU ()).1, (HU ()).2, HSA ()] at FR
  rw [HSA ()] at A6
  refine ⟨g2, 12, g3, 114, rfl, A6.fr FR (fun _ => HG2.out), T6.fr FR (fun _ => HG3.out), F6.setRow _ (.inr (Nat.le_refl _))⟩
end Go.Proofs.Ytbafppdmlhogbaa
