/- The reference's Bytes: contract. Conditions: a slice that lies in memory, not more bytes than a machine has. -/
import Derived.Test.YtkkicekhkidhjaaROut
import Derived.Test.YtkkicekhkidhjaaInvG
namespace Go.Proofs.Ytkkicekhkidhjaa
set_option linter.unusedSimpArgs false
set_option linter.unusedVariables false
open Go.RowKit

/-- A literal of one slice. -/
theorem fillS {a : Act} {y : Operand} {x : Value} (hx : a.eval y = x) (ho : x.cells = #[x]) : Instr.fill (fun i => some (i * 1, 1)) ((Array.range (1 * 1)).map ((Value.slice none 0 0).cells[· % (Value.slice none 0 0).cells.size]!)) ((#[(0, y)] : Array (Nat × Operand)).map fun (i, x) => (i, a.eval x)).toList = some #[x] := by
  have e2 : ((#[(0, y)] : Array (Nat × Operand)).map fun (i, x) => (i, a.eval x)).toList = [(0, x)] := by simp [hx]
  rw [e2]
  have h := Great.fill_whole (s := 1) (by decide) [x] ((Array.range (1 * 1)).map ((Value.slice none 0 0).cells[· % (Value.slice none 0 0).cells.size]!)) (by intro v hv; simp only [List.mem_cons, List.not_mem_nil, or_false] at hv; subst hv; rw [ho]; rfl) (by simp)
  refine h.trans ?_
  simp [ho]
theorem run_app1 {w : World} {g : Nat} {A : Option Addr} {m c : Nat} {l : List Int} (ty : TypeId) (hs : Sl w g (.slice A m c) l) (hm : m ≤ 140737488355328) :
    ∃ x w', (Builtin.append_ #[27, 27] ty #[.slice none 0 0, .slice A m c]).run Try.prog w = .ok x w' ∧ Ow w' x l ∧ Fr (fun _ => False) w w' ∧ (∀ k, x.ownBlock = some k → w.heap.size ≤ k) := by
  obtain ⟨A', N', c', w', hrun, hap, hN'⟩ := run_own ty (Ow.nil w) hs (by simpa using hm)
  refine ⟨_, w', hrun, hap.own, (Fr.refl _ w).grown hap.grown (fun k hk => by cases hk), fun k hk => ?_⟩
  rcases hap.at_ with e | e
  · rw [e] at hk; cases hk
  · rw [e] at hk; injection hk with hk; omega
theorem wp_store_one {P : Program} {o : Oper} {a : Act} {w w' : World} {K : Act → World → Prop} {Q : Exit → Act → World → Prop} (ty : TypeId) (x y : Operand) (ho : o.op = .store ty x y) (p : Nat) (hx : a.eval x = .pointer (some ⟨p, 0, none⟩)) (v : Value) (hy : a.eval y = v)
    (hst : (storeVar ty ⟨p, 0, none⟩ v).run P w = .ok () w') (h : K (a.put o.dst undef) w') : o.wp P a w K Q := by
  unfold Oper.wp execOp
  simp only [ho, hx, hy, Instr.storeAt, Instr.sureAddr, Sem.run_bind, Sem.run_pure, Result.andThen_ok, hst]
  exact h
set_option maxRecDepth 100000 in
set_option maxHeartbeats 8000000 in
theorem rwbytes_any (p g : Nat) (v : Value) (ls : List (List Int)) (vals : List Value) (A : Option Addr) (m c : Nat) (l : List Int) (w : World) (h : RW w p v ls vals) (hs : Sl w g (.slice A m c) l) (hm : m ≤ 140737488355328) (hn : ls.length ≤ 1000) :
    Calls Try.prog 18 #[.pointer (some ⟨p, 0, none⟩), .slice A m c] w fun e w' => ∃ v' x, e = .returned (.int .i64 0) ∧ RW w' p v' (ls ++ [l]) (vals ++ [x]) ∧ Fr (fun k => k = p ∨ v.ownBlock = some k) w w' ∧ (∀ k, v'.ownBlock = some k → v.ownBlock = some k ∨ w.heap.size ≤ k) ∧ (∀ k, x.ownBlock = some k → w.heap.size ≤ k) := by
  have H0 := Lib.hid h
  have HS0 := Lib.hid hs
  clear h hs
  go_enter Try.func18, Try.ntmps18
  go_upto_region 1 with (fail)
  obtain ⟨W0, hW0⟩ : ∃ W0, W0 = { w with drawn := w.drawn + 1 } := ⟨_, rfl⟩
  have F0 : Hid (Fr (fun _ => False) w W0) := by show _; rw [hW0]; exact ⟨rfl, rfl, rfl, Nat.le_refl _, fun _ _ _ => rfl⟩
  have H := Lib.hid (H0.out.keep F0.out (fun _ _ x => x))
  have HS := Lib.hid (HS0.out.fr F0.out (fun _ x => x))
  have hsz : W0.heap.size = w.heap.size := by rw [hW0]
  refine wp_region_invG (fun b a w' => ∃ (x : Value) (nb : Nat) (v' : Value), (b 6 = false → w' = W0) ∧ (b 6 = true → b 8 = false → Ow w' x l ∧ Fr (fun _ => False) W0 w') ∧ (b 7 = true → b 8 = false → w'.cell? ⟨nb, 0, none⟩ = some x) ∧ (b 8 = true → b 11 = false → w'.heap[p]? = some (.cells #[v] 63 (0, 0)) ∧ RW (w'.setCell ⟨p, 0, none⟩ v') p v' (ls ++ [l]) (vals ++ [x]) ∧ Fr (fun k => k = p ∨ v.ownBlock = some k) W0 (w'.setCell ⟨p, 0, none⟩ v') ∧ (∀ k, v'.ownBlock = some k → v.ownBlock = some k ∨ W0.heap.size ≤ k) ∧ (∀ k, x.ownBlock = some k → W0.heap.size ≤ k)) ∧ (b 11 = true → RW w' p v' (ls ++ [l]) (vals ++ [x]) ∧ Fr (fun k => k = p ∨ v.ownBlock = some k) W0 w' ∧ (∀ k, v'.ownBlock = some k → v.ownBlock = some k ∨ W0.heap.size ≤ k) ∧ (∀ k, x.ownBlock = some k → W0.heap.size ≤ k)) ∧ (b 6 = true → ∀ k, x.ownBlock = some k → W0.heap.size ≤ k) ∧ (b 7 = true → b 6 = true) ∧ (b 8 = true → b 7 = true) ∧ (b 11 = true → b 8 = true) ∧ (b 8 = true → b 4 = true) ∧ a = ⟨#[.pointer (some ⟨p, 0, none⟩), .slice A m c, undef, undef, .int .i64 0, if b 0 = true then .pointer (some ⟨p, 0, none⟩) else undef, if b 1 = true then .pointer (some ⟨p, 0, none⟩) else undef, if b 2 = true then .pointer (some ⟨p, 0, none⟩) else undef, if b 3 = true then .pointer (some ⟨p, 0, none⟩) else undef, if b 4 = true then v else undef, if b 5 = true then .slice A m c else undef, if b 6 = true then x else undef, if b 7 = true then .slice (some ⟨nb, 0, none⟩) 1 1 else undef, if b 8 = true then v' else undef, if b 9 = true then .pointer (some ⟨p, 0, none⟩) else undef, if b 10 = true then .pointer (some ⟨p, 0, none⟩) else undef], []⟩) (by kernel_rfl) (by kernel_rfl) ?start1 ?step1 ?done1
  case start1 => exact ⟨undef, 0, undef, fun _ => hW0.symm, fun h => by simp at h, fun h => by simp at h, fun h => by simp at h, fun h => by simp at h, fun h => by simp at h, fun h => by simp at h, fun h => by simp at h, fun h => by simp at h, fun h => by simp at h, by simp⟩
  case step1 =>
    intro i5 o5 b a w1 ho hI hb hr
    obtain ⟨x, nb, v', hA, hB, hC, hD, hE, hG, q7, q8, q11, q4, rfl⟩ := hI
    match i5, ho with
    | 0, ho =>
      injection ho with ho
      subst ho
      refine ⟨rfl, ?_⟩
      refine wp_value (.pointer (some ⟨p, 0, none⟩)) w1 (by kernel_rfl) ?_
      refine ⟨x, nb, v', fun h => hA (by simpa [upd] using h), fun h h' => hB (by simpa [upd] using h) (by simpa [upd] using h'), fun h h' => hC (by simpa [upd] using h) (by simpa [upd] using h'), fun h h' => hD (by simpa [upd] using h) (by simpa [upd] using h'), fun h => hE (by simpa [upd] using h), fun h => hG (by simpa [upd] using h), fun h => by simp [upd] at h ⊢; exact q7 h, fun h => by simp [upd] at h ⊢; exact q8 h, fun h => by simp [upd] at h ⊢; exact q11 h, fun h => by simp [upd] at h ⊢; exact q4 h, ?_⟩
      simp [upd, Act.put]
    | 1, ho =>
      injection ho with ho
      subst ho
      refine ⟨rfl, ?_⟩
      refine wp_value (.pointer (some ⟨p, 0, none⟩)) w1 (by kernel_rfl) ?_
      refine ⟨x, nb, v', fun h => hA (by simpa [upd] using h), fun h h' => hB (by simpa [upd] using h) (by simpa [upd] using h'), fun h h' => hC (by simpa [upd] using h) (by simpa [upd] using h'), fun h h' => hD (by simpa [upd] using h) (by simpa [upd] using h'), fun h => hE (by simpa [upd] using h), fun h => hG (by simpa [upd] using h), fun h => by simp [upd] at h ⊢; exact q7 h, fun h => by simp [upd] at h ⊢; exact q8 h, fun h => by simp [upd] at h ⊢; exact q11 h, fun h => by simp [upd] at h ⊢; exact q4 h, ?_⟩
      simp [upd, Act.put]
    | 2, ho =>
      injection ho with ho
      subst ho
      refine ⟨rfl, ?_⟩
      simp [Region.binds] at hr
      have d1 : b 1 = true := by simp only [hr]
      simp only [hr, if_true]
      refine wp_value (.pointer (some ⟨p, 0, none⟩)) w1 (by kernel_rfl) ?_
      refine ⟨x, nb, v', fun h => hA (by simpa [upd] using h), fun h h' => hB (by simpa [upd] using h) (by simpa [upd] using h'), fun h h' => hC (by simpa [upd] using h) (by simpa [upd] using h'), fun h h' => hD (by simpa [upd] using h) (by simpa [upd] using h'), fun h => hE (by simpa [upd] using h), fun h => hG (by simpa [upd] using h), fun h => by simp [upd] at h ⊢; exact q7 h, fun h => by simp [upd] at h ⊢; exact q8 h, fun h => by simp [upd] at h ⊢; exact q11 h, fun h => by simp [upd] at h ⊢; exact q4 h, ?_⟩
      simp [upd, Act.put, hr]
    | 3, ho =>
      injection ho with ho
      subst ho
      refine ⟨rfl, ?_⟩
      simp [Region.binds] at hr
      have d2 : b 2 = true := by simp only [hr]
      simp only [hr, if_true]
      refine wp_value (.pointer (some ⟨p, 0, none⟩)) w1 (by kernel_rfl) ?_
      refine ⟨x, nb, v', fun h => hA (by simpa [upd] using h), fun h h' => hB (by simpa [upd] using h) (by simpa [upd] using h'), fun h h' => hC (by simpa [upd] using h) (by simpa [upd] using h'), fun h h' => hD (by simpa [upd] using h) (by simpa [upd] using h'), fun h => hE (by simpa [upd] using h), fun h => hG (by simpa [upd] using h), fun h => by simp [upd] at h ⊢; exact q7 h, fun h => by simp [upd] at h ⊢; exact q8 h, fun h => by simp [upd] at h ⊢; exact q11 h, fun h => by simp [upd] at h ⊢; exact q4 h, ?_⟩
      simp [upd, Act.put, hr]
    | 4, ho =>
      injection ho with ho
      subst ho
      refine ⟨rfl, ?_⟩
      simp [Region.binds] at hr
      have d3 : b 3 = true := by simp only [hr]
      simp only [hr, if_true]
      have n8 : b 8 = false := by
        rcases hbs : b 8 with _ | _
        · rfl
        · rw [q4 hbs] at hb
          cases hb
      have hp : w1.heap[p]? = some (.cells #[v] 63 (0, 0)) := by
        rcases h6 : b 6 with _ | _
        · rw [hA h6]; exact H.out.here
        · exact ((hB h6 n8).2.block p (heap_lt H.out.here) (fun x => x)).trans H.out.here
      have hc : w1.cell? ⟨p, 0, none⟩ = some v := by rw [cell_of_row w1 p 0 _ _ _ hp]; rfl
      refine wp_value v w1 (by unfold execOp; simp [Act.eval, Instr.loadAt, Instr.sureAddr, loadVar, isAgg, run_underlying Try.underlying55, hc, Sem.run_bind, Sem.run_pure, Result.andThen_ok]) ?_
      refine ⟨x, nb, v', fun h => hA (by simpa [upd] using h), fun h h' => hB (by simpa [upd] using h) (by simpa [upd] using h'), fun h h' => hC (by simpa [upd] using h) (by simpa [upd] using h'), fun h h' => hD (by simpa [upd] using h) (by simpa [upd] using h'), fun h => hE (by simpa [upd] using h), fun h => hG (by simpa [upd] using h), fun h => by simp [upd] at h ⊢; exact q7 h, fun h => by simp [upd] at h ⊢; exact q8 h, fun h => by simp [upd] at h ⊢; exact q11 h, fun h => by simp [upd], ?_⟩
      simp [upd, Act.put, hr]
    | 5, ho =>
      injection ho with ho
      subst ho
      refine ⟨rfl, ?_⟩
      refine wp_value (.slice A m c) w1 (by kernel_rfl) ?_
      refine ⟨x, nb, v', fun h => hA (by simpa [upd] using h), fun h h' => hB (by simpa [upd] using h) (by simpa [upd] using h'), fun h h' => hC (by simpa [upd] using h) (by simpa [upd] using h'), fun h h' => hD (by simpa [upd] using h) (by simpa [upd] using h'), fun h => hE (by simpa [upd] using h), fun h => hG (by simpa [upd] using h), fun h => by simp [upd] at h ⊢; exact q7 h, fun h => by simp [upd] at h ⊢; exact q8 h, fun h => by simp [upd] at h ⊢; exact q11 h, fun h => by simp [upd] at h ⊢; exact q4 h, ?_⟩
      simp [upd, Act.put]
    | 6, ho =>
      injection ho with ho
      subst ho
      refine ⟨rfl, ?_⟩
      simp [Region.binds] at hr
      have d5 : b 5 = true := by simp only [hr]
      simp only [hr, if_true]
      have n7 : b 7 = false := by
        rcases hbs : b 7 with _ | _
        · rfl
        · rw [q7 hbs] at hb
          cases hb
      have n8 : b 8 = false := by
        rcases hbs : b 8 with _ | _
        · rfl
        · rw [q8 hbs] at n7
          cases n7
      have n11 : b 11 = false := by
        rcases hbs : b 11 with _ | _
        · rfl
        · rw [q11 hbs] at n8
          cases n8
      have e1 := hA hb
      subst e1
      obtain ⟨x2, w2, hrun, ho2, hf2, hn2⟩ := run_app1 27 HS.out hm
      refine wp_value x2 w2 ?_ ?_
      · unfold execOp
        simp only [resolve, invoke, builtin, Sem.run_bind, Sem.run_pure, Result.andThen_ok, List.map_toArray, List.map_cons, List.map_nil]
        first | (show ((Builtin.append_ #[27, 27] 27 #[.slice none 0 0, .slice A m c]).run Try.prog w1).andThen _ = _; rw [hrun]; rfl) | (rw [hrun]; rfl)
      refine ⟨x2, nb, v', fun h => by simp [upd] at h, fun _ _ => ⟨ho2, hf2⟩, fun h => by simp [upd, n7] at h, fun h => by simp [upd, n8] at h, fun h => by simp [upd, n11] at h, fun _ => hn2, fun h => by simp [upd, n7] at h, fun h => by simp [upd, n8] at h, fun h => by simp [upd, n11] at h, fun h => by simp [upd, n8] at h, ?_⟩
      simp [upd, Act.put, hr, n7, n8, n11]
    | 7, ho =>
      injection ho with ho
      subst ho
      refine ⟨rfl, ?_⟩
      simp [Region.binds] at hr
      have d6 : b 6 = true := by simp only [hr]
      simp only [hr, if_true]
      have n8 : b 8 = false := by
        rcases hbs : b 8 with _ | _
        · rfl
        · rw [q8 hbs] at hb
          cases hb
      have n11 : b 11 = false := by
        rcases hbs : b 11 with _ | _
        · rfl
        · rw [q11 hbs] at n8
          cases n8
      obtain ⟨hO, hF⟩ := hB d6 n8
      have hxc : x.cells = #[x] := by
        obtain ⟨A2, n2, c2, e2, _⟩ := hO.shape
        rw [e2]
        rfl
      obtain ⟨i0, hi0, hz0, hz1, hz2⟩ := info_parts (show (Try.prog.info? 27).map (fun i => (i.zero, i.size, i.bytes)) = some (some (.slice none 0 0), 1, 24) by kernel_rfl)
      refine wp_buildSlice 55 27 1 #[(0, .tmp 11)] rfl #[x] i0 _ Try.underlying55 hi0 hz0 (by rw [hz1]; decide) (by rw [hz1]; decide) (by rw [hz1]; exact fillS rfl hxc) ?_
      refine ⟨x, w1.heap.size, v', fun h => by simp [upd, d6] at h, fun _ _ => ⟨hO.keep ((Fr.refl (fun _ => False) w1).alloc _) (fun _ _ x => x), hF.alloc _⟩, fun _ _ => ?_, fun h => by simp [upd, n8] at h, fun h => by simp [upd, n11] at h, fun _ => hG d6, fun _ => by simp [upd, d6], fun h => by simp [upd, n8] at h, fun h => by simp [upd, n11] at h, fun h => by simp [upd, n8] at h, ?_⟩
      · rw [cell_of_row _ w1.heap.size 0 _ _ _ (heap_alloc_new w1 (.cells #[x] 27))]
        rfl
      · simp [upd, Act.put, hr, n8, n11]
    | 8, ho =>
      injection ho with ho
      subst ho
      refine ⟨rfl, ?_⟩
      simp [Region.binds] at hr
      have d4 : b 4 = true := by simp only [hr]
      have d7 : b 7 = true := by simp only [hr]
      simp only [hr, if_true]
      have n11 : b 11 = false := by
        rcases hbs : b 11 with _ | _
        · rfl
        · rw [q11 hbs] at hb
          cases hb
      have d6 : b 6 = true := q7 d7
      obtain ⟨hO, hF⟩ := hB d6 hb
      have hcx := hC d7 hb
      have H1 := H.out.keep hF (fun _ _ x => x)
      obtain ⟨v2, w2, hrun, hp2, hR2, hF2, hn2⟩ := H1.push hO hcx 55 hn
      refine wp_value v2 w2 ?_ ?_
      · unfold execOp
        simp only [resolve, invoke, builtin, Sem.run_bind, Sem.run_pure, Result.andThen_ok, List.map_toArray, List.map_cons, List.map_nil]
        first | (show ((Builtin.append_ #[55, 55] 55 #[v, .slice (some ⟨nb, 0, none⟩) 1 1]).run Try.prog w1).andThen _ = _; rw [hrun]; rfl) | (rw [hrun]; rfl)
      refine ⟨x, nb, v2, fun h => by simp [upd, d6] at h, fun _ h => by simp [upd] at h, fun _ h => by simp [upd] at h, fun _ _ => ⟨hp2, hR2, (hF.any).trans hF2, fun k hk => (hn2 k hk).imp (fun e => e) (fun e => Nat.le_trans hF.size e), hG d6⟩, fun h => by simp [upd, n11] at h, fun _ => hG d6, fun _ => by simp [upd, d6], fun _ => by simp [upd, d7], fun h => by simp [upd, n11] at h, fun _ => by simp [upd, d4], ?_⟩
      simp [upd, Act.put, hr, n11]
    | 9, ho =>
      injection ho with ho
      subst ho
      refine ⟨rfl, ?_⟩
      simp [Region.binds] at hr
      have d0 : b 0 = true := by simp only [hr]
      simp only [hr, if_true]
      refine wp_value (.pointer (some ⟨p, 0, none⟩)) w1 (by kernel_rfl) ?_
      refine ⟨x, nb, v', fun h => hA (by simpa [upd] using h), fun h h' => hB (by simpa [upd] using h) (by simpa [upd] using h'), fun h h' => hC (by simpa [upd] using h) (by simpa [upd] using h'), fun h h' => hD (by simpa [upd] using h) (by simpa [upd] using h'), fun h => hE (by simpa [upd] using h), fun h => hG (by simpa [upd] using h), fun h => by simp [upd] at h ⊢; exact q7 h, fun h => by simp [upd] at h ⊢; exact q8 h, fun h => by simp [upd] at h ⊢; exact q11 h, fun h => by simp [upd] at h ⊢; exact q4 h, ?_⟩
      simp [upd, Act.put, hr]
    | 10, ho =>
      injection ho with ho
      subst ho
      refine ⟨rfl, ?_⟩
      simp [Region.binds] at hr
      have d9 : b 9 = true := by simp only [hr]
      simp only [hr, if_true]
      refine wp_value (.pointer (some ⟨p, 0, none⟩)) w1 (by kernel_rfl) ?_
      refine ⟨x, nb, v', fun h => hA (by simpa [upd] using h), fun h h' => hB (by simpa [upd] using h) (by simpa [upd] using h'), fun h h' => hC (by simpa [upd] using h) (by simpa [upd] using h'), fun h h' => hD (by simpa [upd] using h) (by simpa [upd] using h'), fun h => hE (by simpa [upd] using h), fun h => hG (by simpa [upd] using h), fun h => by simp [upd] at h ⊢; exact q7 h, fun h => by simp [upd] at h ⊢; exact q8 h, fun h => by simp [upd] at h ⊢; exact q11 h, fun h => by simp [upd] at h ⊢; exact q4 h, ?_⟩
      simp [upd, Act.put, hr]
    | 11, ho =>
      injection ho with ho
      subst ho
      refine ⟨rfl, ?_⟩
      simp [Region.binds] at hr
      have d8 : b 8 = true := by simp only [hr]
      have d10 : b 10 = true := by simp only [hr]
      simp only [hr, if_true]
      obtain ⟨g1, g2, g3, g4, g5⟩ := hD d8 hb
      have hcp : w1.cell? ⟨p, 0, none⟩ = some v := by rw [cell_of_row w1 p 0 _ _ _ g1]; rfl
      have hfp : w1.frozen? ⟨p, 0, none⟩ = false := frozen_of_row w1 p 0 _ _ g1
      have hone : v'.oneCell' = true := by
        obtain ⟨A2, c2, e2, _⟩ := g2.shape
        rw [e2]
        rfl
      obtain ⟨i55, hi55, _, hs55, _⟩ := info_parts (show (Try.prog.info? 55).map (fun i => (i.zero, i.size, i.bytes)) = some (some (.slice none 0 0), 1, 24) by kernel_rfl)
      obtain ⟨A2, c2, e2, _⟩ := g2.shape
      have hst : (storeVar 55 ⟨p, 0, none⟩ v').run Try.prog w1 = .ok () (w1.setCell ⟨p, 0, none⟩ v') := by
        rw [e2]
        simp [storeVar, sizeOf, typeInfo, hi55, hs55, Value.cells, storeCells, Addr.add]
        rw [run_store Try.prog w1 _ _ _ rfl]
        simp [hcp, hfp]
      refine wp_store_one 55 (.tmp 15) (.tmp 13) rfl p rfl v' rfl hst ?_
      refine ⟨x, nb, v', fun h => by simp [upd, q7 (q8 d8)] at h, fun _ h => by simp [upd, d8] at h, fun _ h => by simp [upd, d8] at h, fun _ h => by simp [upd] at h, fun _ => ⟨g2, g3, g4, g5⟩, fun _ => g5, fun _ => by simp [upd, q7 (q8 d8)], fun _ => by simp [upd, q8 d8], fun _ => by simp [upd, d8], fun _ => by simp [upd, q4 d8], ?_⟩
      simp [upd, Act.put, hr]
    | j + 12, ho => exact absurd ho (by simp)
  intro b a W11 hall hI
  obtain ⟨x, nb, v', hA, hB, hC, hD, hE, hG, q7, q8, q11, q4, rfl⟩ := hI
  obtain ⟨r1, r2, r3, r4⟩ := hE (hall 11 (by simp))
  have R9 := Lib.hid r1
  have F9 := Lib.hid (F0.out.any.trans r2)
  have N9 : Hid (∀ k, v'.ownBlock = some k → v.ownBlock = some k ∨ w.heap.size ≤ k) := Lib.hid (fun k hk => by rw [← hsz]; exact r3 k hk)
  have X9 : Hid (∀ k, x.ownBlock = some k → w.heap.size ≤ k) := Lib.hid (fun k hk => by rw [← hsz]; exact r4 k hk)
  have t0 : b 0 = true := hall 0 (by simp)
  have t1 : b 1 = true := hall 1 (by simp)
  have t2 : b 2 = true := hall 2 (by simp)
  have t3 : b 3 = true := hall 3 (by simp)
  have t4 : b 4 = true := hall 4 (by simp)
  have t5 : b 5 = true := hall 5 (by simp)
  have t6 : b 6 = true := hall 6 (by simp)
  have t7 : b 7 = true := hall 7 (by simp)
  have t8 : b 8 = true := hall 8 (by simp)
  have t9 : b 9 = true := hall 9 (by simp)
  have t10 : b 10 = true := hall 10 (by simp)
  have t11 : b 11 = true := hall 11 (by simp)
  simp only [t0, t1, t2, t3, t4, t5, t6, t7, t8, t9, t10, t11, if_true]
  clear hA hB hC hD hE hG q7 q8 q11 q4 r1 r2 r3 r4 hall t0 t1 t2 t3 t4 t5 t6 t7 t8 t9 t10 t11
  go_wp2
  go_ret
  exact ⟨v', x, rfl, R9.out, F9.out, N9.out, X9.out⟩
end Go.Proofs.Ytkkicekhkidhjaa
