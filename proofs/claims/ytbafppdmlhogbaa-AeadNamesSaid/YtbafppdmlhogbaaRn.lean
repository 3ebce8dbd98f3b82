/- The reference's number and places: contracts. Conditions: bytes, the place within them. -/
import Derived.Test.YtbafppdmlhogbaaBl
namespace Go.Proofs.Ytbafppdmlhogbaa
set_option linter.unusedSimpArgs false
set_option linter.unusedVariables false
open Go.RowKit


set_option maxHeartbeats 2000000 in
theorem rnumber_is (g m i : Nat) (t : TypeId) (l : List Int) (w : World) (h : Ar w g t .u8 l) (hl : l.length = m) (bl : Bys l) (hi : i + 3 < m) (hm : m ≤ 64) :
    Calls Try.prog 53 #[.slice (some ⟨g, 0, none⟩) m m, .int .i64 i] w fun e w' => e = .returned (.int .u32 (nb (l.getD i 0) (l.getD (i + 1) 0) (l.getD (i + 2) 0) (l.getD (i + 3) 0))) ∧ Fr (fun _ => False) w w' := by
  obtain ⟨b0, hb0⟩ : ∃ b, b = l.getD i 0 := ⟨_, rfl⟩
  obtain ⟨b1, hb1⟩ : ∃ b, b = l.getD (i + 1) 0 := ⟨_, rfl⟩
  obtain ⟨b2, hb2⟩ : ∃ b, b = l.getD (i + 2) 0 := ⟨_, rfl⟩
  obtain ⟨b3, hb3⟩ : ∃ b, b = l.getD (i + 3) 0 := ⟨_, rfl⟩
  have g0 := getD_some (l := l) (i := i) (by omega)
  have g1 := getD_some (l := l) (i := i + 1) (by omega)
  have g2 := getD_some (l := l) (i := i + 2) (by omega)
  have g3 := getD_some (l := l) (i := i + 3) (by omega)
  rw [← hb0] at g0
  rw [← hb1] at g1
  rw [← hb2] at g2
  rw [← hb3] at g3
  rw [← hb0, ← hb1, ← hb2, ← hb3]
  have y0 := bl b0 (List.mem_of_getElem? g0)
  have y1 := bl b1 (List.mem_of_getElem? g1)
  have y2 := bl b2 (List.mem_of_getElem? g2)
  have y3 := bl b3 (List.mem_of_getElem? g3)
  have k0 := Ar.cell h g0
  have k1 := Ar.cell h g1
  have k2 := Ar.cell h g2
  have k3 := Ar.cell h g3
  have w0 : IntKind.u32.wrap b0 = b0 := by rw [wrap32]; omega
  have w1 : IntKind.u32.wrap b1 = b1 := by rw [wrap32]; omega
  have w2 : IntKind.u32.wrap b2 = b2 := by rw [wrap32]; omega
  have w3 : IntKind.u32.wrap b3 = b3 := by rw [wrap32]; omega
  have v1 : IntKind.u32.wrap (b1 * 256) = b1 * 256 := by rw [wrap32]; omega
  have v2 : IntKind.u32.wrap (b2 * 65536) = b2 * 65536 := by rw [wrap32]; omega
  have v3 : IntKind.u32.wrap (b3 * 16777216) = b3 * 16777216 := by rw [wrap32]; omega
  have u1 : IntKind.u32.wrap (b0 + b1 * 256) = b0 + b1 * 256 := by rw [wrap32]; omega
  have u2 : IntKind.u32.wrap (b0 + b1 * 256 + b2 * 65536) = b0 + b1 * 256 + b2 * 65536 := by rw [wrap32]; omega
  have u3 : IntKind.u32.wrap (b0 + b1 * 256 + b2 * 65536 + b3 * 16777216) = nb b0 b1 b2 b3 := by rw [wrap32]; unfold nb; omega
  have x1 : IntKind.i64.wrap ((i : Int) + 1) = i + 1 := by rw [IntKind.wrap_i64]; omega
  have x2 : IntKind.i64.wrap ((i : Int) + 2) = i + 2 := by rw [IntKind.wrap_i64]; omega
  have x3 : IntKind.i64.wrap ((i : Int) + 3) = i + 3 := by rw [IntKind.wrap_i64]; omega
  have t1 : ((i : Int) + 1).toNat = i + 1 := by omega
  have t2 : ((i : Int) + 2).toNat = i + 2 := by omega
  have t3 : ((i : Int) + 3).toNat = i + 3 := by omega
  have s0 : (i : Int) < m := by omega
  have s1 : (i : Int) + 1 < m := by omega
  have s2 : (i : Int) + 2 < m := by omega
  have s3 : (i : Int) + 3 < m := by omega
  have r1 : (0 : Int) ≤ (i : Int) + 1 := by omega
  have r2 : (0 : Int) ≤ (i : Int) + 2 := by omega
  have r3 : (0 : Int) ≤ (i : Int) + 3 := by omega
  clear h g0 g1 g2 g3 hb0 hb1 hb2 hb3 bl hl hm hi y0 y1 y2 y3
  go_enter Try.func53, Try.ntmps53
  go_wp2
  go_quiet (fail)
  go_wp2
  go_ret
  exact ⟨rfl, (Fr.refl _ _).drewN _⟩

def flatP : List Int := [0, 4, 8, 12, 1, 5, 9, 13, 2, 6, 10, 14, 3, 7, 11, 15, 0, 5, 10, 15, 1, 6, 11, 12, 2, 7, 8, 13, 3, 4, 9, 14]
theorem size57 : (Try.prog.info? 87).map (·.size) = some 32 := by kernel_rfl
theorem size56 : (Try.prog.info? 86).map (·.size) = some 4 := by kernel_rfl
set_option maxRecDepth 100000 in
set_option maxHeartbeats 4000000 in
theorem places_is (w : World) : Calls Try.prog 54 #[] w fun e w' => e = .returned (.agg (vs .i64 flatP)) ∧ Fr (fun _ => False) w w' := by
  obtain ⟨Z, hZ⟩ : ∃ Z, Z = List.replicate 32 (0 : Int) := ⟨_, rfl⟩
  have hz : ∀ W : World, (zeroValue 87).run Try.prog W = .ok (.agg (vs .i64 Z)) W := fun W => by rw [hZ]; kernel_rfl
  have lZ : Hid ((vs .i64 Z).size = (vs .i64 flatP).size) := by show _ = _; rw [hZ]; rfl
  clear hZ
  go_enter Try.func54, Try.ntmps54
  go_upto_region 1 with (fail)
  generalize hW : w.alloc (.cells (vs .i64 Z) 87) = W0
  have HW := Lib.hid (calm1a hW)
  clear hW
  refine wp_region_head (C := Calm W0) 9 (Fr.refl _ _) ?_
  simp only [List.take_succ_cons, List.take_zero, List.drop_succ_cons, List.drop_zero]
  refine BigFrame.wpQuiet_want rfl fun K hK => quiet_run (.agg (vs .i64 [0, 4, 8, 12])) (fun _ _ => by kernel_rfl) (hK _ ?_)
  refine BigFrame.wpQuiet_want rfl fun K hK => quiet_run (.agg (vs .i64 [1, 5, 9, 13])) (fun _ _ => by kernel_rfl) (hK _ ?_)
  refine BigFrame.wpQuiet_want rfl fun K hK => quiet_run (.agg (vs .i64 [2, 6, 10, 14])) (fun _ _ => by kernel_rfl) (hK _ ?_)
  refine BigFrame.wpQuiet_want rfl fun K hK => quiet_run (.agg (vs .i64 [3, 7, 11, 15])) (fun _ _ => by kernel_rfl) (hK _ ?_)
  refine BigFrame.wpQuiet_want rfl fun K hK => quiet_run (.agg (vs .i64 [0, 5, 10, 15])) (fun _ _ => by kernel_rfl) (hK _ ?_)
  refine BigFrame.wpQuiet_want rfl fun K hK => quiet_run (.agg (vs .i64 [1, 6, 11, 12])) (fun _ _ => by kernel_rfl) (hK _ ?_)
  refine BigFrame.wpQuiet_want rfl fun K hK => quiet_run (.agg (vs .i64 [2, 7, 8, 13])) (fun _ _ => by kernel_rfl) (hK _ ?_)
  refine BigFrame.wpQuiet_want rfl fun K hK => quiet_run (.agg (vs .i64 [3, 4, 9, 14])) (fun _ _ => by kernel_rfl) (hK _ ?_)
  refine BigFrame.wpQuiet_want rfl fun K hK => quiet_run (.agg (vs .i64 flatP)) (fun _ _ => by kernel_rfl) (hK _ ?_)
  refine wpQuiet_nil ?_
  intro w9 hw9
  have X9 := Lib.hid (Calm.at HW.out.1 hw9)
  have F9 : Hid (Fr (fun _ => False) w w9) := HW.out.2.trans hw9
  clear hw9 HW
  simp only [Act.put, List.setIfInBounds_toArray, List.set_cons_succ, List.set_cons_zero]
  refine wpList_store_row rfl 87 (.tmp 0) (.tmp 9) rfl w.heap.size (vs .i64 flatP) rfl rfl 87 _ X9.out (by rw [size57]; rfl) lZ.out (vs_all _ _) ?_
  generalize hP : vs .i64 flatP = P at *
  go_wp2
  refine bodyPost_ret (results_cell_row Try.results54 _ _ _ 87 _ (0, 0) _ rfl (setRow_heap _ _ _ _ _ _ X9.out) Try.underlying87 rfl (by rw [← hP, size57]; rfl)) rfl ⟨by rw [← hP], F9.out.setRow _ (.inr (by omega))⟩
end Go.Proofs.Ytbafppdmlhogbaa

/- The places of the quarter rounds, one behind the other: lemmas alone. -/
namespace Go.Proofs.Ytbafppdmlhogbaa
set_option linter.unusedSimpArgs false
set_option linter.unusedVariables false
open Go.RowKit

/-- The first places' quarter rounds. -/
def pk (m : Nat) (t : List Int) : List Int := (places.take m).foldl qal t
theorem pk_succ (t : List Int) (m : Nat) (h : m < 8) : pk (m + 1) t = qal (pk m t) (places.getD m []) := by
  have h2 : m < places.length := h
  unfold pk
  rw [List.take_succ_eq_append_getElem h2, List.foldl_append, List.getD_eq_getElem?_getD, List.getElem?_eq_getElem h2]
  rfl
theorem pk_eight (t : List Int) : pk 8 t = rds t := rfl
theorem pk_ok {t : List Int} (hl : t.length = 16) (hw : Wds t) (m : Nat) : (pk m t).length = 16 ∧ Wds (pk m t) := by
  have key : ∀ (ps : List (List Nat)) (s : List Int), (∀ p ∈ ps, ∀ x ∈ p, x < 16) → s.length = 16 → Wds s → (ps.foldl qal s).length = 16 ∧ Wds (ps.foldl qal s) := by
    intro ps
    induction ps with
    | nil => intro s _ h1 h2; exact ⟨h1, h2⟩
    | cons p r ih =>
      intro s hp h1 h2
      have hb : ∀ i, p.getD i 0 < 16 := fun i => by
        rw [List.getD_eq_getElem?_getD]
        rcases h : p[i]? with _ | x
        · simp
        · exact hp p (by simp) x (List.mem_of_getElem? h)
      exact ih _ (fun q hq => hp q (by simp [hq])) (by rw [qal, qat_length, h1]) (qat_wds h2 (by rw [h1]; exact hb 0) (by rw [h1]; exact hb 1) (by rw [h1]; exact hb 2) (by rw [h1]; exact hb 3))
  have all : ∀ p ∈ places, ∀ x ∈ p, x < 16 := by decide
  exact key _ t (fun p hp => all p (List.mem_of_mem_take hp)) hl hw
theorem flat_at : ∀ m, m < 8 → ∃ p0 p1 p2 p3 : Nat, places.getD m [] = [p0, p1, p2, p3] ∧ p0 < 16 ∧ p1 < 16 ∧ p2 < 16 ∧ p3 < 16 ∧ (flatP.drop (4 * m)).take 4 = [(p0 : Int), (p1 : Int), (p2 : Int), (p3 : Int)] := by
  intro m hm
  match m, hm with
  | 0, _ => exact ⟨0, 4, 8, 12, rfl, by decide, by decide, by decide, by decide, rfl⟩
  | 1, _ => exact ⟨1, 5, 9, 13, rfl, by decide, by decide, by decide, by decide, rfl⟩
  | 2, _ => exact ⟨2, 6, 10, 14, rfl, by decide, by decide, by decide, by decide, rfl⟩
  | 3, _ => exact ⟨3, 7, 11, 15, rfl, by decide, by decide, by decide, by decide, rfl⟩
  | 4, _ => exact ⟨0, 5, 10, 15, rfl, by decide, by decide, by decide, by decide, rfl⟩
  | 5, _ => exact ⟨1, 6, 11, 12, rfl, by decide, by decide, by decide, by decide, rfl⟩
  | 6, _ => exact ⟨2, 7, 8, 13, rfl, by decide, by decide, by decide, by decide, rfl⟩
  | 7, _ => exact ⟨3, 4, 9, 14, rfl, by decide, by decide, by decide, by decide, rfl⟩
theorem flat_range {W : World} {tq : Nat} {FP : List Int} {m p0 p1 p2 p3 : Nat} (h : Ar W tq 87 .i64 FP) (hf : (FP.drop (4 * m)).take 4 = [(p0 : Int), (p1 : Int), (p2 : Int), (p3 : Int)]) :
    W.rangeAt tq (4 * m) [.int .i64 p0, .int .i64 p1, .int .i64 p2, .int .i64 p3] := fun j v hj => by
  have e : [Value.int .i64 p0, .int .i64 p1, .int .i64 p2, .int .i64 p3] = ((FP.drop (4 * m)).take 4).map (Value.int .i64) := by rw [hf]; rfl
  rw [e, List.getElem?_map] at hj
  obtain ⟨x, hx, rfl⟩ := Option.map_eq_some_iff.1 hj
  rw [List.getElem?_take] at hx
  split at hx
  · rw [List.getElem?_drop] at hx
    exact h.cell hx
  · cases hx
/-- The first of four words laid at their places. -/
def ps (s : List Int) (pl : List Nat) (ql : List Int) : Nat → List Int
  | 0 => s
  | i + 1 => (ps s pl ql i).set (pl.getD i 0) (ql.getD i 0)
theorem ps_length (s : List Int) (pl : List Nat) (ql : List Int) (i : Nat) : (ps s pl ql i).length = s.length := by
  induction i with
  | zero => rfl
  | succ i ih => simp [ps, ih]
theorem ps_four {s : List Int} {p0 p1 p2 p3 : Nat} {x0 x1 x2 x3 z0 z1 z2 z3 : Int} (h0 : s.getD p0 0 = x0) (h1 : s.getD p1 0 = x1) (h2 : s.getD p2 0 = x2) (h3 : s.getD p3 0 = x3) (hq : qf x0 x1 x2 x3 = (z0, z1, z2, z3)) :
    ps s [p0, p1, p2, p3] [z0, z1, z2, z3] 4 = qat s p0 p1 p2 p3 := (qat_eq h0 h1 h2 h3 hq).symm
theorem get_nat {l : List Nat} {i : Nat} (h : i < l.length) : l[i]? = some (l.getD i 0) := by
  rw [List.getD_eq_getElem?_getD, List.getElem?_eq_getElem h]
  rfl
theorem cast4 {p0 p1 p2 p3 i : Nat} (h : i < 4) : ([(p0 : Int), p1, p2, p3])[i]? = some (([p0, p1, p2, p3].getD i 0 : Nat) : Int) := by
  match i, h with
  | 0, _ => rfl
  | 1, _ => rfl
  | 2, _ => rfl
  | 3, _ => rfl
theorem lt4 {p0 p1 p2 p3 i : Nat} (h : i < 4) (b : p0 < 16 ∧ p1 < 16 ∧ p2 < 16 ∧ p3 < 16) : [p0, p1, p2, p3].getD i 0 < 16 := by
  match i, h with
  | 0, _ => exact b.1
  | 1, _ => exact b.2.1
  | 2, _ => exact b.2.2.1
  | 3, _ => exact b.2.2.2
end Go.Proofs.Ytbafppdmlhogbaa
