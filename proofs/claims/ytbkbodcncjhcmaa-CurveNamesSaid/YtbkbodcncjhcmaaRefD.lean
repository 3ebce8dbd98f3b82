/- The reference's Add, Sub: contracts. Their condition: digits. -/
import Derived.Test.YtbkbodcncjhcmaaCalm
namespace Go.Proofs.Ytbkbodcncjhcmaa
open Go.RowKit

theorem alloc4 (w : World) (A B C D : Obj) : ((((w.alloc A).alloc B).alloc C).alloc D).heap[w.heap.size]? = some A ∧ ((((w.alloc A).alloc B).alloc C).alloc D).heap[w.heap.size + 1]? = some B ∧
    ((((w.alloc A).alloc B).alloc C).alloc D).heap[w.heap.size + 1 + 1]? = some C ∧ ((((w.alloc A).alloc B).alloc C).alloc D).heap[w.heap.size + 1 + 1 + 1]? = some D := by
  have s3 : (((w.alloc A).alloc B).alloc C).heap.size = w.heap.size + 1 + 1 + 1 := by simp
  obtain ⟨e1, e2, e3⟩ := alloc3 w A B C
  have e4 := heap_alloc_new (((w.alloc A).alloc B).alloc C) D
  rw [s3] at e4
  refine ⟨?_, ?_, ?_, e4⟩
  · exact (Below.heap_alloc _ D _ (by rw [s3]; omega)).trans e1
  · exact (Below.heap_alloc _ D _ (by rw [s3]; omega)).trans e2
  · exact (Below.heap_alloc _ D _ (by rw [s3]; omega)).trans e3

/-- Two lists, place by place. -/
def zw (f : Int → Int → Int) (y z : List Int) : List Int := List.zipWith f y z
theorem zw_length (f : Int → Int → Int) (y z : List Int) (h : y.length = z.length) : (zw f y z).length = y.length := by simp [zw, h]
theorem zw_get (f : Int → Int → Int) (y z : List Int) (k : Nat) (hy : k < y.length) (hz : k < z.length) : (zw f y z)[k]? = some (f (y.getD k 0) (z.getD k 0)) := by
  unfold zw
  rw [List.getElem?_zipWith, getD_some hy, getD_some hz]
theorem zw_add (y z : List Int) (h : y.length = z.length) : vd (zw (· + ·) y z) = vd y + vd z := by
  induction y generalizing z with
  | nil => cases z with
    | nil => rfl
    | cons b r => simp at h
  | cons a r ih => cases z with
    | nil => simp at h
    | cons b s =>
      have := ih s (by simpa using h)
      simp only [zw, List.zipWith_cons_cons, vd] at *
      omega
theorem zw_sub (y z : List Int) (h : y.length = z.length) : vd (zw (fun a b => a - b + 65535) y z) = vd y - vd z + vd (List.replicate y.length 65535) := by
  induction y generalizing z with
  | nil => cases z with
    | nil => rfl
    | cons b r => simp at h
  | cons a r ih => cases z with
    | nil => simp at h
    | cons b s =>
      have := ih s (by simpa using h)
      simp only [zw, List.zipWith_cons_cons, vd, List.length_cons, List.replicate_succ] at *
      omega
theorem zw_bnd (f : Int → Int → Int) (B : Int) (y z : List Int) (hy : Digs y) (hz : Digs z) (hf : ∀ a b, 0 ≤ a → a ≤ 65535 → 0 ≤ b → b ≤ 65535 → -B ≤ f a b ∧ f a b ≤ B) : Bnd B (zw f y z) := by
  intro x hx
  obtain ⟨k, hk, e⟩ := List.mem_iff_getElem.1 hx
  have hk2 : k < y.length ∧ k < z.length := by
    simp only [zw, List.length_zipWith] at hk
    omega
  have g := zw_get f y z k hk2.1 hk2.2
  rw [List.getElem?_eq_getElem hk, e] at g
  injection g with g
  have h1 := hy _ (List.mem_of_getElem? (getD_some hk2.1))
  have h2 := hz _ (List.mem_of_getElem? (getD_some hk2.2))
  rw [g]
  exact hf _ _ h1.1 h1.2 h2.1 h2.2

/-- What Add makes of two lists of digits. -/
def radd (y z : List Int) : List Int := crd (zw (· + ·) y z)
theorem radd_ok {y z : List Int} {u v : Int} (hy : NumOf y u) (hz : NumOf z v) : NumOf (radd y z) ((u + v) % pp) := by
  have h := crd_ok (zw (· + ·) y z) (by rw [zw_length _ _ _ (by rw [hy.len, hz.len]), hy.len]) (zw_bnd _ _ y z hy.digs hz.digs (fun a b h1 h2 h3 h4 => by omega))
  rw [zw_add y z (by rw [hy.len, hz.len])] at h
  rw [← hy.val, ← hz.val, ← Int.add_emod]
  exact h

set_option maxHeartbeats 2000000 in
theorem radd_is (y z : List Int) (w : World) (hy : y.length = 16 ∧ Digs y) (hz : z.length = 16 ∧ Digs z) :
    Calls Try.prog 42 #[nm y, nm z] w fun e w' => e = .returned (nm (radd y z)) ∧ Fr (fun _ => False) w w' := by
  obtain ⟨D, hD⟩ : ∃ D, D = zw (· + ·) y z := ⟨_, rfl⟩
  have hlen : Hid (D.length = 16) := by show _ = _; rw [hD, zw_length _ _ _ (by rw [hy.1, hz.1]), hy.1]
  have HL : Hid (D = zw (· + ·) y z ∧ (y.length = 16 ∧ Digs y) ∧ (z.length = 16 ∧ Digs z)) := ⟨hD, hy, hz⟩
  have hz0 : Hid (vs .i64 (fil D 0 0) = #[.int .i64 0, .int .i64 0, .int .i64 0, .int .i64 0, .int .i64 0, .int .i64 0, .int .i64 0, .int .i64 0, .int .i64 0, .int .i64 0, .int .i64 0, .int .i64 0, .int .i64 0, .int .i64 0, .int .i64 0, .int .i64 0]) := by
    show _ = _
    rw [fil_zero, hlen.out]
    rfl
  have C : ∀ W, Calls Try.prog 47 #[.agg (vs .i64 D)] W fun e w' => e = .returned (.agg (vs .i64 (crd D))) ∧ Fr (fun _ => False) W w' := fun W =>
    carried_is D W hlen.out (by rw [hD]; exact zw_bnd _ _ y z hy.2 hz.2 (fun a b h1 h2 h3 h4 => by omega))
  have HC : Hid ((crd D).length = 16 ∧ crd D = radd y z) := ⟨(crd_ok D hlen.out (by rw [hD]; exact zw_bnd _ _ y z hy.2 hz.2 (fun a b h1 h2 h3 h4 => by omega))).len, by rw [hD]; rfl⟩
  clear hD hy hz
  unfold nm
  go_enter Try.func42, Try.ntmps42
  go_wp2
  go_loopw [6] (fun u6 wr => ∃ k : Nat, u6 = .int .i64 k ∧ k ≤ 16 ∧ Hid (Ar wr w.heap.size 49 .i64 y) ∧ Hid (Ar wr (w.heap.size + 1) 49 .i64 z) ∧ Hid (Ar wr (w.heap.size + 1 + 1) 49 .i64 (fil D 0 0)) ∧ Hid (Ar wr (w.heap.size + 1 + 1 + 1) 48 .i64 (fil D k 0)) ∧ Hid (Fr (fun _ => False) w wr))
    (fun u6 _ => 16 - (intOf u6).toNat)
  case atStart =>
    have e := alloc4 w (.cells (vs .i64 y) 49) (.cells (vs .i64 z) 49) (.cells (vs .i64 (fil D 0 0)) 49) (.cells (vs .i64 (fil D 0 0)) 48)
    rw [hz0.out] at e
    exact ⟨0, rfl, by omega, e.1, e.2.1, by show _ = _; rw [hz0.out]; exact e.2.2.1, by show _ = _; rw [hz0.out]; exact e.2.2.2, ((((Fr.refl _ _).alloc _).alloc _).alloc _).alloc _⟩
  case round =>
    obtain ⟨k, rfl, hk, hA, hB, hR, hX, hF⟩ := hrel
    by_cases hlt : k < 16
    · obtain ⟨hD, hy, hz⟩ := HL.out
      obtain ⟨a, ha⟩ : ∃ a, a = y.getD k 0 := ⟨_, rfl⟩
      obtain ⟨b, hbb⟩ : ∃ b, b = z.getD k 0 := ⟨_, rfl⟩
      have ga := getD_some (l := y) (i := k) (by omega)
      have gb := getD_some (l := z) (i := k) (by omega)
      have gd : Hid (D[k]? = some (a + b)) := by show _ = _; rw [hD, zw_get _ _ _ _ (by omega) (by omega), ha, hbb]
      rw [← ha] at ga
      rw [← hbb] at gb
      have la := hy.2 a (List.mem_of_getElem? ga)
      have lb := hz.2 b (List.mem_of_getElem? gb)
      have ca := hA.out.cell ga
      have cb := hB.out.cell gb
      have cd := hX.out.cell (fil_get D k 0 (by rw [hlen.out]; exact hlt))
      have hfz := hX.out.frozen k
      have a0 := la.1
      have a1 := la.2
      have b0 := lb.1
      have b1 := lb.2
      clear ha hbb ga gb la lb hD hy hz
      go_wp2
      go_region
      go_wp2
      go_roundw
      case rel =>
        refine ⟨k + 1, by go_num, by omega, (hA.out.far (by simp <;> omega) _).drew, (hB.out.far (by simp <;> omega) _).drew, (hR.out.far (by simp <;> omega) _).drew, ?_, (Fr.setCell hF.out _ (.inr (by simp <;> omega))).drew⟩
        show Ar _ _ _ _ _
        rw [← fil_set D k 0 _ gd.out]
        exact (hX.out.set k _).drew
      case measure => simp [intOf]; omega
    · obtain rfl : k = 16 := by omega
      have hX' : Hid (Ar wr (w.heap.size + 1 + 1 + 1) 48 .i64 D) := by
        have := hX.out
        have e := fil_all D (0 : Int)
        rw [hlen.out] at e
        rwa [e] at this
      have HS0 : Hid ((Try.prog.info? 48).map (·.size) = some (vs .i64 D).size) := by show _ = _; rw [size30, vs_size, hlen.out]
      have HS1 : Hid ((Try.prog.info? 49).map (·.size) = some (vs .i64 (crd D)).size) := by show _ = _; rw [size31, vs_size, HC.out.1]
      have HS2 : Hid ((vs .i64 (fil D 0 0)).size = (vs .i64 (crd D)).size) := by show _ = _; rw [vs_size, vs_size, HC.out.1, fil_length D 0 0 (Nat.zero_le _), hlen.out]
      go_wp2_with (refine wpList_load_row rfl 48 (.tmp 5) rfl (w.heap.size + 1 + 1 + 1) rfl 48 (vs .i64 D) (0, 0) _ hX'.out Try.underlying48 rfl HS0.out ?_)
      refine (C _).mono ?_
      rintro e w1 ⟨rfl, hf⟩
      have R1 : Hid (Ar w1 (w.heap.size + 1 + 1) 49 .i64 (fil D 0 0)) := hR.out.fr hf (fun x => x)
      have F1 : Hid (Fr (fun _ => False) w w1) := hF.out.trans hf
      clear hf
      go_wp2_with (refine wpList_store_row rfl 49 (.tmp 4) (.tmp 21) rfl (w.heap.size + 1 + 1) (vs .i64 (crd D)) rfl rfl 49 _ R1.out HS1.out HS2.out (vs_all _ _) ?_)
      exact bodyPost_ret (results_cell_row Try.results42 _ _ _ 49 _ (0, 0) _ rfl (R1.out.row _) Try.underlying49 rfl HS1.out) rfl ⟨congrArg (fun q => Ending.returned (nm q)) HC.out.2, Fr.setRow F1.out _ (.inr (by omega))⟩

/-- What Sub makes of two lists of digits. -/
def dsub (y z : List Int) : List Int := (zw (fun a b => a - b + 65535) y z).set 0 ((zw (fun a b => a - b + 65535) y z).getD 0 0 - 37)
def rsub (y z : List Int) : List Int := crd (dsub y z)
theorem dsub_bnd (y z : List Int) (hy : y.length = 16 ∧ Digs y) (hz : z.length = 16 ∧ Digs z) : (dsub y z).length = 16 ∧ Bnd 1152921504606846976 (dsub y z) := by
  have hl := zw_length (fun a b => a - b + 65535) y z (by rw [hy.1, hz.1])
  have hb := zw_bnd (fun a b => a - b + 65535) 131072 y z hy.2 hz.2 (fun a b h1 h2 h3 h4 => by omega)
  refine ⟨by unfold dsub; rw [List.length_set, hl, hy.1], ?_⟩
  intro x hx
  unfold dsub at hx
  rcases List.mem_or_eq_of_mem_set hx with hx | rfl
  · have := hb x hx; omega
  · have := hb _ (List.mem_of_getElem? (getD_some (l := zw (fun a b => a - b + 65535) y z) (i := 0) (by omega)))
    omega
theorem rsub_ok {y z : List Int} {u v : Int} (hy : NumOf y u) (hz : NumOf z v) : NumOf (rsub y z) ((u - v) % pp) := by
  have hb := dsub_bnd y z ⟨hy.len, hy.digs⟩ ⟨hz.len, hz.digs⟩
  have h := crd_ok (dsub y z) hb.1 hb.2
  have hl := zw_length (fun a b => a - b + 65535) y z (by rw [hy.len, hz.len])
  have e : vd (dsub y z) = vd y - vd z + pp * 2 := by
    unfold dsub
    rw [set0 _ _ (by rw [hl, hy.len]; omega), zw_sub y z (by rw [hy.len, hz.len]), hy.len]
    have : vd (List.replicate 16 65535) = pw - 1 := by decide
    rw [this]
    unfold pw pp
    omega
  rw [e, Int.add_mul_emod_self_left] at h
  rw [← hy.val, ← hz.val, ← Int.sub_emod]
  exact h

set_option maxHeartbeats 2000000 in
theorem rsub_is (y z : List Int) (w : World) (hy : y.length = 16 ∧ Digs y) (hz : z.length = 16 ∧ Digs z) :
    Calls Try.prog 43 #[nm y, nm z] w fun e w' => e = .returned (nm (rsub y z)) ∧ Fr (fun _ => False) w w' := by
  obtain ⟨D, hD⟩ : ∃ D, D = zw (fun a b => a - b + 65535) y z := ⟨_, rfl⟩
  have hlen : Hid (D.length = 16) := by show _ = _; rw [hD, zw_length _ _ _ (by rw [hy.1, hz.1]), hy.1]
  have HL : Hid (D = zw (fun a b => a - b + 65535) y z ∧ (y.length = 16 ∧ Digs y) ∧ (z.length = 16 ∧ Digs z)) := ⟨hD, hy, hz⟩
  have hz0 : Hid (vs .i64 (fil D 0 0) = #[.int .i64 0, .int .i64 0, .int .i64 0, .int .i64 0, .int .i64 0, .int .i64 0, .int .i64 0, .int .i64 0, .int .i64 0, .int .i64 0, .int .i64 0, .int .i64 0, .int .i64 0, .int .i64 0, .int .i64 0, .int .i64 0]) := by
    show _ = _
    rw [fil_zero, hlen.out]
    rfl
  obtain ⟨E, hE⟩ : ∃ E, E = dsub y z := ⟨_, rfl⟩
  have hb := dsub_bnd y z hy hz
  rw [← hE] at hb
  have C : ∀ W, Calls Try.prog 47 #[.agg (vs .i64 E)] W fun e w' => e = .returned (.agg (vs .i64 (crd E))) ∧ Fr (fun _ => False) W w' := fun W =>
    carried_is E W hb.1 hb.2
  have HC : Hid ((crd E).length = 16 ∧ crd E = rsub y z ∧ E.length = 16 ∧ E = D.set 0 (D.getD 0 0 - 37)) := ⟨(crd_ok E hb.1 hb.2).len, by rw [hE]; rfl, hb.1, by rw [hE, hD]; rfl⟩
  clear hD hy hz hE hb
  unfold nm
  go_enter Try.func43, Try.ntmps43
  go_wp2
  go_loopw [6] (fun u6 wr => ∃ k : Nat, u6 = .int .i64 k ∧ k ≤ 16 ∧ Hid (Ar wr w.heap.size 49 .i64 y) ∧ Hid (Ar wr (w.heap.size + 1) 49 .i64 z) ∧ Hid (Ar wr (w.heap.size + 1 + 1) 49 .i64 (fil D 0 0)) ∧ Hid (Ar wr (w.heap.size + 1 + 1 + 1) 48 .i64 (fil D k 0)) ∧ Hid (Fr (fun _ => False) w wr))
    (fun u6 _ => 16 - (intOf u6).toNat)
  case atStart =>
    have e := alloc4 w (.cells (vs .i64 y) 49) (.cells (vs .i64 z) 49) (.cells (vs .i64 (fil D 0 0)) 49) (.cells (vs .i64 (fil D 0 0)) 48)
    rw [hz0.out] at e
    exact ⟨0, rfl, by omega, e.1, e.2.1, by show _ = _; rw [hz0.out]; exact e.2.2.1, by show _ = _; rw [hz0.out]; exact e.2.2.2, ((((Fr.refl _ _).alloc _).alloc _).alloc _).alloc _⟩
  case round =>
    obtain ⟨k, rfl, hk, hA, hB, hR, hX, hF⟩ := hrel
    by_cases hlt : k < 16
    · obtain ⟨hD, hy, hz⟩ := HL.out
      obtain ⟨a, ha⟩ : ∃ a, a = y.getD k 0 := ⟨_, rfl⟩
      obtain ⟨b, hbb⟩ : ∃ b, b = z.getD k 0 := ⟨_, rfl⟩
      have ga := getD_some (l := y) (i := k) (by omega)
      have gb := getD_some (l := z) (i := k) (by omega)
      have gd : Hid (D[k]? = some (a - b + 65535)) := by show _ = _; rw [hD, zw_get _ _ _ _ (by omega) (by omega), ha, hbb]
      rw [← ha] at ga
      rw [← hbb] at gb
      have la := hy.2 a (List.mem_of_getElem? ga)
      have lb := hz.2 b (List.mem_of_getElem? gb)
      have ca := hA.out.cell ga
      have cb := hB.out.cell gb
      have cd := hX.out.cell (fil_get D k 0 (by rw [hlen.out]; exact hlt))
      have hfz := hX.out.frozen k
      have a0 := la.1
      have a1 := la.2
      have b0 := lb.1
      have b1 := lb.2
      clear ha hbb ga gb la lb hD hy hz
      go_wp2
      go_region
      go_wp2
      go_roundw
      case rel =>
        refine ⟨k + 1, by go_num, by omega, (hA.out.far (by simp <;> omega) _).drew, (hB.out.far (by simp <;> omega) _).drew, (hR.out.far (by simp <;> omega) _).drew, ?_, (Fr.setCell hF.out _ (.inr (by simp <;> omega))).drew⟩
        show Ar _ _ _ _ _
        rw [← fil_set D k 0 _ gd.out]
        exact (hX.out.set k _).drew
      case measure => simp [intOf]; omega
    · obtain rfl : k = 16 := by omega
      have hX' : Hid (Ar wr (w.heap.size + 1 + 1 + 1) 48 .i64 D) := by
        have := hX.out
        have e := fil_all D (0 : Int)
        rw [hlen.out] at e
        rwa [e] at this
      obtain ⟨x, hx⟩ : ∃ x, x = D.getD 0 0 := ⟨_, rfl⟩
      have gx := getD_some (l := D) (i := 0) (by rw [hlen.out]; omega)
      have lx : 0 ≤ x ∧ x ≤ 131070 := by
        obtain ⟨hD, hy, hz⟩ := HL.out
        rw [hD, zw_get _ _ _ _ (by omega) (by omega)] at gx
        rw [hx, hD]
        injection gx with gx
        have h1 := hy.2 _ (List.mem_of_getElem? (getD_some (l := y) (i := 0) (by omega)))
        have h2 := hz.2 _ (List.mem_of_getElem? (getD_some (l := z) (i := 0) (by omega)))
        omega
      rw [← hx] at gx
      have cx := hX'.out.cell gx
      have hfz := hX'.out.frozen 0
      have x0 := lx.1
      have x1 := lx.2
      have E2 : Hid (Ar (wr.setCell ⟨w.heap.size + 1 + 1 + 1, 0, none⟩ (.int .i64 (x - 37))) (w.heap.size + 1 + 1 + 1) 48 .i64 E) := by
        show Ar _ _ _ _ _
        rw [HC.out.2.2.2, ← hx]
        exact hX'.out.set 0 _
      have R2 : Hid (Ar (wr.setCell ⟨w.heap.size + 1 + 1 + 1, 0, none⟩ (.int .i64 (x - 37))) (w.heap.size + 1 + 1) 49 .i64 (fil D 0 0)) := hR.out.far (by simp) _
      have F2 : Hid (Fr (fun _ => False) w (wr.setCell ⟨w.heap.size + 1 + 1 + 1, 0, none⟩ (.int .i64 (x - 37)))) := hF.out.setCell _ (.inr (by simp <;> omega))
      have HS0 : Hid ((Try.prog.info? 48).map (·.size) = some (vs .i64 E).size) := by show _ = _; rw [size30, vs_size, HC.out.2.2.1]
      have HS1 : Hid ((Try.prog.info? 49).map (·.size) = some (vs .i64 (crd E)).size) := by show _ = _; rw [size31, vs_size, HC.out.1]
      have HS2 : Hid ((vs .i64 (fil D 0 0)).size = (vs .i64 (crd E)).size) := by show _ = _; rw [vs_size, vs_size, HC.out.1, fil_length D 0 0 (Nat.zero_le _), hlen.out]
      clear hx gx lx
      go_wp2_with (refine wpList_load_row rfl 48 (.tmp 5) rfl (w.heap.size + 1 + 1 + 1) rfl 48 (vs .i64 E) (0, 0) _ E2.out Try.underlying48 rfl HS0.out ?_)
      refine (C _).mono ?_
      rintro e w1 ⟨rfl, hf⟩
      have R1 : Hid (Ar w1 (w.heap.size + 1 + 1) 49 .i64 (fil D 0 0)) := R2.out.fr hf (fun x => x)
      have F1 : Hid (Fr (fun _ => False) w w1) := F2.out.trans hf
      clear hf
      go_wp2_with (refine wpList_store_row rfl 49 (.tmp 4) (.tmp 26) rfl (w.heap.size + 1 + 1) (vs .i64 (crd E)) rfl rfl 49 _ R1.out HS1.out HS2.out (vs_all _ _) ?_)
      exact bodyPost_ret (results_cell_row Try.results43 _ _ _ 49 _ (0, 0) _ rfl (R1.out.row _) Try.underlying49 rfl HS1.out) rfl ⟨congrArg (fun q => Ending.returned (nm q)) HC.out.2.1, Fr.setRow F1.out _ (.inr (by omega))⟩
end Go.Proofs.Ytbkbodcncjhcmaa
