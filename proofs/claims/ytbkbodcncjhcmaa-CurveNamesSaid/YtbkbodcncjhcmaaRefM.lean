/- The reference's Mul: a contract. Its condition: digits. -/
import Derived.Test.YtbkbodcncjhcmaaRefD
namespace Go.Proofs.Ytbkbodcncjhcmaa
open Go.RowKit

theorem vd_set (l : List Int) (k : Nat) (y : Int) (h : k < l.length) : vd (l.set k y) = vd l + 65536 ^ k * (y - l.getD k 0) := by
  induction l generalizing k with
  | nil => simp at h
  | cons b r ih =>
    cases k with
    | zero => simp [vd]; omega
    | succ k =>
      simp only [List.set_cons_succ, vd, List.getD_cons_succ, Int.pow_succ]
      rw [ih k (by simpa using h)]
      grind
/-- A row of the product: so many digits of z times the digit i of y, added. -/
def mi (y z : List Int) (i : Nat) (T : List Int) : Nat → List Int
  | 0 => T
  | k + 1 => (mi y z i T k).set (i + k) ((mi y z i T k).getD (i + k) 0 + y.getD i 0 * z.getD k 0)
/-- So many rows. -/
def mo (y z : List Int) : Nat → List Int
  | 0 => List.replicate 32 0
  | i + 1 => mi y z i (mo y z i) 16
def Sq (B : Int) (l : List Int) : Prop := ∀ b ∈ l, 0 ≤ b ∧ b ≤ B * 4294836225
theorem mi_ok (y z : List Int) (hy : y.length = 16 ∧ Digs y) (hz : z.length = 16 ∧ Digs z) (i : Nat) (hi : i < 16) (T : List Int) (B : Nat) (hT : T.length = 32) (hB : Sq B T) (k : Nat) (hk : k ≤ 16) :
    (mi y z i T k).length = 32 ∧ Sq ((B + k : Nat) : Int) (mi y z i T k) ∧ vd (mi y z i T k) = vd T + 65536 ^ i * (y.getD i 0 * vd (z.take k)) := by
  induction k with
  | zero => exact ⟨hT, hB, by simp [mi, vd]⟩
  | succ k ih =>
    obtain ⟨h1, h2, h3⟩ := ih (by omega)
    have ga := hy.2 _ (List.mem_of_getElem? (getD_some (l := y) (i := i) (by omega)))
    have gb := hz.2 _ (List.mem_of_getElem? (getD_some (l := z) (i := k) (by omega)))
    have gt := h2 _ (List.mem_of_getElem? (getD_some (l := mi y z i T k) (i := i + k) (by omega)))
    have gp : y.getD i 0 * z.getD k 0 ≤ 65535 * 65535 := Int.mul_le_mul ga.2 gb.2 gb.1 (by decide)
    have gp0 : 0 ≤ y.getD i 0 * z.getD k 0 := Int.mul_nonneg ga.1 gb.1
    refine ⟨by simp only [mi, List.length_set, h1], ?_, ?_⟩
    · intro b hb
      simp only [mi] at hb
      rcases List.mem_or_eq_of_mem_set hb with hb | rfl
      · have := h2 b hb
        omega
      · omega
    · simp only [mi]
      rw [vd_set _ _ _ (by omega), h3, vd_take_succ z k (by omega), Int.pow_add]
      generalize (65536 : Int) ^ i = P
      generalize (65536 : Int) ^ k = R
      grind
theorem mo_ok (y z : List Int) (hy : y.length = 16 ∧ Digs y) (hz : z.length = 16 ∧ Digs z) (i : Nat) (hi : i ≤ 16) :
    (mo y z i).length = 32 ∧ Sq ((16 * i : Nat) : Int) (mo y z i) ∧ vd (mo y z i) = vd (y.take i) * vd z := by
  induction i with
  | zero => exact ⟨rfl, by intro b hb; rw [List.eq_of_mem_replicate hb]; decide, by simp only [mo, List.take_zero, vd, Int.zero_mul]; decide⟩
  | succ i ih =>
    obtain ⟨h1, h2, h3⟩ := ih (by omega)
    obtain ⟨g1, g2, g3⟩ := mi_ok y z hy hz i (by omega) (mo y z i) (16 * i) h1 h2 16 (by omega)
    refine ⟨g1, ?_, ?_⟩
    · rw [show 16 * (i + 1) = 16 * i + 16 by omega]
      exact g2
    · simp only [mo]
      rw [g3, h3, vd_take_succ y i (by omega), List.take_of_length_le (l := z) (i := 16) (by omega)]
      generalize (65536 : Int) ^ i = P
      grind
/-- The lower half, and 38 times the upper one. -/
def half (T : List Int) : List Int := zw (fun a b => a + 38 * b) (T.take 16) (T.drop 16)
theorem half_val (T : List Int) (h : T.length = 32) : vd (half T) % pp = vd T % pp := by
  have e : vd T = vd (T.take 16) + pw * vd (T.drop 16) := by
    conv => lhs; rw [← List.take_append_drop 16 T]
    rw [vd_append, List.length_take, h]
    rfl
  have hs : ∀ (a b : List Int), a.length = b.length → vd (zw (fun a b => a + 38 * b) a b) = vd a + 38 * vd b := by
    intro a
    induction a with
    | nil => intro b hb; cases b with
      | nil => rfl
      | cons x r => simp at hb
    | cons x r ih => intro b hb; cases b with
      | nil => simp at hb
      | cons y s =>
        have := ih s (by simpa using hb)
        simp only [zw, List.zipWith_cons_cons, vd] at *
        omega
  unfold half
  rw [hs _ _ (by simp [h]), e]
  have : vd (T.take 16) + pw * vd (T.drop 16) = vd (T.take 16) + 38 * vd (T.drop 16) + pp * (2 * vd (T.drop 16)) := by
    unfold pw pp
    omega
  rw [this, Int.add_mul_emod_self_left]
theorem half_length (T : List Int) (h : T.length = 32) : (half T).length = 16 := by simp [half, zw, h]
theorem half_get (T : List Int) (k : Nat) (h : T.length = 32) (hk : k < 16) : (half T)[k]? = some (T.getD k 0 + 38 * T.getD (k + 16) 0) := by
  unfold half
  rw [zw_get _ _ _ _ (by simp [h]; omega) (by simp [h]; omega)]
  simp only [List.getD_eq_getElem?_getD, List.getElem?_take, List.getElem?_drop, if_pos hk, Nat.add_comm 16 k]
theorem half_bnd (T : List Int) (h : T.length = 32) (hs : Sq 256 T) : Bnd 1152921504606846976 (half T) := by
  intro x hx
  obtain ⟨k, hk, e⟩ := List.mem_iff_getElem.1 hx
  rw [half_length T h] at hk
  have g := half_get T k h hk
  rw [List.getElem?_eq_getElem (by rw [half_length T h]; exact hk), e] at g
  injection g with g
  have h1 := hs _ (List.mem_of_getElem? (getD_some (l := T) (i := k) (by omega)))
  have h2 := hs _ (List.mem_of_getElem? (getD_some (l := T) (i := k + 16) (by omega)))
  omega
/-- What Mul makes of two lists of digits. -/
def rmul (y z : List Int) : List Int := crd (half (mo y z 16))
theorem rmul_ok {y z : List Int} {u v : Int} (hy : NumOf y u) (hz : NumOf z v) : NumOf (rmul y z) ((u * v) % pp) := by
  obtain ⟨h1, h2, h3⟩ := mo_ok y z ⟨hy.len, hy.digs⟩ ⟨hz.len, hz.digs⟩ 16 (by omega)
  have h := crd_ok (half (mo y z 16)) (half_length _ h1) (half_bnd _ h1 h2)
  rw [half_val _ h1, h3, List.take_of_length_le (by rw [hy.len]; omega)] at h
  rw [← hy.val, ← hz.val, ← Int.mul_emod]
  exact h
theorem size66 : (Try.prog.info? 72).map (·.size) = some 32 := by kernel_rfl

set_option maxHeartbeats 4000000 in
theorem rmul_is (y z : List Int) (w : World) (hy : y.length = 16 ∧ Digs y) (hz : z.length = 16 ∧ Digs z) :
    Calls Try.prog 34 #[nm y, nm z] w fun e w' => e = .returned (nm (rmul y z)) ∧ Fr (fun _ => False) w w' := by
  obtain ⟨g1, g2, g3⟩ := mo_ok y z hy hz 16 (by omega)
  obtain ⟨T, hT⟩ : ∃ T, T = mo y z 16 := ⟨_, rfl⟩
  obtain ⟨D, hD⟩ : ∃ D, D = half T := ⟨_, rfl⟩
  rw [← hT] at g1 g2
  have hlen : Hid (D.length = 16) := by show _ = _; rw [hD, half_length T g1]
  have HL : Hid (T = mo y z 16 ∧ D = half T ∧ (y.length = 16 ∧ Digs y) ∧ (z.length = 16 ∧ Digs z) ∧ T.length = 32 ∧ Sq 256 T) := ⟨hT, hD, hy, hz, g1, g2⟩
  have C : ∀ W, Calls Try.prog 47 #[.agg (vs .i64 D)] W fun e w' => e = .returned (.agg (vs .i64 (crd D))) ∧ Fr (fun _ => False) W w' := fun W =>
    carried_is D W hlen.out (by rw [hD]; exact half_bnd T g1 g2)
  have HC : Hid ((crd D).length = 16 ∧ crd D = rmul y z) := ⟨(crd_ok D hlen.out (by rw [hD]; exact half_bnd T g1 g2)).len, by rw [hD, hT]; rfl⟩
  have hz1 : Hid ((.agg (vs .i64 (List.replicate 16 0)) : Value) = .agg #[.int .i64 0, .int .i64 0, .int .i64 0, .int .i64 0, .int .i64 0, .int .i64 0, .int .i64 0, .int .i64 0, .int .i64 0, .int .i64 0, .int .i64 0, .int .i64 0, .int .i64 0, .int .i64 0, .int .i64 0, .int .i64 0]) := by show _ = _; rfl
  clear hT hD hy hz g1 g2 g3
  unfold nm
  go_enter Try.func34, Try.ntmps34
  go_wp2
  go_loopw [6, 7] (fun u6 u7 wr => ∃ i : Nat, u6 = .int .i64 i ∧ i ≤ 16 ∧ Hid (Ar wr w.heap.size 49 .i64 y) ∧ Hid (Ar wr (w.heap.size + 1) 49 .i64 z) ∧ Hid (Ar wr (w.heap.size + 1 + 1) 49 .i64 (List.replicate 16 0)) ∧ Hid (Ar wr (w.heap.size + 1 + 1 + 1) 72 .i64 (mo y z i)) ∧ Hid (Fr (fun _ => False) w wr))
    (fun u6 _ _ => 16 - (intOf u6).toNat)
  case atStart =>
    have e := alloc4 w (.cells (vs .i64 y) 49) (.cells (vs .i64 z) 49) (.cells (vs .i64 (List.replicate 16 0)) 49) (.cells (vs .i64 (List.replicate 32 0)) 72)
    exact ⟨0, rfl, by omega, e.1, e.2.1, e.2.2.1, e.2.2.2, ((((Fr.refl _ _).alloc _).alloc _).alloc _).alloc _⟩
  case round =>
    obtain ⟨i, rfl, hi, hA, hB, hR, hT, hF⟩ := hrel
    obtain ⟨wo, rfl⟩ : ∃ wo : World, wo = wr := ⟨_, rfl⟩
    by_cases hlt : i < 16
    · go_wp2
      go_loopw [7] (fun u7 wi => ∃ k : Nat, u7 = .int .i64 k ∧ k ≤ 16 ∧ Hid (Ar wi w.heap.size 49 .i64 y) ∧ Hid (Ar wi (w.heap.size + 1) 49 .i64 z) ∧ Hid (Ar wi (w.heap.size + 1 + 1) 49 .i64 (List.replicate 16 0)) ∧ Hid (Ar wi (w.heap.size + 1 + 1 + 1) 72 .i64 (mi y z i (mo y z i) k)) ∧ Hid (Fr (fun _ => False) w wi))
        (fun u7 _ => 16 - (intOf u7).toNat)
      case atStart => exact ⟨0, rfl, by omega, hA, hB, hR, hT, hF⟩
      case round =>
        obtain ⟨k, rfl, hk, hA2, hB2, hR2, hT2, hF2⟩ := hrel
        by_cases hkt : k < 16
        · obtain ⟨-, -, hy, hz, -, -⟩ := HL.out
          obtain ⟨o1, o2, o3⟩ := mo_ok y z hy hz i (by omega)
          obtain ⟨p1, p2, p3⟩ := mi_ok y z hy hz i hlt (mo y z i) (16 * i) o1 o2 k hk
          obtain ⟨a, ha⟩ : ∃ a, a = y.getD i 0 := ⟨_, rfl⟩
          obtain ⟨b, hb⟩ : ∃ b, b = z.getD k 0 := ⟨_, rfl⟩
          obtain ⟨c, hc⟩ : ∃ c, c = (mi y z i (mo y z i) k).getD (i + k) 0 := ⟨_, rfl⟩
          have ga := getD_some (l := y) (i := i) (by omega)
          have gb := getD_some (l := z) (i := k) (by omega)
          have gc := getD_some (l := mi y z i (mo y z i) k) (i := i + k) (by omega)
          rw [← ha] at ga
          rw [← hb] at gb
          rw [← hc] at gc
          have la := hy.2 a (List.mem_of_getElem? ga)
          have lb := hz.2 b (List.mem_of_getElem? gb)
          have lc := p2 c (List.mem_of_getElem? gc)
          obtain ⟨p, hp⟩ : ∃ p, a * b = p := ⟨_, rfl⟩
          have p0 : 0 ≤ p := by rw [← hp]; exact Int.mul_nonneg la.1 lb.1
          have p9 : p ≤ 4294836225 := by rw [← hp]; exact Int.mul_le_mul la.2 lb.2 lb.1 (by decide)
          have c0 := lc.1
          have c9 : c ≤ 1099478073600 := by omega
          have HS : Hid ((mi y z i (mo y z i) k).set (i + k) (c + p) = mi y z i (mo y z i) (k + 1)) := by
            show _ = _
            rw [← hp, ha, hb, hc]
            rfl
          have xa := hA2.out.cell ga
          have xb := hB2.out.cell gb
          have xc := hT2.out.cell gc
          have hfz := hT2.out.frozen (i + k)
          have t1 : ((i : Int) + (k : Int)).toNat = i + k := by omega
          have w1 : IntKind.i64.wrap ((i : Int) + (k : Int)) = (i : Int) + (k : Int) := IntWalk.i64_in _ (by omega)
          have s0 : 0 ≤ (i : Int) + (k : Int) := by omega
          have s1 : (i : Int) + (k : Int) < 32 := by omega
          clear ha hb hc ga gb gc la lb lc p1 p2 p3 o1 o2 o3 hy hz
          go_wp2
          go_region
          go_wp2
          go_roundw
          case rel =>
            refine ⟨k + 1, by go_num, by omega, (hA2.out.far (by simp <;> omega) _).drew, (hB2.out.far (by simp <;> omega) _).drew, (hR2.out.far (by simp <;> omega) _).drew, ?_, (Fr.setCell hF2.out _ (.inr (by simp <;> omega))).drew⟩
            show Ar _ _ _ _ _
            rw [← HS.out]
            exact (hT2.out.set (i + k) _).drew
          case measure => simp [intOf]; omega
        · obtain rfl : k = 16 := by omega
          go_wp2
          go_roundw
          case rel => exact ⟨i + 1, by go_num, by omega, hA2, hB2, hR2, hT2, hF2⟩
          case measure => simp [intOf]; omega
    · obtain rfl : i = 16 := by omega
      have hT' : Hid (Ar wo (w.heap.size + 1 + 1 + 1) 72 .i64 T) := by show Ar _ _ _ _ _; rw [HL.out.1]; exact hT.out
      have hs : w.heap.size + 1 + 1 + 1 < wo.heap.size := hT'.out.lt
      obtain ⟨q, hq⟩ : ∃ q, q = wo.heap.size := ⟨_, rfl⟩
      have hs2 : w.heap.size + 1 + 1 + 1 < q := by omega
      have HQ := Lib.hid hq
      clear hq hT
      go_wp2
      rw [← HQ.out]
      go_loopw [9] (fun u9 wi => ∃ k : Nat, u9 = .int .i64 k ∧ k ≤ 16 ∧ Hid (Ar wi (w.heap.size + 1 + 1) 49 .i64 (List.replicate 16 0)) ∧ Hid (Ar wi (w.heap.size + 1 + 1 + 1) 72 .i64 T) ∧ Hid (Ar wi q 48 .i64 (fil D k 0)) ∧ Hid (Fr (fun _ => False) w wi))
        (fun u9 _ => 16 - (intOf u9).toNat)
      case atStart =>
        refine ⟨0, rfl, by omega, hR.out.alloc _, hT'.out.alloc _, ?_, hF.out.alloc _⟩
        show Ar _ _ _ _ _
        rw [HQ.out, fil_zero, hlen.out]
        exact Ar.new wo 48 .i64 (List.replicate 16 0)
      case round =>
        obtain ⟨k, rfl, hk, hR2, hT2, hX, hF2⟩ := hrel
        by_cases hkt : k < 16
        · obtain ⟨-, hD, -, -, hTl, hTs⟩ := HL.out
          obtain ⟨a, ha⟩ : ∃ a, a = T.getD k 0 := ⟨_, rfl⟩
          obtain ⟨b, hb⟩ : ∃ b, b = T.getD (k + 16) 0 := ⟨_, rfl⟩
          have ga := getD_some (l := T) (i := k) (by omega)
          have gb := getD_some (l := T) (i := k + 16) (by omega)
          have gd : Hid (D[k]? = some (a + 38 * b)) := by show _ = _; rw [hD, half_get T k hTl hkt, ha, hb]
          rw [← ha] at ga
          rw [← hb] at gb
          have la := hTs a (List.mem_of_getElem? ga)
          have lb := hTs b (List.mem_of_getElem? gb)
          have xa := hT2.out.cell ga
          have xb := hT2.out.cell gb
          have xd := hX.out.cell (fil_get D k 0 (by rw [hlen.out]; exact hkt))
          have hfz := hX.out.frozen k
          have a0 := la.1
          have a9 : a ≤ 1099478073600 := by omega
          have b0 := lb.1
          have b9 : b ≤ 1099478073600 := by omega
          have t1 : ((k : Int) + 16).toNat = k + 16 := by omega
          have s0 : 0 ≤ (k : Int) + 16 := by omega
          have s1 : (k : Int) + 16 < 32 := by omega
          clear ha hb ga gb la lb hD hTl hTs
          go_wp2
          go_region
          go_wp2
          go_roundw
          case rel =>
            refine ⟨k + 1, by go_num, by omega, (hR2.out.far (by simp <;> omega) _).drew, (hT2.out.far (by simp <;> omega) _).drew, ?_, (Fr.setCell hF2.out _ (.inr (by simp <;> omega))).drew⟩
            show Ar _ _ _ _ _
            rw [← fil_set D k 0 _ gd.out]
            exact (hX.out.set k _).drew
          case measure => simp [intOf]; omega
        · obtain rfl : k = 16 := by omega
          have hX' : Hid (Ar wr q 48 .i64 D) := by
            have := hX.out
            have e := fil_all D (0 : Int)
            rw [hlen.out] at e
            rwa [e] at this
          have HS0 : Hid ((Try.prog.info? 48).map (·.size) = some (vs .i64 D).size) := by show _ = _; rw [size30, vs_size, hlen.out]
          have HS1 : Hid ((Try.prog.info? 49).map (·.size) = some (vs .i64 (crd D)).size) := by show _ = _; rw [size31, vs_size, HC.out.1]
          have HS2 : Hid ((vs .i64 (List.replicate 16 0)).size = (vs .i64 (crd D)).size) := by show _ = _; rw [vs_size, vs_size, HC.out.1]; rfl
          go_wp2_with (refine wpList_load_row rfl 48 (.tmp 8) rfl q rfl 48 (vs .i64 D) (0, 0) _ hX'.out Try.underlying48 rfl HS0.out ?_)
          refine (C _).mono ?_
          rintro e w1 ⟨rfl, hf⟩
          have R1 : Hid (Ar w1 (w.heap.size + 1 + 1) 49 .i64 (List.replicate 16 0)) := hR2.out.fr hf (fun x => x)
          have F1 : Hid (Fr (fun _ => False) w w1) := hF2.out.trans hf
          clear hf
          go_wp2_with (refine wpList_store_row rfl 49 (.tmp 4) (.tmp 51) rfl (w.heap.size + 1 + 1) (vs .i64 (crd D)) rfl rfl 49 _ R1.out HS1.out HS2.out (vs_all _ _) ?_)
          exact bodyPost_ret (results_cell_row Try.results34 _ _ _ 49 _ (0, 0) _ rfl (R1.out.row _) Try.underlying49 rfl HS1.out) rfl ⟨congrArg (fun q => Ending.returned (nm q)) HC.out.2, Fr.setRow F1.out _ (.inr (by omega))⟩
end Go.Proofs.Ytbkbodcncjhcmaa
