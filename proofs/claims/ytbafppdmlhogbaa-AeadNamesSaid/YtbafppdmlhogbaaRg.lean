/- The reference's Tag: contract. Conditions: a key of 32 bytes, a slice that lies in memory. -/
import Derived.Test.YtbafppdmlhogbaaRl
import Derived.Test.YtbafppdmlhogbaaRp
import Derived.Test.YtbafppdmlhogbaaSm
namespace Go.Proofs.Ytbafppdmlhogbaa
set_option linter.unusedSimpArgs false
set_option linter.unusedVariables false
open Go.RowKit

/-- Bytes, added to the first digits. -/
def ad : List Int → List Int → List Int
  | L, [] => L
  | [], _ => []
  | a :: L, x :: X => (a + x) :: ad L X
theorem ad_nil (L : List Int) : ad L [] = L := by cases L <;> rfl
theorem ad_length : ∀ (L X : List Int), (ad L X).length = L.length := by
  intro L
  induction L with
  | nil => intro X; cases X <;> rfl
  | cons a L ih =>
    intro X
    cases X with
    | nil => rfl
    | cons x X => simp [ad, ih X]
theorem ad_vl : ∀ (L X : List Int), X.length ≤ L.length → vl (ad L X) = vl L + vl X := by
  intro L
  induction L with
  | nil =>
    intro X h
    have : X = [] := List.eq_nil_of_length_eq_zero (by simpa using h)
    subst this
    rfl
  | cons a L ih =>
    intro X h
    cases X with
    | nil => simp [ad_nil, vl]
    | cons x X =>
      simp only [ad, vl, ih X (by simpa using h)]
      omega
theorem ad_get : ∀ (L X : List Int) (i : Nat), X.length ≤ i → (ad L X)[i]? = L[i]? := by
  intro L
  induction L with
  | nil => intro X i _; cases X <;> rfl
  | cons a L ih =>
    intro X i h
    cases X with
    | nil => rfl
    | cons x X =>
      cases i with
      | zero => simp at h
      | succ i => simp only [ad, List.getElem?_cons_succ]; exact ih X i (by simpa using h)
theorem ad_set : ∀ (L X : List Int) (y x : Int), L[X.length]? = some y → (ad L X).set X.length (y + x) = ad L (X ++ [x]) := by
  intro L
  induction L with
  | nil => intro X y x h; simp at h
  | cons a L ih =>
    intro X y x h
    cases X with
    | nil =>
      simp at h
      subst h
      simp [ad, ad_nil]
    | cons b X => simp only [ad, List.length_cons, List.set_cons_succ, List.cons_append, ih X y x (by simpa using h)]
theorem ad_dg : ∀ (L X : List Int) (m n : Int), 0 ≤ n → Dg m L → (∀ x ∈ X, 0 ≤ x ∧ x ≤ n) → Dg (m + n) (ad L X) := by
  intro L
  induction L with
  | nil => intro X m n _ _ _ x hx; cases X <;> simp [ad] at hx
  | cons a L ih =>
    intro X m n hn hL hX x hx
    cases X with
    | nil =>
      have := hL x hx
      omega
    | cons b X =>
      simp only [ad] at hx
      rcases List.mem_cons.1 hx with rfl | hx
      · have h1 := hL a (by simp)
        have h2 := hX b (by simp)
        omega
      · exact ih X m n hn (fun y hy => hL y (by simp [hy])) (fun y hy => hX y (by simp [hy])) x hx
/-- Each sum of two numbers, digit by digit. -/
theorem add_step (v s p : Int) (hp : 0 < p) : (v / p % 256 + s / p % 256 + (v % p + s % p) / p) % 256 = (v + s) / p % 256 ∧ (v / p % 256 + s / p % 256 + (v % p + s % p) / p) / 256 = (v % (p * 256) + s % (p * 256)) / (p * 256) := by
  obtain ⟨q, hq⟩ : ∃ q, q = s / p := ⟨_, rfl⟩
  obtain ⟨r, hr⟩ : ∃ r, r = s % p := ⟨_, rfl⟩
  have hv : s = r + p * q := by rw [hq, hr]; exact (Int.emod_add_mul_ediv s p).symm
  have h := lst_step v r p hp
  have e1 : (v + s) / p = (v + r) / p + q := by
    rw [hv, show v + (r + p * q) = (v + r) + p * q by omega, Int.add_mul_ediv_left _ _ (by omega)]
  have hm : s % (p * 256) = r + p * (q % 256) := by
    have r0 : 0 ≤ r := by rw [hr]; exact Int.emod_nonneg _ (by omega)
    have r1 : r < p := by rw [hr]; exact Int.emod_lt_of_pos _ hp
    have e : s = (r + p * (q % 256)) + (p * 256) * (q / 256) := by
      have h := Int.emod_add_mul_ediv q 256
      rw [hv]
      have : p * 256 * (q / 256) = p * (256 * (q / 256)) := Int.mul_assoc _ _ _
      rw [this, Int.add_assoc, ← Int.mul_add, h]
    have b0 : 0 ≤ p * (q % 256) := Int.mul_nonneg (by omega) (by omega)
    have b1 : p * (q % 256) ≤ p * 255 := Int.mul_le_mul_of_nonneg_left (by omega) (by omega)
    have : s % (p * 256) = (r + p * (q % 256)) % (p * 256) := by
      conv => lhs; rw [e]
      exact Int.add_mul_emod_self_left _ _ _
    rw [this]
    exact Int.emod_eq_of_lt (by omega) (by omega)
  rw [← hq, ← hr, e1, hm]
  obtain ⟨c, hc⟩ : ∃ c, c = (v % p + r) / p := ⟨_, rfl⟩
  rw [← hc] at h ⊢
  refine ⟨by omega, ?_⟩
  have e2 : (v % (p * 256) + (r + p * (q % 256))) / (p * 256) = (v / p % 256 + c + q % 256) / 256 := by
    rw [← Int.ediv_ediv_of_nonneg (by omega), show v % (p * 256) + (r + p * (q % 256)) = (v % (p * 256) + r) + p * (q % 256) by omega, Int.add_mul_ediv_left _ _ (by omega)]
    have e3 : (v % (p * 256) + r) / p = v / p % 256 + c := by
      have hm2 : v % (p * 256) = v % p + p * (v / p % 256) := by
        have e : v = (v % p + p * (v / p % 256)) + (p * 256) * (v / p / 256) := by
          have h1 := Int.emod_add_mul_ediv v p
          have h2 := Int.emod_add_mul_ediv (v / p) 256
          have : p * 256 * (v / p / 256) = p * (256 * (v / p / 256)) := Int.mul_assoc _ _ _
          rw [this, Int.add_assoc, ← Int.mul_add, h2, h1]
        have r0 := Int.emod_nonneg v (by omega : p ≠ 0)
        have r1 := Int.emod_lt_of_pos v hp
        have b0 : 0 ≤ p * (v / p % 256) := Int.mul_nonneg (by omega) (by omega)
        have b1 : p * (v / p % 256) ≤ p * 255 := Int.mul_le_mul_of_nonneg_left (by omega) (by omega)
        have : v % (p * 256) = (v % p + p * (v / p % 256)) % (p * 256) := by
          conv => lhs; rw [e]
          exact Int.add_mul_emod_self_left _ _ _
        rw [this]
        exact Int.emod_eq_of_lt (by omega) (by omega)
      rw [hm2, show v % p + p * (v / p % 256) + r = (v % p + r) + p * (v / p % 256) by omega, Int.add_mul_ediv_left _ _ (by omega), ← hc]
      omega
    rw [e3]
  rw [e2]
  congr 1
  omega
end Go.Proofs.Ytbafppdmlhogbaa

/- The reference's Tag: contract. Conditions: a key of 32 bytes, a slice that lies in memory. -/
namespace Go.Proofs.Ytbafppdmlhogbaa
set_option linter.unusedSimpArgs false
set_option linter.unusedVariables false
open Go.RowKit

theorem rnd3_ok (v : Int) (h0 : 0 ≤ v) (h1 : v < 5846006549323611672814739330865132078623730171904) : 0 ≤ rnd (rnd (rnd v)) ∧ rnd (rnd (rnd v)) < 1361129467683753853853498429727072845824 ∧ rnd (rnd (rnd v)) % pp = v % pp := by
  have b1 := rnd_bd v h0 h1
  have b2 := rnd_bd2 _ b1.1 b1.2
  rw [rnd_id _ b2.1 b2.2]
  exact ⟨b2.1, b2.2, by rw [rnd_mod, rnd_mod]⟩
theorem rnd3_id (v : Int) (h0 : 0 ≤ v) (h1 : v < 1361129467683753853853498429727072845824) : rnd (rnd (rnd v)) = v := by
  rw [rnd_id v h0 h1, rnd_id v h0 h1, rnd_id v h0 h1]
/-- A round of the reference's loop. -/
theorem rround {k : List Int} (hk : k.length = 32) (hb : Bys k) (v : Int) (h0 : 0 ≤ v) (h1 : v < 1361129467683753853853498429727072845824) (X : List Int) (hX : Bys X) (hl : X.length ≤ 16) :
    ∃ v2, 0 ≤ v2 ∧ v2 < 1361129467683753853853498429727072845824 ∧ v2 % pp = (v + vl (X ++ [1])) * rr k % pp ∧ ∃ U : List Int, U.length = 17 ∧
      (∀ W : World, Calls Try.prog 58 #[.agg (vs .i64 (ad (les 17 v) (X ++ [1])))] W fun e w' => e = .returned (.agg (vs .i64 U)) ∧ Fr (fun _ => False) W w') ∧
      (∀ W : World, Calls Try.prog 57 #[.agg (vs .i64 U), .agg (vs .i64 (clr (k.take 16) ++ [0]))] W fun e w' => e = .returned (.agg (vs .i64 (les 17 v2))) ∧ Fr (fun _ => False) W w') := by
  have lk : (k.take 16).length = 16 := by rw [List.length_take, hk]; rfl
  have dL : Dg 256 (les 17 v) := fun x hx => by have := les_bys 17 v x hx; omega
  have dA : Dg (256 + 255) (ad (les 17 v) (X ++ [1])) := ad_dg _ _ 256 255 (by decide) dL (fun x hx => by
    rcases List.mem_append.1 hx with h | h
    · exact hX x h
    · simp at h; omega)
  have lA : (ad (les 17 v) (X ++ [1])).length = 17 := by rw [ad_length, les_length]
  have eA : vl (ad (les 17 v) (X ++ [1])) = v + vl (X ++ [1]) := by
    rw [ad_vl _ _ (by rw [les_length, List.length_append]; simp; omega), vl_les]
    congr 1
    simp only [Int.reducePow]
    omega
  have bA := vl_dg _ _ (by decide) dA
  rw [lA] at bA
  obtain ⟨V, hV⟩ : ∃ V, V = vl (ad (les 17 v) (X ++ [1])) := ⟨_, rfl⟩
  rw [← hV] at bA eA
  have bV : V < 5846006549323611672814739330865132078623730171904 := by
    have := bA.2
    simp only [Int.reducePow] at this
    omega
  obtain ⟨u0, u1, u2⟩ := rnd3_ok V bA.1 bV
  obtain ⟨u, hu⟩ : ∃ u, u = rnd (rnd (rnd V)) := ⟨_, rfl⟩
  rw [← hu] at u0 u1 u2
  have dU : Dg 256 (les 17 u) := fun x hx => by have := les_bys 17 u x hx; omega
  have dR : Dg 256 (clr (k.take 16) ++ [0]) := fun x hx => by
    rcases List.mem_append.1 hx with h | h
    · have := clr_bys lk (hb.take 16) x h
      omega
    · simp at h
      omega
  have lR : (clr (k.take 16) ++ [0]).length = 17 := by rw [List.length_append, clr_length lk]; rfl
  have eR : vl (clr (k.take 16) ++ [0]) = rr k := vl_pad _ 1
  have eU : vl (les 17 u) = u := by
    rw [vl_les]
    simp only [Int.reducePow]
    omega
  have pv := prd_vl (les_length 17 u) lR dU dR 17 (Nat.le_refl _)
  have dP := prd_dg (les_length 17 u) lR dU dR 17 (Nat.le_refl _)
  have bP := vl_dg _ _ (by decide) dP
  rw [prd_length] at bP
  have e17 : (les 17 u).take 17 = les 17 u := List.take_of_length_le (by rw [les_length]; omega)
  rw [e17, eU, eR] at pv
  have CT := fun W => rtimes_is (les 17 u) (clr (k.take 16) ++ [0]) W (les_length 17 u) lR dU dR
  generalize vl (prd (les 17 u) (clr (k.take 16) ++ [0]) 17) = Q at *
  have bQ : Q < 5846006549323611672814739330865132078623730171904 := by
    have := bP.2
    simp only [Int.reducePow] at this
    omega
  obtain ⟨q0, q1, q2⟩ := rnd3_ok Q bP.1 bQ
  refine ⟨rnd (rnd (rnd Q)), q0, q1, ?_, les 17 u, les_length 17 u, fun W => ?_, CT⟩
  · rw [q2, pv, Int.mul_emod, u2, ← Int.mul_emod, eA]
  · have h := rcarry_is (ad (les 17 v) (X ++ [1])) W lA (fun x hx => by have := dA x hx; omega)
    rw [← hV, ← hu] at h
    exact h

set_option maxRecDepth 100000 in
set_option maxHeartbeats 16000000 in
theorem rtag_is (k : List Int) (gb : Nat) (A : Option Addr) (m cap : Nat) (l : List Int) (w : World) (hk : k.length = 32) (hb : Bys k) (hs : Sl w gb (.slice A m cap) l) (hgb : l ≠ [] → gb < w.heap.size) (hmb : m ≤ 140737488355328) :
    Calls Try.prog 45 #[.agg (vs .u8 k), .slice A m cap] w fun e w' => e = .returned (.agg (vs .u8 (tag k l))) ∧ Fr (fun _ => False) w w' := by
  have HK := Lib.hid (And.intro hk hb)
  have HS := Lib.hid (And.intro hs hgb)
  have hml := Lib.hid hs.len
  obtain ⟨t, ht⟩ : ∃ t, t = tag k l := ⟨_, rfl⟩
  have HT := Lib.hid ht
  have lt : t.length = 16 := by rw [ht]; exact tag_length k l
  have HTL := Lib.hid lt
  obtain ⟨R, hR⟩ : ∃ R, R = clr (k.take 16) ++ [0] := ⟨_, rfl⟩
  have HR := Lib.hid hR
  have lk : (k.take 16).length = 16 := by rw [List.length_take, hk]; rfl
  have lR : R.length = 17 := by rw [hR, List.length_append, clr_length lk]; rfl
  have C26 : ∀ V : World, Calls Try.prog 56 #[.agg (vs .u8 k)] V fun e w' => e = .returned (.agg (vs .i64 R)) ∧ Fr (fun _ => False) V w' := fun V => by rw [hR]; exact rr_is k V hk hb
  have s26 : Hid ((Try.prog.info? 38).map (·.size) = some (vs .u8 t).size) := by show _ = _; rw [vs_size, lt]; exact info26
  have s23 : Hid ((Try.prog.info? 28).map (·.size) = some (vs .u8 k).size) := by show _ = _; rw [vs_size, hk]; exact info23
  have sR : Hid ((Try.prog.info? 91).map (·.size) = some (vs .i64 R).size) := by show _ = _; rw [vs_size, lR]; exact info50
  obtain ⟨Z, hZ⟩ : ∃ Z, Z = List.replicate 16 (0 : Int) := ⟨_, rfl⟩
  have eL : Hid ((vs .u8 Z).size = (vs .u8 t).size) := by show _ = _; rw [vs_size, vs_size, lt, hZ]; rfl
  have hz2 : ∀ W : World, (zeroValue 38).run Try.prog W = .ok (.agg (vs .u8 Z)) W := fun W => by rw [hZ]; exact zero26 W
  have HZ : Hid (Z = fil t 0 0) := by show _ = _; rw [hZ, fil_zero, lt]
  obtain ⟨Y, hY⟩ : ∃ Y, Y = List.replicate 17 (0 : Int) := ⟨_, rfl⟩
  have hz5 : ∀ W : World, (zeroValue 91).run Try.prog W = .ok (.agg (vs .i64 Y)) W := fun W => by rw [hY]; exact zero50 W
  have eY : Hid ((vs .i64 Y).size = (vs .i64 R).size) := by show _ = _; rw [vs_size, vs_size, lR, hY]; rfl
  have HY : Hid (Y = les 17 0) := hY
  clear hk hb hs hgb ht lt hR lk lR hZ hY
  go_enter Try.func45, Try.ntmps45
  go_upto_region 2 with (fail)
  generalize hW0 : ((w.alloc (.cells (vs .u8 k) 28)).alloc (.cells (vs .u8 Z) 38)).alloc (.cells (vs .i64 Y) 91) = W0
  have HW := Lib.hid (calm3P hW0)
  have X0 : Hid (Ar W0 w.heap.size 28 .u8 k) := HW.out.1
  have X1 : Hid (Ar W0 (w.heap.size + 1) 38 .u8 Z) := HW.out.2.1
  have X2 : Hid (Ar W0 (w.heap.size + 1 + 1) 91 .i64 Y) := HW.out.2.2.1
  have F0 : Hid (Fr (fun _ => False) w W0) := HW.out.2.2.2
  clear hW0 HW
  go_upto_region 3 with (first
    | (go_at_call 56; refine (C26 _).mono ?_; rintro e v1 ⟨rfl, hf⟩)
    | refine wpList_load_row rfl 28 (.tmp 2) rfl (w.heap.size) rfl 28 (vs .u8 k) (0, 0) _ X0.out Try.underlying28 rfl s23.out ?_
    | refine wpList_store_row rfl 91 (.tmp 6) (.tmp 15) rfl v1.heap.size (vs .i64 R) rfl rfl 91 (vs .i64 Y) (heap_alloc_new v1 (.cells (vs .i64 Y) 91)) sR.out eY.out (vs_all _ _) ?_)
  obtain ⟨q, hq⟩ : ∃ q, q = v1.heap.size := ⟨_, rfl⟩
  have hq1 : w.heap.size + 1 + 1 < q := by rw [hq]; exact Nat.lt_of_lt_of_le X2.out.lt hf.size
  have X3 : Hid (Ar ((v1.alloc (.cells (vs .i64 Y) 91)).setRow v1.heap.size (vs .i64 R)) q 91 .i64 R) := by rw [hq]; exact (Ar.new v1 91 .i64 Y).row R
  have hff : Fr (fun _ => False) W0 ((v1.alloc (.cells (vs .i64 Y) 91)).setRow v1.heap.size (vs .i64 R)) := (hf.alloc _).setRow _ (.inr hf.size)
  replace X0 := Lib.hid (Ar.fr X0.out hff (fun x => x))
  replace X1 := Lib.hid (Ar.fr X1.out hff (fun x => x))
  replace X2 := Lib.hid (Ar.fr X2.out hff (fun x => x))
  replace F0 := Lib.hid (F0.out.trans hff)
  rw [← hq] at X0 X1 X2 X3 F0 ⊢
  clear hf hff hq hz5 C26
  generalize (v1.alloc (.cells (vs .i64 Y) 91)).setRow q (vs .i64 R) = W1 at *
  try simp only [Act.put, List.setIfInBounds_toArray, List.set_cons_succ, List.set_cons_zero]
  rw [HY.out] at X2
  go_wp2
  go_loopw [7, 8, 9] (fun u7 _ _ wr => ∃ (a : Nat) (v : Int), u7 = .int .i64 a ∧ a % 16 = 0 ∧ a < m + 16 ∧ Hid (0 ≤ v ∧ v < 1361129467683753853853498429727072845824 ∧ v % pp = hsh (rr k) (l.take a)) ∧ Hid (Ar wr w.heap.size 28 .u8 k) ∧ Hid (Ar wr (w.heap.size + 1) 38 .u8 Z) ∧ Hid (Ar wr (w.heap.size + 1 + 1) 91 .i64 (les 17 v)) ∧ Hid (Ar wr q 91 .i64 R) ∧ Hid (Fr (fun _ => False) w wr))
    (fun u7 _ _ _ => m + 16 - (intOf u7).toNat)
  case atStart => exact ⟨0, 0, rfl, rfl, by omega, ⟨by decide, by decide, rfl⟩, X0, X1, X2, X3, F0⟩
  case round =>
    clear X0 X1 X2 X3 F0
    obtain ⟨a, v, rfl, ha, ham, hv, h0, h1, h2, h3, hF⟩ := hrel
    by_cases hal : a < m
    · obtain ⟨o, rfl, hcell⟩ := HS.out.1.at_ (by omega)
      have hcell := Lib.hid hcell
      obtain ⟨n, hn⟩ : ∃ n, n = min 16 (m - a) := ⟨_, rfl⟩
      have e1 : IntKind.i64.wrap ((m : Int) - (a : Int)) = (m : Int) - a := by rw [IntKind.wrap_i64]; omega
      have e2 : (if (m : Int) - (a : Int) < 16 then (m : Int) - a else 16) = (n : Int) := by rw [hn]; split <;> omega
      have hn16 : n ≤ 16 := by omega
      have hnm : a + n ≤ m := by omega
      have HN := Lib.hid hn
      obtain ⟨X, hX⟩ : ∃ X, X = (l.drop a).take n := ⟨_, rfl⟩
      have lX : X.length = n := by rw [hX, List.length_take, List.length_drop, hml.out]; omega
      have bX : Bys X := by rw [hX]; exact (HS.out.1.1.drop a).take n
      obtain ⟨v2, hv20, hv21, hv2, U, lU, C28, C27⟩ := rround HK.out.1 HK.out.2 v hv.out.1 hv.out.2.1 X bX (by omega)
      rw [← HR.out] at C27
      have HV2 : Hid (0 ≤ v2 ∧ v2 < 1361129467683753853853498429727072845824 ∧ v2 % pp = hsh (rr k) (l.take (a + 16))) := by
        refine ⟨hv20, hv21, ?_⟩
        have e : l.take (a + 16) = l.take a ++ X := by
          have e3 : X = (l.drop a).take 16 := by
            rw [hX, HN.out]
            rcases Nat.le_total 16 (m - a) with h | h
            · rw [Nat.min_eq_left h]
            · rw [Nat.min_eq_right h, List.take_of_length_le (by rw [List.length_drop, hml.out]; omega), List.take_of_length_le (by rw [List.length_drop, hml.out]; omega)]
          rw [e3, ← List.take_add]
        rw [e, hsh_block (rr k) (l.take a) X (by rw [List.length_take, hml.out]; omega) (by omega) (by omega), hv2, ← hv.out.2.2, add_emod]
      have HX : Hid (∀ i, i < n → X[i]? = some (l.getD (a + i) 0)) := by
        show ∀ _, _
        intro i hi
        rw [hX, List.getElem?_take, if_pos hi, List.getElem?_drop]
        exact getD_some (by rw [hml.out]; omega)
      obtain ⟨L, hL⟩ : ∃ L, L = les 17 v := ⟨_, rfl⟩
      have lL : L.length = 17 := by rw [hL, les_length]
      have dL : Hid (Bys L) := by show _; rw [hL]; exact les_bys 17 v
      rw [← hL] at h2 C28
      have HLX := Lib.hid (And.intro lX (And.intro bX (And.intro lL lU)))
      clear hX lX bX hv20 hv21 hv2 lU hL lL hn
      go_wp2
      try generalize decide ((a : Int) < (m : Int)) = bt
      clear e1 e2
      go_loopw [9] (fun u9 wr => ∃ i : Nat, u9 = .int .i64 i ∧ i ≤ n ∧ Hid (Ar wr w.heap.size 28 .u8 k) ∧ Hid (Ar wr (w.heap.size + 1) 38 .u8 Z) ∧ Hid (Ar wr (w.heap.size + 1 + 1) 91 .i64 (ad L (X.take i))) ∧ Hid (Ar wr q 91 .i64 R) ∧ Hid (Fr (fun _ => False) w wr))
        (fun u9 _ => n - (intOf u9).toNat)
      case atStart => exact ⟨0, rfl, by omega, h0, h1, by rw [List.take_zero, ad_nil]; exact h2, h3, hF⟩
      case round =>
        clear h0 h1 h2 h3 hF
        obtain ⟨i, rfl, hi, h0, h1, h2, h3, hF⟩ := hrel
        by_cases hil : i < n
        · have gx := HX.out i hil
          obtain ⟨x, hx⟩ : ∃ x, l.getD (a + i) 0 = x := ⟨_, rfl⟩
          rw [hx] at gx
          have bx := HLX.out.2.1 x (List.mem_of_getElem? gx)
          have gy := getD_some (l := L) (i := i) (by have := HLX.out.2.2.1; omega)
          obtain ⟨y, hy⟩ : ∃ y, L.getD i 0 = y := ⟨_, rfl⟩
          rw [hy] at gy
          have by_ := dL.out y (List.mem_of_getElem? gy)
          have lT : (X.take i).length = i := by rw [List.length_take, HLX.out.1]; omega
          have g2 : (ad L (X.take i))[i]? = some y := by rw [ad_get _ _ _ (by omega)]; exact gy
          have hset : Unit → (ad L (X.take i)).set i (y + x) = ad L (X.take (i + 1)) := fun _ => by
            have h := ad_set L (X.take i) y x (by rw [lT]; exact gy)
            rw [lT] at h
            rw [h, List.take_succ_eq_append_getElem (by rw [HLX.out.1]; exact hil)]
            congr 2
            rw [List.getElem?_eq_getElem (by rw [HLX.out.1]; exact hil)] at gx
            injection gx with gx
            rw [gx]
          have hc1 : Hid (∀ V, Fr (fun _ => False) wr V → V.cell? ⟨gb, o + (a + i), none⟩ = some (.int .u8 x)) := by
            show ∀ _, _
            intro V hV
            have h := (HS.out.1.fr (hF.out.trans hV) (fun _ x => x)).at_ (by omega)
            obtain ⟨o', ho', hc⟩ := h
            injection ho' with ho'
            injection ho' with _ ho'
            subst ho'
            have := hc (a + i) (by omega)
            rwa [hx] at this
          have v1 : IntKind.i64.wrap ((a : Int) + (i : Int)) = a + i := by rw [IntKind.wrap_i64]; omega
          have v2' : IntKind.i64.wrap x = x := by rw [IntKind.wrap_i64]; omega
          have v3 : IntKind.i64.wrap (y + x) = y + x := by rw [IntKind.wrap_i64]; omega
          have j1 : ((a : Int) + (i : Int)).toNat = a + i := by omega
          have j2 : 0 ≤ (a : Int) + (i : Int) := by omega
          have j3 : (a : Int) + (i : Int) < m := by omega
          have j4 : ((i : Int)).toNat = i := by omega
          have j5 : 0 ≤ (i : Int) := by omega
          have j6 : (i : Int) < 17 := by omega
          clear gx hx bx gy hy by_ lT
          go_upto_region 10 with (fail)
          refine wp_region_quiet_tail (C := Calm wr) 13 (by kernel_rfl) (by kernel_rfl) (Calm.start _ _ (Fr.refl _ _)) ?_
          simp only [List.take_succ_cons, List.take_zero, List.drop_succ_cons, List.drop_zero]
          refine BigFrame.wpQuiet_want rfl fun K hK => ?_
          try simp only [Act.put, List.setIfInBounds_toArray, List.set_cons_succ, List.set_cons_zero]
          go_big_quiet_op
          refine hK _ ?_
          refine BigFrame.wpQuiet_want rfl fun K hK => ?_
          try simp only [Act.put, List.setIfInBounds_toArray, List.set_cons_succ, List.set_cons_zero]
          go_big_quiet_op
          refine hK _ ?_
          refine BigFrame.wpQuiet_want rfl fun K hK => ?_
          try simp only [Act.put, List.setIfInBounds_toArray, List.set_cons_succ, List.set_cons_zero]
          go_big_quiet_op
          first
            | refine ⟨_, fun _ _ => rfl, hK _ ?_⟩
            | refine hK _ ?_
          refine BigFrame.wpQuiet_want rfl fun K hK => quiet_oneP 3 .i64 (.tmp 34) rfl (w.heap.size + 1 + 1) (i) rfl (y) Try.underlying3 (fun _ h => (Ar.fr h2.out h (fun x => x)).cell g2) (hK _ ?_)
          refine BigFrame.wpQuiet_want rfl fun K hK => ?_
          try simp only [Act.put, List.setIfInBounds_toArray, List.set_cons_succ, List.set_cons_zero]
          go_big_quiet_op
          refine hK _ ?_
          refine BigFrame.wpQuiet_want rfl fun K hK => ?_
          try simp only [Act.put, List.setIfInBounds_toArray, List.set_cons_succ, List.set_cons_zero]
          go_big_quiet_op
          refine hK _ ?_
          refine BigFrame.wpQuiet_want rfl fun K hK => ?_
          try simp only [Act.put, List.setIfInBounds_toArray, List.set_cons_succ, List.set_cons_zero]
          go_big_quiet_op
          refine hK _ ?_
          refine BigFrame.wpQuiet_want rfl fun K hK => ?_
          try simp only [Act.put, List.setIfInBounds_toArray, List.set_cons_succ, List.set_cons_zero]
          go_big_quiet_op
          first
            | refine ⟨_, fun _ _ => rfl, hK _ ?_⟩
            | refine hK _ ?_
          refine BigFrame.wpQuiet_want rfl fun K hK => ?_
          try simp only [Act.put, List.setIfInBounds_toArray, List.set_cons_succ, List.set_cons_zero]
          go_big_quiet_op
          first
            | refine ⟨_, fun _ _ => rfl, hK _ ?_⟩
            | refine hK _ ?_
          refine BigFrame.wpQuiet_want rfl fun K hK => quiet_oneP 5 .u8 (.tmp 40) rfl (gb) (o + (a + i)) rfl (x) Try.underlying5 (fun _ h => hc1.out _ h) (hK _ ?_)
          refine BigFrame.wpQuiet_want rfl fun K hK => ?_
          try simp only [Act.put, List.setIfInBounds_toArray, List.set_cons_succ, List.set_cons_zero]
          go_big_quiet_op
          first
            | refine ⟨_, fun _ _ => rfl, hK _ ?_⟩
            | refine hK _ ?_
          refine BigFrame.wpQuiet_want rfl fun K hK => ?_
          try simp only [Act.put, List.setIfInBounds_toArray, List.set_cons_succ, List.set_cons_zero]
          go_big_quiet_op
          first
            | refine ⟨_, fun _ _ => rfl, hK _ ?_⟩
            | refine hK _ ?_
          refine BigFrame.wpQuiet_want rfl fun K hK => ?_
          try simp only [Act.put, List.setIfInBounds_toArray, List.set_cons_succ, List.set_cons_zero]
          go_big_quiet_op
          first
            | refine ⟨_, fun _ _ => rfl, hK _ ?_⟩
            | refine hK _ ?_
          refine wpQuiet_nil ?_
          intro w9 hw9
          have F9 : Hid (Fr (fun _ => False) w w9) := hF.out.trans hw9
          have G9 := Lib.hid hw9
          clear hw9
          try simp only [Act.put, List.setIfInBounds_toArray, List.set_cons_succ, List.set_cons_zero]
          replace h0 := Lib.hid (Ar.fr h0.out G9.out (fun x => x))
          replace h1 := Lib.hid (Ar.fr h1.out G9.out (fun x => x))
          replace h2 := Lib.hid (Ar.fr h2.out G9.out (fun x => x))
          replace h3 := Lib.hid (Ar.fr h3.out G9.out (fun x => x))
          have ck := h2.out.cell g2
          have fk := h2.out.frozen i
          have A9 : Hid (Ar (w9.setCell ⟨w.heap.size + 1 + 1, i, none⟩ (.int .i64 (y + x))) (w.heap.size + 1 + 1) 91 .i64 (ad L (X.take (i + 1)))) := by
            rw [← hset ()]
            exact h2.out.set i _
          clear hset G9 h2 hF g2 hc1
          go_wp2
          go_roundw
          case rel => exact ⟨i + 1, by go_num, by omega, h0.out.far (by simp <;> omega) _, h1.out.far (by simp) _, A9, h3.out.far (by simp <;> omega) _, F9.out.setCell _ (.inr (by simp <;> omega))⟩
          case measure => simp [intOf]; omega
        · have hin : i = n := by omega
          subst hin
          have lXi := HLX.out.1
          have gy := getD_some (l := L) (i := i) (by have := HLX.out.2.2.1; omega)
          obtain ⟨y, hy⟩ : ∃ y, L.getD i 0 = y := ⟨_, rfl⟩
          rw [hy] at gy
          have by_ := dL.out y (List.mem_of_getElem? gy)
          have A1 : Hid (Ar wr (w.heap.size + 1 + 1) 91 .i64 (ad L X)) := by
            have h := h2.out
            rwa [List.take_of_length_le (by omega)] at h
          have g2 : (ad L X)[i]? = some y := by rw [ad_get _ _ _ (by omega)]; exact gy
          have hset : (ad L X).set i (y + 1) = ad L (X ++ [1]) := by
            have h := ad_set L X y 1 (by rw [lXi]; exact gy)
            rwa [lXi] at h
          have ck := A1.out.cell g2
          have fk := A1.out.frozen i
          have A2 := Lib.hid (A1.out.set i (y + 1))
          rw [hset] at A2
          have v3 : IntKind.i64.wrap (y + 1) = y + 1 := by rw [IntKind.wrap_i64]; omega
          have j4 : ((i : Int)).toNat = i := by omega
          have j5 : 0 ≤ (i : Int) := by omega
          have j6 : (i : Int) < 17 := by omega
          clear gy hy by_ A1 g2 hset h2 lXi
          go_upto_region 12 with (fail)
          replace h0 := Lib.hid (h0.out.far (a := ⟨w.heap.size + 1 + 1, i, none⟩) (by simp <;> omega) (.int .i64 (y + 1)))
          replace h1 := Lib.hid (h1.out.far (a := ⟨w.heap.size + 1 + 1, i, none⟩) (by simp) (.int .i64 (y + 1)))
          replace h3 := Lib.hid (h3.out.far (a := ⟨w.heap.size + 1 + 1, i, none⟩) (by simp <;> omega) (.int .i64 (y + 1)))
          replace hF := Lib.hid (hF.out.setCell (p := ⟨w.heap.size + 1 + 1, i, none⟩) (.int .i64 (y + 1)) (.inr (by simp <;> omega)))
          clear ck fk v3 j4 j5 j6
          generalize wr.setCell ⟨w.heap.size + 1 + 1, i, none⟩ (.int .i64 (y + 1)) = W4 at *
          have s4 : Hid ((Try.prog.info? 91).map (·.size) = some (vs .i64 (ad L (X ++ [1]))).size) := by show _ = _; rw [vs_size, ad_length, HLX.out.2.2.1]; exact info50
          obtain ⟨Q, hQ⟩ : ∃ Q, Q = les 17 v2 := ⟨_, rfl⟩
          rw [← hQ] at C27
          have HQ := Lib.hid hQ
          have lQ : Hid (Q.length = 17) := by show _ = _; rw [hQ, les_length]
          clear hQ
          refine wp_region_quiet_tail (C := Calm W4) 4 (by kernel_rfl) (by kernel_rfl) (Calm.start _ _ (Fr.refl _ _)) ?_
          simp only [List.take_succ_cons, List.take_zero, List.drop_succ_cons, List.drop_zero]
          refine BigFrame.wpQuiet_want rfl fun K hK => quiet_load 91 (.tmp 5) rfl (w.heap.size + 1 + 1) rfl 91 _ (0, 0) _ (fun _ h => Calm.at A2.out h) Try.underlying91 rfl s4.out (hK _ ?_)
          refine BigFrame.wpQuiet_want rfl fun K hK => ?_
          try simp only [Act.put, List.setIfInBounds_toArray, List.set_cons_succ, List.set_cons_zero]
          go_big_quiet_op
          refine ⟨_, Calm.calls C28, hK _ ?_⟩
          refine BigFrame.wpQuiet_want rfl fun K hK => quiet_load 91 (.tmp 6) rfl (q) rfl 91 _ (0, 0) _ (fun _ h => Calm.at h3.out h) Try.underlying91 rfl sR.out (hK _ ?_)
          refine BigFrame.wpQuiet_want rfl fun K hK => ?_
          try simp only [Act.put, List.setIfInBounds_toArray, List.set_cons_succ, List.set_cons_zero]
          go_big_quiet_op
          refine ⟨_, Calm.calls C27, hK _ ?_⟩
          refine wpQuiet_nil ?_
          intro w9 hw9
          have F9 : Hid (Fr (fun _ => False) w w9) := hF.out.trans hw9
          have G9 := Lib.hid hw9
          clear hw9
          try simp only [Act.put, List.setIfInBounds_toArray, List.set_cons_succ, List.set_cons_zero]
          have A5 : Hid (Ar w9 (w.heap.size + 1 + 1) 91 .i64 (ad L (X ++ [1]))) := Ar.fr A2.out G9.out (fun x => x)
          replace h0 := Lib.hid ((Ar.fr h0.out G9.out (fun x => x)).rowFar (g' := w.heap.size + 1 + 1) (by omega) (vs .i64 Q))
          replace h1 := Lib.hid ((Ar.fr h1.out G9.out (fun x => x)).rowFar (g' := w.heap.size + 1 + 1) (by omega) (vs .i64 Q))
          replace h3 := Lib.hid ((Ar.fr h3.out G9.out (fun x => x)).rowFar (g' := w.heap.size + 1 + 1) (by omega) (vs .i64 Q))
          have A6 : Hid (Ar (w9.setRow (w.heap.size + 1 + 1) (vs .i64 Q)) (w.heap.size + 1 + 1) 91 .i64 (les 17 v2)) := by rw [← HQ.out]; exact A5.out.row Q
          have F6 : Hid (Fr (fun _ => False) w (w9.setRow (w.heap.size + 1 + 1) (vs .i64 Q))) := F9.out.setRow _ (.inr (by omega))
          refine wpList_store_row rfl 91 (.tmp 5) (.tmp 54) rfl (w.heap.size + 1 + 1) (vs .i64 Q) rfl rfl 91 _ A5.out (by rw [vs_size, lQ.out]; exact info50) (by rw [vs_size, vs_size, ad_length, HLX.out.2.2.1, lQ.out]) (vs_all _ _) ?_
          clear A5 G9 F9 hF A2
          generalize w9.setRow (w.heap.size + 1 + 1) (vs .i64 Q) = W6 at *
          have w7 : IntKind.i64.wrap ((a : Int) + 16) = a + 16 := by rw [IntKind.wrap_i64]; omega
          go_wp2
          go_roundw
          case rel => exact ⟨a + 16, v2, by go_num, by omega, by omega, HV2, h0, h1, A6, h3, F6⟩
          case measure => simp [intOf]; omega
    · have hla : l.take a = l := List.take_of_length_le (by rw [hml.out]; omega)
      obtain ⟨z, hz⟩ : ∃ z, z = v % pp := ⟨_, rfl⟩
      have hzh : z = hsh (rr k) l := by rw [hz, hv.out.2.2, hla]
      have C28 : ∀ V : World, Calls Try.prog 58 #[.agg (vs .i64 (les 17 v))] V fun e w' => e = .returned (.agg (vs .i64 (les 17 v))) ∧ Fr (fun _ => False) V w' := fun V => by
        have h := rcarry_is (les 17 v) V (les_length 17 v) (fun x hx => by have := les_bys 17 v x hx; omega)
        have e : vl (les 17 v) = v := by
          rw [vl_les]
          have := hv.out
          simp only [Int.reducePow]
          omega
        rw [e, rnd3_id v hv.out.1 hv.out.2.1] at h
        exact h
      have C29 : ∀ V : World, Calls Try.prog 59 #[.agg (vs .i64 (les 17 v))] V fun e w' => e = .returned (.agg (vs .i64 (les 17 z))) ∧ Fr (fun _ => False) V w' := fun V => by rw [hz]; exact rleast_is v V hv.out.1 hv.out.2.1
      obtain ⟨s, hs⟩ : ∃ s, s = vl (k.drop 16) := ⟨_, rfl⟩
      have ez : t = les 16 (z + s) := by rw [HT.out, tag, hzh, hs]
      have eks : k.drop 16 = les 16 s := by
        rw [hs]
        have h := les_vl (k.drop 16) (HK.out.2.drop 16)
        rw [List.length_drop, HK.out.1] at h
        exact h.symm
      obtain ⟨L, hL⟩ : ∃ L, L = les 17 v := ⟨_, rfl⟩
      obtain ⟨N, hN⟩ : ∃ L, L = les 17 z := ⟨_, rfl⟩
      have lL : Hid (L.length = 17) := by show _ = _; rw [hL, les_length]
      have lN : Hid (N.length = 17) := by show _ = _; rw [hN, les_length]
      have HSt : Hid (∀ i, i < 16 → ∃ x y, N[i]? = some x ∧ k[16 + i]? = some y ∧ 0 ≤ x ∧ x ≤ 255 ∧ 0 ≤ y ∧ y ≤ 255 ∧ t[i]? = some ((x + y + (z % 256 ^ i + s % 256 ^ i) / 256 ^ i) % 256) ∧ (x + y + (z % 256 ^ i + s % 256 ^ i) / 256 ^ i) / 256 = (z % 256 ^ (i + 1) + s % 256 ^ (i + 1)) / 256 ^ (i + 1)) := by
        show ∀ _, _
        intro i hi
        have hp : (0 : Int) < 256 ^ i := Int.pow_pos (by decide)
        have h := add_step z s (256 ^ i) hp
        refine ⟨z / 256 ^ i % 256, s / 256 ^ i % 256, by rw [hN, getD_les 17 i _ (by omega)], ?_, by omega, by omega, by omega, by omega, ?_, ?_⟩
        · have : k[16 + i]? = (k.drop 16)[i]? := by rw [List.getElem?_drop]
          rw [this, eks, getD_les 16 i _ hi]
        · rw [ez, getD_les 16 i _ hi, h.1]
        · rw [h.2, Int.pow_succ]
      have bzs : 0 ≤ z ∧ 0 ≤ s := by
        have h1 := hsh_bd (rr k) l
        have h2 := vl_bd (k.drop 16) (HK.out.2.drop 16)
        rw [hzh, hs]
        exact ⟨h1.1, h2.1⟩
      rw [← hL] at h2 C28 C29
      rw [← hN] at C29
      clear hla hz hzh hs ez eks hL hN hv
      go_upto_region 14 with (first
        | (go_at_call 58; refine (C28 _).mono ?_; rintro e v5 ⟨rfl, hf5⟩)
        | (go_at_call 59; refine (C29 _).mono ?_; rintro e v6 ⟨rfl, hf6⟩)
        | refine wpList_load_row rfl 91 (.tmp 5) rfl (w.heap.size + 1 + 1) rfl 91 (vs .i64 L) (0, 0) _ h2.out Try.underlying91 rfl (by rw [vs_size, lL.out]; exact info50) ?_
        | refine wpList_store_row rfl 91 (.tmp 5) (.tmp 57) rfl (w.heap.size + 1 + 1) (vs .i64 N) rfl rfl 91 _ (Ar.fr (Ar.fr h2.out hf5 (fun x => x)) hf6 (fun x => x)) (by rw [vs_size, lN.out]; exact info50) (by rw [vs_size, vs_size, lL.out, lN.out]) (vs_all _ _) ?_)
      have hff := Fr.trans hf5 hf6
      have A7 := Lib.hid ((Ar.fr h2.out hff (fun x => x)).row N)
      replace h0 := Lib.hid ((Ar.fr h0.out hff (fun x => x)).rowFar (g' := w.heap.size + 1 + 1) (by omega) (vs .i64 N))
      replace h1 := Lib.hid ((Ar.fr h1.out hff (fun x => x)).rowFar (g' := w.heap.size + 1 + 1) (by omega) (vs .i64 N))
      replace hF := Lib.hid ((hF.out.trans hff).setRow (g := w.heap.size + 1 + 1) (vs .i64 N) (.inr (by omega)))
      clear hff hf5 hf6 h2 h3 C28 C29
      generalize v6.setRow (w.heap.size + 1 + 1) (vs .i64 N) = W7 at *
      try simp only [Act.put, List.setIfInBounds_toArray, List.set_cons_succ, List.set_cons_zero]
      go_upto_region 16 with (fail)
      obtain ⟨q9, hq9⟩ : ∃ q, q = W7.heap.size := ⟨_, rfl⟩
      have hq90 : w.heap.size + 1 + 1 < q9 := by rw [hq9]; exact A7.out.lt
      have A8 : Hid (Ar (W7.alloc (.cells (vs .u8 Z) 38)) q9 38 .u8 (fil t 0 0)) := by rw [hq9, ← HZ.out]; exact Ar.new W7 38 .u8 Z
      replace h0 := Lib.hid (h0.out.alloc (.cells (vs .u8 Z) 38))
      replace h1 := Lib.hid (h1.out.alloc (.cells (vs .u8 Z) 38))
      replace A7 := Lib.hid (A7.out.alloc (.cells (vs .u8 Z) 38))
      replace hF := Lib.hid (hF.out.alloc (.cells (vs .u8 Z) 38))
      rw [← hq9] at ⊢
      clear hq9 hz2
      generalize W7.alloc (.cells (vs .u8 Z) 38) = W8 at *
      go_wp2
      try generalize decide ((a : Int) < (m : Int)) = bt
      go_loopw [11, 12, 13] (fun u11 u12 _ wr => ∃ (i : Nat) (c : Int), u12 = .int .i64 i ∧ u11 = .int .i64 c ∧ i ≤ 16 ∧ Hid (c = (z % 256 ^ i + s % 256 ^ i) / 256 ^ i) ∧ 0 ≤ c ∧ c ≤ 2 ∧ Hid (Ar wr w.heap.size 28 .u8 k) ∧ Hid (Ar wr (w.heap.size + 1) 38 .u8 Z) ∧ Hid (Ar wr (w.heap.size + 1 + 1) 91 .i64 N) ∧ Hid (Ar wr q9 38 .u8 (fil t i 0)) ∧ Hid (Fr (fun _ => False) w wr))
        (fun _ u12 _ _ => 16 - (intOf u12).toNat)
      case atStart => exact ⟨0, 0, rfl, rfl, by omega, by show _ = _; simp, by omega, by omega, h0, h1, A7, A8, hF⟩
      case round =>
        clear h0 h1 A7 A8 hF
        obtain ⟨i, c, rfl, rfl, hi, hc, hc0, hc1, h0, h1, h2, h3, hF⟩ := hrel
        by_cases hil : i < 16
        · obtain ⟨x, y, gx, gy, bx0, bx1, by0, by1, gt, hn⟩ := HSt.out i hil
          rw [← hc.out] at gt hn
          have v0 : IntKind.i64.wrap (16 + (i : Int)) = 16 + i := by rw [IntKind.wrap_i64]; omega
          have v1 : IntKind.i64.wrap y = y := by rw [IntKind.wrap_i64]; omega
          have v2 : IntKind.i64.wrap (x + y) = x + y := by rw [IntKind.wrap_i64]; omega
          have v3 : IntKind.i64.wrap (x + y + c) = x + y + c := by rw [IntKind.wrap_i64]; omega
          have v4 : (x + y + c).tmod 256 = (x + y + c) % 256 := by rw [Int.tmod_eq_emod_of_nonneg (by omega)]
          have v5 : (x + y + c).tdiv 256 = (x + y + c) / 256 := by rw [Int.tdiv_eq_ediv_of_nonneg (by omega)]
          have v6 : IntKind.i64.wrap ((x + y + c) % 256) = (x + y + c) % 256 := by rw [IntKind.wrap_i64]; omega
          have v7 : IntKind.i64.wrap ((x + y + c) / 256) = (x + y + c) / 256 := by rw [IntKind.wrap_i64]; omega
          have v8 : IntKind.u8.wrap ((x + y + c) % 256) = (x + y + c) % 256 := by rw [IntKind.wrap_u8]; omega
          have j1 : ((i : Int)).toNat = i := by omega
          have j2 : 0 ≤ (i : Int) := by omega
          have j3 : (i : Int) < 17 := by omega
          have j4 : (i : Int) < 16 := by omega
          have j5 : (16 + (i : Int)).toNat = 16 + i := by omega
          have j6 : 0 ≤ 16 + (i : Int) := by omega
          have j7 : 16 + (i : Int) < 32 := by omega
          have GT := Lib.hid gt
          have hcn := Lib.hid hn
          have b1 : 0 ≤ (x + y + c) / 256 := by omega
          have b2 : (x + y + c) / 256 ≤ 2 := by omega
          have HB := Lib.hid (And.intro gx gy)
          clear hn gt bx0 bx1 by0 by1 hc gx gy
          go_upto_region 19 with (fail)
          refine wp_region_quiet (C := Calm wr) (by kernel_rfl) (by kernel_rfl) (Calm.start _ _ (Fr.refl _ _)) ?_
          refine BigFrame.wpQuiet_want rfl fun K hK => ?_
          try simp only [Act.put, List.setIfInBounds_toArray, List.set_cons_succ, List.set_cons_zero]
          go_big_quiet_op
          refine hK _ ?_
          refine BigFrame.wpQuiet_want rfl fun K hK => ?_
          try simp only [Act.put, List.setIfInBounds_toArray, List.set_cons_succ, List.set_cons_zero]
          go_big_quiet_op
          first
            | refine ⟨_, fun _ _ => rfl, hK _ ?_⟩
            | refine hK _ ?_
          refine BigFrame.wpQuiet_want rfl fun K hK => quiet_oneP 3 .i64 (.tmp 63) rfl (w.heap.size + 1 + 1) (i) rfl (x) Try.underlying3 (fun _ h => (Ar.fr h2.out h (fun x => x)).cell HB.out.1) (hK _ ?_)
          refine BigFrame.wpQuiet_want rfl fun K hK => ?_
          try simp only [Act.put, List.setIfInBounds_toArray, List.set_cons_succ, List.set_cons_zero]
          go_big_quiet_op
          refine hK _ ?_
          refine BigFrame.wpQuiet_want rfl fun K hK => ?_
          try simp only [Act.put, List.setIfInBounds_toArray, List.set_cons_succ, List.set_cons_zero]
          go_big_quiet_op
          first
            | refine ⟨_, fun _ _ => rfl, hK _ ?_⟩
            | refine hK _ ?_
          refine BigFrame.wpQuiet_want rfl fun K hK => ?_
          try simp only [Act.put, List.setIfInBounds_toArray, List.set_cons_succ, List.set_cons_zero]
          go_big_quiet_op
          first
            | refine ⟨_, fun _ _ => rfl, hK _ ?_⟩
            | refine hK _ ?_
          refine BigFrame.wpQuiet_want rfl fun K hK => quiet_oneP 5 .u8 (.tmp 67) rfl (w.heap.size) (16 + i) rfl (y) Try.underlying5 (fun _ h => (Ar.fr h0.out h (fun x => x)).cell HB.out.2) (hK _ ?_)
          refine BigFrame.wpQuiet_want rfl fun K hK => ?_
          try simp only [Act.put, List.setIfInBounds_toArray, List.set_cons_succ, List.set_cons_zero]
          go_big_quiet_op
          first
            | refine ⟨_, fun _ _ => rfl, hK _ ?_⟩
            | refine hK _ ?_
          refine BigFrame.wpQuiet_want rfl fun K hK => ?_
          try simp only [Act.put, List.setIfInBounds_toArray, List.set_cons_succ, List.set_cons_zero]
          go_big_quiet_op
          first
            | refine ⟨_, fun _ _ => rfl, hK _ ?_⟩
            | refine hK _ ?_
          refine BigFrame.wpQuiet_want rfl fun K hK => ?_
          try simp only [Act.put, List.setIfInBounds_toArray, List.set_cons_succ, List.set_cons_zero]
          go_big_quiet_op
          refine hK _ ?_
          refine BigFrame.wpQuiet_want rfl fun K hK => ?_
          try simp only [Act.put, List.setIfInBounds_toArray, List.set_cons_succ, List.set_cons_zero]
          go_big_quiet_op
          first
            | refine ⟨_, fun _ _ => rfl, hK _ ?_⟩
            | refine hK _ ?_
          refine BigFrame.wpQuiet_want rfl fun K hK => ?_
          try simp only [Act.put, List.setIfInBounds_toArray, List.set_cons_succ, List.set_cons_zero]
          go_big_quiet_op
          refine hK _ ?_
          refine wpQuiet_nil ?_
          intro w9 hw9
          have F9 : Hid (Fr (fun _ => False) w w9) := hF.out.trans hw9
          have G9 := Lib.hid hw9
          clear hw9
          try simp only [Act.put, List.setIfInBounds_toArray, List.set_cons_succ, List.set_cons_zero]
          replace h0 := Lib.hid (Ar.fr h0.out G9.out (fun x => x))
          replace h1 := Lib.hid (Ar.fr h1.out G9.out (fun x => x))
          replace h2 := Lib.hid (Ar.fr h2.out G9.out (fun x => x))
          replace h3 := Lib.hid (Ar.fr h3.out G9.out (fun x => x))
          have ck := h3.out.cell (fil_get' t i 0 (by have := HTL.out; omega))
          have fk := h3.out.frozen i
          have A9 := Lib.hid (h3.out.set i ((x + y + c) % 256))
          rw [fil_set t i 0 _ GT.out] at A9
          clear h3 hF G9
          go_wp2
          go_roundw
          case rel => exact ⟨i + 1, (x + y + c) / 256, by go_num, rfl, by omega, hcn, b1, b2, h0.out.far (by simp <;> omega) _, h1.out.far (by simp <;> omega) _, h2.out.far (by simp <;> omega) _, A9, F9.out.setCell _ (.inr (by simp <;> omega))⟩
          case measure => simp [intOf]; omega
        · have hi16 : i = 16 := by omega
          have A9 : Hid (Ar wr q9 38 .u8 t) := by
            have h := h3.out
            have e := fil_all t (0 : Int)
            rw [HTL.out] at e
            rwa [hi16, e] at h
          clear h3
          go_wp2_with (first
            | refine wpList_load_row rfl 38 (.tmp 10) rfl q9 rfl 38 (vs .u8 t) (0, 0) _ A9.out Try.underlying38 rfl s26.out ?_
            | refine wpList_store_row rfl 38 (.tmp 4) (.tmp 80) rfl (w.heap.size + 1) (vs .u8 t) rfl rfl 38 _ h1.out s26.out eL.out (vs_all _ _) ?_)
          refine bodyPost_ret (results_cell_row Try.results45 _ _ _ 38 _ (0, 0) _ rfl (setRow_heap _ _ _ _ _ _ h1.out) Try.underlying38 rfl s26.out) rfl ⟨by rw [HT.out], hF.out.setRow _ (.inr (by omega))⟩
end Go.Proofs.Ytbafppdmlhogbaa
