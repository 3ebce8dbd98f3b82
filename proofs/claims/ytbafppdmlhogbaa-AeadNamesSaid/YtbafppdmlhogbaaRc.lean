/- The reference's carry: contract. Conditions: seventeen digits that are not negative and below 2^40. -/
import Derived.Test.YtbafppdmlhogbaaCl
import Derived.Test.YtbafppdmlhogbaaTk
import Derived.Test.YtbafppdmlhogbaaPl
namespace Go.Proofs.Ytbafppdmlhogbaa
set_option linter.unusedSimpArgs false
set_option linter.unusedVariables false
open Go.RowKit

/-- Digits that were carried as far as a place. -/
def pas (L : List Int) (i : Nat) : List Int := les i (vl (L.take i)) ++ L.drop i
theorem vl_take_succ (L : List Int) (i : Nat) (h : i < L.length) : vl (L.take (i + 1)) = vl (L.take i) + 256 ^ i * L.getD i 0 := by
  rw [List.take_succ_eq_append_getElem h, vl_append, List.length_take, Nat.min_eq_left (by omega)]
  simp [vl, List.getD_eq_getElem?_getD, List.getElem?_eq_getElem h]
theorem les_add (i : Nat) (x : Int) : ∀ v : Int, les i (v + 256 ^ i * x) = les i v := by
  induction i with
  | zero => intro v; rfl
  | succ i ih =>
    intro v
    rw [Int.pow_succ]
    generalize hp : (256 : Int) ^ i = p at *
    have e : v + p * 256 * x = v + 256 * (p * x) := by rw [Int.mul_comm p 256, Int.mul_assoc]
    have e1 : (v + 256 * (p * x)) % 256 = v % 256 := by omega
    have e2 : (v + 256 * (p * x)) / 256 = v / 256 + p * x := by omega
    simp only [les, e, e1, e2, ih]
theorem les_succ (i : Nat) : ∀ v : Int, les (i + 1) v = les i v ++ [v / 256 ^ i % 256] := by
  induction i with
  | zero => intro v; simp [les]
  | succ i ih =>
    intro v
    rw [les, ih]
    simp only [les, List.cons_append]
    rw [Int.pow_succ, Int.mul_comm, Int.ediv_ediv_of_nonneg (by decide)]
theorem up_succ (L : List Int) (i : Nat) (h : i < L.length) : vl (L.take (i + 1)) / 256 ^ (i + 1) = (L.getD i 0 + vl (L.take i) / 256 ^ i) / 256 ∧ vl (L.take (i + 1)) / 256 ^ i = L.getD i 0 + vl (L.take i) / 256 ^ i := by
  have hp : (0 : Int) < 256 ^ i := Int.pow_pos (by decide)
  have e : vl (L.take (i + 1)) / 256 ^ i = L.getD i 0 + vl (L.take i) / 256 ^ i := by
    rw [vl_take_succ L i h, Int.add_mul_ediv_left _ _ (by omega)]
    omega
  refine ⟨?_, e⟩
  rw [Int.pow_succ, ← Int.ediv_ediv_of_nonneg (by omega), e]
theorem pas_zero (L : List Int) : pas L 0 = L := by simp [pas, les]
theorem pas_all (L : List Int) (n : Nat) (h : L.length = n) : pas L n = les n (vl L) := by
  unfold pas
  rw [List.take_of_length_le (by omega), List.drop_eq_nil_of_le (by omega), List.append_nil]
theorem pas_length (L : List Int) (i : Nat) (h : i ≤ L.length) : (pas L i).length = L.length := by
  unfold pas
  rw [List.length_append, les_length, List.length_drop]
  omega
theorem pas_get (L : List Int) (i : Nat) (h : i < L.length) : (pas L i)[i]? = some (L.getD i 0) := by
  unfold pas
  rw [List.getElem?_append_right (by rw [les_length]; omega), les_length, Nat.sub_self, List.getElem?_drop, Nat.add_zero]
  exact getD_some h
theorem pas_set (L : List Int) (i : Nat) (h : i < L.length) : (pas L i).set i ((L.getD i 0 + vl (L.take i) / 256 ^ i) % 256) = pas L (i + 1) := by
  unfold pas
  rw [List.set_append_right _ _ (by rw [les_length]; omega), les_length, Nat.sub_self, les_succ, (up_succ L i h).2, List.drop_eq_getElem_cons h, List.set_cons_zero, vl_take_succ L i h, les_add]
  simp
/-- One round: what is above 2^130 counts five times. -/
def rnd (v : Int) : Int := v % 1361129467683753853853498429727072845824 + 5 * (v / 1361129467683753853853498429727072845824)
theorem rnd_mod (v : Int) : rnd v % pp = v % pp := by
  unfold rnd pp
  omega
theorem rnd_bd (v : Int) (h0 : 0 ≤ v) (h1 : v < 5846006549323611672814739330865132078623730171904) : 0 ≤ rnd v ∧ rnd v < 1361129467683753853853498429727072845824 + 21474836480 := by
  unfold rnd
  omega
theorem rnd_bd2 (v : Int) (h0 : 0 ≤ v) (h1 : v < 1361129467683753853853498429727072845824 + 21474836480) : 0 ≤ rnd v ∧ rnd v < 1361129467683753853853498429727072845824 := by
  unfold rnd
  omega
theorem rnd_id (v : Int) (h0 : 0 ≤ v) (h1 : v < 1361129467683753853853498429727072845824) : rnd v = v := by
  unfold rnd
  omega
/-- Digits, within a bound. -/
def Dg (m : Int) (L : List Int) : Prop := ∀ x ∈ L, 0 ≤ x ∧ x < m
theorem Dg.getD {m : Int} {L : List Int} (h : Dg m L) {i : Nat} (hi : i < L.length) : 0 ≤ L.getD i 0 ∧ L.getD i 0 < m := h _ (List.mem_of_getElem? (getD_some hi))
theorem vl_dg (L : List Int) (m : Int) (hm : 0 < m) (h : Dg m L) : 0 ≤ vl L ∧ 255 * vl L ≤ (m - 1) * (256 ^ L.length - 1) := by
  induction L with
  | nil => simp [vl]
  | cons x L ih =>
    have h1 := ih (fun y hy => h y (by simp [hy]))
    have h2 := h x (by simp)
    simp only [vl, List.length_cons, Int.pow_succ]
    generalize (256 : Int) ^ L.length = p at *
    have e : (m - 1) * (p * 256 - 1) = 256 * ((m - 1) * (p - 1)) + 255 * (m - 1) := by grind
    rw [e]
    omega
/-- What a round makes of the digits of a number. -/
def nxt (v : Int) : List Int := (les 17 (v % 1361129467683753853853498429727072845824)).set 0 (v % 256 + 5 * (v / 1361129467683753853853498429727072845824))
theorem nxt_vl (v : Int) : vl (nxt v) = rnd v := by
  unfold nxt rnd
  obtain ⟨u, hu⟩ : ∃ u, u = v % 1361129467683753853853498429727072845824 := ⟨_, rfl⟩
  have h := vl_les 17 u
  rw [← hu]
  have e : les 17 u = u % 256 :: les 16 (u / 256) := rfl
  rw [e] at h ⊢
  simp only [List.set_cons_zero, vl] at h ⊢
  simp only [Int.reducePow] at h
  omega
theorem nxt_length (v : Int) : (nxt v).length = 17 := by simp [nxt, les_length]
theorem nxt_dg (v : Int) (h0 : 0 ≤ v) (h1 : v < 5846006549323611672814739330865132078623730171904) : Dg 1099511627776 (nxt v) := by
  intro x hx
  unfold nxt at hx
  rcases List.mem_or_eq_of_mem_set hx with hx | rfl
  · have := les_bys _ _ x hx
    omega
  · omega
theorem nxt_small (v : Int) (h0 : 0 ≤ v) (h1 : v < 1361129467683753853853498429727072845824) : nxt v = les 17 v := by
  unfold nxt
  have e1 : v % 1361129467683753853853498429727072845824 = v := by omega
  have e2 : v / 1361129467683753853853498429727072845824 = 0 := by omega
  rw [e1, e2]
  show _ = v % 256 :: les 16 (v / 256)
  have e : les 17 v = v % 256 :: les 16 (v / 256) := rfl
  rw [e, List.set_cons_zero]
  congr 1
  omega
theorem les17_set (v : Int) (c d : Int) (hd : v % 1361129467683753853853498429727072845824 = d) (hc : v / 1361129467683753853853498429727072845824 = c) :
    ((les 17 v).set 16 (v / 340282366920938463463374607431768211456 % 256 % 4)).set 0 (v % 256 + 5 * c) = nxt v := by
  unfold nxt
  rw [hc, hd]
  have e : ∀ u : Int, les 17 u = les 16 u ++ [u / 340282366920938463463374607431768211456 % 256] := fun u => les_succ 16 u
  have e3 : les 16 d = les 16 v := by
    have h := les_add 16 (4 * c) d
    rw [← h]
    congr 1
    simp only [Int.reducePow]
    omega
  rw [e, e, e3, List.set_append_right _ _ (by rw [les_length]; omega), les_length, Nat.sub_self, List.set_cons_zero]
  congr 3
  omega
theorem zero50 (w : World) : (zeroValue 91).run Try.prog w = .ok (.agg (vs .i64 (List.replicate 17 0))) w := by kernel_rfl
theorem info50 : (Try.prog.info? 91).map (·.size) = some 17 := by kernel_rfl

set_option maxRecDepth 100000 in
set_option maxHeartbeats 16000000 in
theorem rcarry_is (H : List Int) (w : World) (hl : H.length = 17) (hd : Dg 8589934592 H) :
    Calls Try.prog 58 #[.agg (vs .i64 H)] w fun e w' => e = .returned (.agg (vs .i64 (les 17 (rnd (rnd (rnd (vl H))))))) ∧ Fr (fun _ => False) w w' := by
  have hv := vl_dg H 8589934592 (by decide) hd
  rw [hl] at hv
  obtain ⟨v, hvv⟩ : ∃ v, v = vl H := ⟨_, rfl⟩
  rw [← hvv] at hv ⊢
  have hv1 : v < 5846006549323611672814739330865132078623730171904 := by
    have := hv.2
    simp only [Int.reducePow] at this
    omega
  have b1 := rnd_bd v hv.1 hv1
  have b2 := rnd_bd2 _ b1.1 b1.2
  have HB := Lib.hid (And.intro hv.1 (And.intro hv1 (And.intro b1 b2)))
  have HH : Hid (H.length = 17 ∧ Dg 1099511627776 H ∧ vl H = v) := ⟨hl, fun x hx => ⟨(hd x hx).1, by have := (hd x hx).2; omega⟩, hvv.symm⟩
  obtain ⟨Z, hZ⟩ : ∃ Z, Z = List.replicate 17 (0 : Int) := ⟨_, rfl⟩
  have hz : ∀ W : World, (zeroValue 91).run Try.prog W = .ok (.agg (vs .i64 Z)) W := fun W => by rw [hZ]; exact zero50 W
  have lZ : Hid (Z.length = 17) := by show _ = _; rw [hZ]; rfl
  clear hvv hv hv1 b1 b2 hl hd hZ
  go_enter Try.func58, Try.ntmps58
  go_upto_region 1 with (fail)
  generalize hW0 : (w.alloc (.cells (vs .i64 H) 91)).alloc (.cells (vs .i64 Z) 91) = W0
  have HW := Lib.hid (calm2 hW0)
  have X0 : Hid (Ar W0 w.heap.size 91 .i64 H) := HW.out.1
  have X1 : Hid (Ar W0 (w.heap.size + 1) 91 .i64 Z) := HW.out.2.1
  have F0 : Hid (Fr (fun _ => False) w W0) := HW.out.2.2
  clear hW0 HW hz
  go_wp2
  go_loopw [3, 4, 5, 6, 7] (fun u3 _ _ _ _ wr => ∃ (t : Nat) (L : List Int), u3 = .int .i64 t ∧ t ≤ 3 ∧ Hid (L.length = 17) ∧ Hid (Dg 1099511627776 L) ∧ Hid (vl L = (if t = 0 then v else if t = 1 then rnd v else if t = 2 then rnd (rnd v) else rnd (rnd (rnd v)))) ∧ Hid (t = 3 → L = les 17 (rnd (rnd (rnd v)))) ∧ Hid (Ar wr w.heap.size 91 .i64 L) ∧ Hid (Ar wr (w.heap.size + 1) 91 .i64 Z) ∧ Hid (Fr (fun _ => False) w wr))
    (fun u3 _ _ _ _ _ => 3 - (intOf u3).toNat)
  case atStart => exact ⟨0, H, rfl, by omega, HH.out.1, HH.out.2.1, HH.out.2.2, fun h => absurd h (by decide), X0, X1, F0⟩
  case round =>
    obtain ⟨t, L, rfl, ht, hL, hD, hV, h3, hA, hX, hF⟩ := hrel
    by_cases htl : t < 3
    · go_wp2
      try generalize decide ((t : Int) < 3) = bt
      go_loopw [4, 5, 6] (fun u4 u5 _ wr => ∃ (i : Nat) (c : Int), u5 = .int .i64 i ∧ u4 = .int .i64 c ∧ i ≤ 17 ∧ Hid (c = vl (L.take i) / 256 ^ i) ∧ 0 ≤ c ∧ c ≤ 1099511627776 ∧ Hid (Ar wr w.heap.size 91 .i64 (pas L i)) ∧ Hid (Ar wr (w.heap.size + 1) 91 .i64 Z) ∧ Hid (Fr (fun _ => False) w wr))
        (fun _ u5 _ _ => 17 - (intOf u5).toNat)
      case atStart => exact ⟨0, 0, rfl, rfl, by omega, by show _ = _; simp [vl], by omega, by omega, by rw [pas_zero]; exact hA, hX, hF⟩
      case round =>
        clear hA hX hF
        obtain ⟨i, c, rfl, rfl, hi, hc, hc0, hc1, hA, hX, hF⟩ := hrel
        by_cases hil : i < 17
        · obtain ⟨x, hx⟩ : ∃ x, L.getD i 0 = x := ⟨_, rfl⟩
          have hiL : i < L.length := by have := hL.out; omega
          have bx := hD.out.getD hiL
          have cx := hA.out.cell (pas_get L i hiL)
          have fx := hA.out.frozen i
          have us := up_succ L i hiL
          have ps := pas_set L i hiL
          rw [← hc.out] at us ps
          rw [hx] at bx cx us ps
          have e1 : IntKind.i64.wrap (x + c) = x + c := by rw [IntKind.wrap_i64]; omega
          have e2 : (x + c).tmod 256 = (x + c) % 256 := by rw [Int.tmod_eq_emod_of_nonneg (by omega)]
          have e3 : (x + c).tdiv 256 = (x + c) / 256 := by rw [Int.tdiv_eq_ediv_of_nonneg (by omega)]
          have e4 : IntKind.i64.wrap ((x + c) % 256) = (x + c) % 256 := by rw [IntKind.wrap_i64]; omega
          have e5 : IntKind.i64.wrap ((x + c) / 256) = (x + c) / 256 := by rw [IntKind.wrap_i64]; omega
          have A2 := Lib.hid (hA.out.set i ((x + c) % 256))
          rw [ps] at A2
          have hcs : Hid ((x + c) / 256 = vl (L.take (i + 1)) / 256 ^ (i + 1)) := us.1.symm
          have j1 : ((i : Int)).toNat = i := by omega
          have j2 : 0 ≤ (i : Int) := by omega
          have j3 : (i : Int) < 17 := by omega
          have b1 : 0 ≤ (x + c) / 256 := by omega
          have b2 : (x + c) / 256 ≤ 1099511627776 := by omega
          clear us ps hx bx hc hA
          go_wp2
          go_roundw
          case rel => exact ⟨i + 1, (x + c) / 256, by go_num, rfl, by omega, hcs, b1, b2, A2, hX.out.far (by simp) _, hF.out.setCell _ (.inr (by simp))⟩
          case measure => simp [intOf]; omega
        · have hi17 : i = 17 := by omega
          subst hi17
          obtain ⟨V, hVe⟩ : ∃ V, V = vl L := ⟨_, rfl⟩
          have hcV : c = V / 87112285931760246646623899502532662132736 := by
            have := hc.out
            rw [List.take_of_length_le (by have := hL.out; omega), ← hVe] at this
            simpa using this
          have A1 : Hid (Ar wr w.heap.size 91 .i64 (les 17 V)) := by
            have h := hA.out
            rwa [pas_all L 17 hL.out, ← hVe] at h
          have hVb : 0 ≤ V ∧ V < 5846006549323611672814739330865132078623730171904 := by
            have hB := HB.out
            have hv' := hV.out
            rw [← hVe] at hv'
            rw [hv']
            split
            · exact ⟨hB.1, hB.2.1⟩
            · split
              · have := hB.2.2.1; omega
              · split
                · have := hB.2.2.2; omega
                · have := hB.2.2.2
                  rw [rnd_id _ this.1 this.2]
                  omega
          obtain ⟨y, hy⟩ : ∃ y, V / 340282366920938463463374607431768211456 % 256 = y := ⟨_, rfl⟩
          obtain ⟨z, hz⟩ : ∃ z, V % 256 = z := ⟨_, rfl⟩
          obtain ⟨o, ho⟩ : ∃ o, V / 1361129467683753853853498429727072845824 = o := ⟨_, rfl⟩
          have g16 : (les 17 V)[16]? = some y := by rw [getD_les 17 16 V (by omega), ← hy]; simp
          have g0 : ((les 17 V).set 16 (y % 4))[0]? = some z := by
            have e : les 17 V = V % 256 :: les 16 (V / 256) := rfl
            rw [e, hz]
            rfl
          have e1 : IntKind.i64.wrap (c * 64) = c * 64 := by rw [IntKind.wrap_i64]; omega
          have e2 : y.tdiv 4 = y / 4 := by rw [Int.tdiv_eq_ediv_of_nonneg (by omega)]
          have e3 : IntKind.i64.wrap (y / 4) = y / 4 := by rw [IntKind.wrap_i64]; omega
          have e4 : IntKind.i64.wrap (c * 64 + y / 4) = o := by rw [IntKind.wrap_i64]; omega
          have e5 : y.tmod 4 = y % 4 := by rw [Int.tmod_eq_emod_of_nonneg (by omega)]
          have e6 : IntKind.i64.wrap (y % 4) = y % 4 := by rw [IntKind.wrap_i64]; omega
          have e7 : IntKind.i64.wrap (5 * o) = 5 * o := by rw [IntKind.wrap_i64]; omega
          have e8 : IntKind.i64.wrap (z + 5 * o) = z + 5 * o := by rw [IntKind.wrap_i64]; omega
          have hN := les17_set V o (V % 1361129467683753853853498429727072845824) rfl ho
          rw [hy, hz] at hN
          have hND := Lib.hid (nxt_dg V hVb.1 hVb.2)
          have HVe := Lib.hid hVe
          have c16 := A1.out.cell g16
          have f16 := A1.out.frozen 16
          have A2 := Lib.hid (A1.out.set 16 (y % 4))
          have HN := Lib.hid hN
          have G0 := Lib.hid g0
          clear hVe hcV hVb hy hz ho hA hN g16 g0 hc hc0 hc1
          go_upto_region 13 with (fail)
          replace hX : Hid (Ar (wr.setCell ⟨w.heap.size, 16, none⟩ (.int .i64 (y % 4))) (w.heap.size + 1) 91 .i64 Z) := hX.out.far (by simp) _
          replace hF : Hid (Fr (fun _ => False) w (wr.setCell ⟨w.heap.size, 16, none⟩ (.int .i64 (y % 4)))) := hF.out.setCell _ (.inr (by simp))
          clear c16 f16 A1
          generalize wr.setCell ⟨w.heap.size, 16, none⟩ (.int .i64 (y % 4)) = W1 at *
          try simp only [Act.put, List.setIfInBounds_toArray, List.set_cons_succ, List.set_cons_zero]
          have c0 := A2.out.cell G0.out
          have f0 := A2.out.frozen 0
          have A3 : Hid (Ar (W1.setCell ⟨w.heap.size, 0, none⟩ (.int .i64 (z + 5 * o))) w.heap.size 91 .i64 (nxt V)) := by
            have h := A2.out.set 0 (z + 5 * o)
            rw [HN.out] at h
            exact h
          have X3 : Hid (Ar (W1.setCell ⟨w.heap.size, 0, none⟩ (.int .i64 (z + 5 * o))) (w.heap.size + 1) 91 .i64 Z) := hX.out.far (by simp) _
          have F3 : Hid (Fr (fun _ => False) w (W1.setCell ⟨w.heap.size, 0, none⟩ (.int .i64 (z + 5 * o)))) := hF.out.setCell _ (.inr (by simp))
          have hval : Hid (vl (nxt V) = (if t + 1 = 0 then v else if t + 1 = 1 then rnd v else if t + 1 = 2 then rnd (rnd v) else rnd (rnd (rnd v)))) := by
            show _ = _
            rw [nxt_vl, HVe.out, hV.out]
            have ht3 : t = 0 ∨ t = 1 ∨ t = 2 := by omega
            rcases ht3 with rfl | rfl | rfl <;> rfl
          have hlast : Hid (t + 1 = 3 → nxt V = les 17 (rnd (rnd (rnd v)))) := by
            show _ → _
            intro h
            have ht2 : t = 2 := by omega
            have e : V = rnd (rnd v) := by
              rw [HVe.out, hV.out, ht2]
              rfl
            have hb := HB.out.2.2.2
            rw [e, nxt_small _ hb.1 hb.2, rnd_id _ hb.1 hb.2]
          clear A2 hX hF G0 HN
          go_wp2
          go_roundw
          case rel => exact ⟨t + 1, nxt V, by go_num, by omega, nxt_length V, hND, hval, hlast, A3, X3, F3⟩
          case measure => simp [intOf]; omega
    · have h33 : t = 3 := by omega
      have eL := h3.out h33
      have A9 : Hid (Ar wr w.heap.size 91 .i64 (les 17 (rnd (rnd (rnd v))))) := by rw [← eL]; exact hA.out
      obtain ⟨R, hR⟩ : ∃ R, R = les 17 (rnd (rnd (rnd v))) := ⟨_, rfl⟩
      have lR : R.length = 17 := by rw [hR, les_length]
      rw [← hR] at A9
      have HR := Lib.hid hR
      have s50 : Hid ((Try.prog.info? 91).map (·.size) = some (vs .i64 R).size) := by show _ = _; rw [vs_size, lR]; exact info50
      have eZ : Hid ((vs .i64 Z).size = (vs .i64 R).size) := by show _ = _; rw [vs_size, vs_size, lR, lZ.out]
      clear hA eL h3 hV hR lR
      go_wp2_with (first
        | refine wpList_load_row rfl 91 (.tmp 1) rfl (w.heap.size) rfl 91 (vs .i64 R) (0, 0) _ A9.out Try.underlying91 rfl s50.out ?_
        | refine wpList_store_row rfl 91 (.tmp 2) (.tmp 43) rfl (w.heap.size + 1) (vs .i64 R) rfl rfl 91 _ hX.out s50.out eZ.out (vs_all _ _) ?_)
      refine bodyPost_ret (results_cell_row Try.results58 _ _ _ 91 _ (0, 0) _ rfl (setRow_heap _ _ _ _ _ _ hX.out) Try.underlying91 rfl s50.out) rfl ⟨by rw [HR.out], hF.out.setRow _ (.inr (by omega))⟩
end Go.Proofs.Ytbafppdmlhogbaa
