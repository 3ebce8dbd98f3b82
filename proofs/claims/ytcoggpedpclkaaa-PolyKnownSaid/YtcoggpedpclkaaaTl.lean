/- The laws' helpers tail and less: contracts. Conditions: bytes, their numbers. -/
import Derived.Test.YtcoggpedpclkaaaWs
namespace Go.Proofs.Ytcoggpedpclkaaa
set_option linter.unusedSimpArgs false
set_option linter.unusedVariables false
open Go.RowKit

theorem emod_split (v p : Int) (hp : 0 < p) : v % (p * 256) = v % p + p * (v / p % 256) := by
  have e : v = (v % p + p * (v / p % 256)) + (p * 256) * (v / p / 256) := by
    have h1 := Int.emod_add_mul_ediv v p
    have h2 := Int.emod_add_mul_ediv (v / p) 256
    have : p * 256 * (v / p / 256) = p * (256 * (v / p / 256)) := Int.mul_assoc _ _ _
    rw [this, Int.add_assoc, ← Int.mul_add, h2, h1]
  have r0 := Int.emod_nonneg v (by omega : p ≠ 0)
  have r1 := Int.emod_lt_of_pos v hp
  have b0 : 0 ≤ p * (v / p % 256) := Int.mul_nonneg (by omega) (by omega)
  have b1 : p * (v / p % 256) ≤ p * 255 := Int.mul_le_mul_of_nonneg_left (by omega) (by omega)
  have : v % (p * 256) = (v % p + p * (v / p % 256)) % (p * 256) := by
    conv => lhs; rw [e]
    exact Int.add_mul_emod_self_left _ _ _
  rw [this]
  exact Int.emod_eq_of_lt (by omega) (by omega)
theorem sub_step (x y p : Int) (hp : 0 < p) : (x / p % 256 - y / p % 256 + (x % p - y % p) / p) % 256 = (x - y) / p % 256 ∧ (x / p % 256 - y / p % 256 + (x % p - y % p) / p) / 256 = (x % (p * 256) - y % (p * 256)) / (p * 256) := by
  have e1 : (x - y) / p = x / p - y / p + (x % p - y % p) / p := by
    have h1 := Int.emod_add_mul_ediv x p
    have h2 := Int.emod_add_mul_ediv y p
    have : x - y = (x % p - y % p) + p * (x / p - y / p) := by rw [Int.mul_sub]; omega
    rw [this, Int.add_mul_ediv_left _ _ (by omega)]
    omega
  have e2 : (x % (p * 256) - y % (p * 256)) / (p * 256) = (x / p % 256 - y / p % 256 + (x % p - y % p) / p) / 256 := by
    rw [emod_split x p hp, emod_split y p hp, ← Int.ediv_ediv_of_nonneg (by omega)]
    have : x % p + p * (x / p % 256) - (y % p + p * (y / p % 256)) = (x % p - y % p) + p * (x / p % 256 - y / p % 256) := by rw [Int.mul_sub]; omega
    rw [this, Int.add_mul_ediv_left _ _ (by omega)]
    congr 1
    omega
  rw [e1, e2]
  omega

set_option maxRecDepth 100000 in
set_option maxHeartbeats 8000000 in
theorem tail_is (k : List Int) (w : World) (hk : k.length = 32) (hb : Bys k) :
    Calls Try.prog 24 #[.agg (vs .u8 k)] w fun e w' => e = .returned (.agg (vs .u8 (k.drop 16))) ∧ Fr (fun _ => False) w w' := by
  obtain ⟨t, ht⟩ : ∃ t, t = k.drop 16 := ⟨_, rfl⟩
  have lt : t.length = 16 := by rw [ht, List.length_drop, hk]
  have HG : Hid (∀ i, i < 16 → k[16 + i]? = some (t.getD i 0) ∧ t[i]? = some (t.getD i 0)) := by
    show ∀ _, _
    intro i hi
    have h := getD_some (l := t) (i := i) (by omega)
    refine ⟨?_, h⟩
    rw [← h, ht, List.getElem?_drop]
  have HT := Lib.hid ht
  have HTL := Lib.hid lt
  obtain ⟨Z, hZ⟩ : ∃ Z, Z = List.replicate 16 (0 : Int) := ⟨_, rfl⟩
  have s26 : Hid ((Try.prog.info? 26).map (·.size) = some (vs .u8 t).size) := by show _ = _; rw [vs_size, lt]; exact info26
  have eL : Hid ((vs .u8 Z).size = (vs .u8 t).size) := by show _ = _; rw [vs_size, vs_size, lt, hZ]; rfl
  have hz2 : ∀ W : World, (zeroValue 26).run Try.prog W = .ok (.agg (vs .u8 Z)) W := fun W => by rw [hZ]; exact zero26 W
  have HZ : Hid (Z = fil t 0 0) := by show _ = _; rw [hZ, fil_zero, lt]
  clear ht lt hZ hk hb
  go_enter Try.func24, Try.ntmps24
  go_upto_region 2 with (fail)
  generalize hW0 : ((w.alloc (.cells (vs .u8 k) 23)).alloc (.cells (vs .u8 Z) 26)).alloc (.cells (vs .u8 Z) 26) = W0
  have HW := Lib.hid (calm3 hW0)
  have X0 : Hid (Ar W0 w.heap.size 23 .u8 k) := HW.out.1
  have X1 : Hid (Ar W0 (w.heap.size + 1) 26 .u8 Z) := HW.out.2.1
  have X2 : Hid (Ar W0 (w.heap.size + 1 + 1) 26 .u8 (fil t 0 0)) := by rw [← HZ.out]; exact HW.out.2.2.1
  have F0 : Hid (Fr (fun _ => False) w W0) := HW.out.2.2.2
  clear hW0 HW hz2
  go_wp2
  go_loopw [4] (fun u4 wr => ∃ i : Nat, u4 = .int .i64 i ∧ i ≤ 16 ∧ Hid (Ar wr w.heap.size 23 .u8 k) ∧ Hid (Ar wr (w.heap.size + 1) 26 .u8 Z) ∧ Hid (Ar wr (w.heap.size + 1 + 1) 26 .u8 (fil t i 0)) ∧ Hid (Fr (fun _ => False) w wr))
    (fun u4 _ => 16 - (intOf u4).toNat)
  case atStart => exact ⟨0, rfl, by omega, X0, X1, X2, F0⟩
  case round =>
    clear X0 X1 X2 F0
    obtain ⟨i, rfl, hi, h0, h1, h2, hF⟩ := hrel
    by_cases hil : i < 16
    · obtain ⟨gk, gt⟩ := HG.out i hil
      obtain ⟨x, hx⟩ : ∃ x, t.getD i 0 = x := ⟨_, rfl⟩
      rw [hx] at gk gt
      have k0 := h0.out.cell gk
      have k2 := h2.out.cell (fil_get' t i 0 (by have := HTL.out; omega))
      have f2 := h2.out.frozen i
      have A9 := Lib.hid (h2.out.set i x)
      rw [fil_set t i 0 _ gt] at A9
      have j1 : ((i : Int)).toNat = i := by omega
      have j2 : 0 ≤ (i : Int) := by omega
      have j3 : (i : Int) < 16 := by omega
      have j4 : (16 + (i : Int)).toNat = 16 + i := by omega
      have j5 : 0 ≤ 16 + (i : Int) := by omega
      have j6 : 16 + (i : Int) < 32 := by omega
      have v0 : IntKind.i64.wrap (16 + (i : Int)) = 16 + i := by rw [IntKind.wrap_i64]; omega
      clear gk gt hx h2
      go_wp2
      go_roundw
      case rel => exact ⟨i + 1, by go_num, by omega, h0.out.far (by simp <;> omega) _, h1.out.far (by simp) _, A9, hF.out.setCell _ (.inr (by simp <;> omega))⟩
      case measure => simp [intOf]; omega
    · have hi16 : i = 16 := by omega
      have A9 : Hid (Ar wr (w.heap.size + 1 + 1) 26 .u8 t) := by
        have h := h2.out
        have e := fil_all t (0 : Int)
        rw [HTL.out] at e
        rwa [hi16, e] at h
      clear h2
      go_wp2_with (first
        | refine wpList_load_row rfl 26 (.tmp 3) rfl (w.heap.size + 1 + 1) rfl 26 (vs .u8 t) (0, 0) _ A9.out Try.underlying26 rfl s26.out ?_
        | refine wpList_store_row rfl 26 (.tmp 2) (.tmp 15) rfl (w.heap.size + 1) (vs .u8 t) rfl rfl 26 _ h1.out s26.out eL.out (vs_all _ _) ?_)
      refine bodyPost_ret (results_cell_row Try.results24 _ _ _ 26 _ (0, 0) _ rfl (setRow_heap _ _ _ _ _ _ h1.out) Try.underlying26 rfl s26.out) rfl ⟨by rw [HT.out], hF.out.setRow _ (.inr (by omega))⟩

set_option maxRecDepth 100000 in
set_option maxHeartbeats 8000000 in
theorem less_is (a b : List Int) (w : World) (ha : a.length = 16) (hb : b.length = 16) (ba : Bys a) (bb : Bys b) :
    Calls Try.prog 25 #[.agg (vs .u8 a), .agg (vs .u8 b)] w fun e w' => e = .returned (.agg (vs .u8 (les 16 (vl a - vl b)))) ∧ Fr (fun _ => False) w w' := by
  obtain ⟨x, hx⟩ : ∃ x, x = vl a := ⟨_, rfl⟩
  obtain ⟨y, hy⟩ : ∃ y, y = vl b := ⟨_, rfl⟩
  have ea : a = les 16 x := by rw [hx]; have h := les_vl a ba; rw [ha] at h; exact h.symm
  have eb : b = les 16 y := by rw [hy]; have h := les_vl b bb; rw [hb] at h; exact h.symm
  obtain ⟨t, ht⟩ : ∃ t, t = les 16 (x - y) := ⟨_, rfl⟩
  have lt : t.length = 16 := by rw [ht, les_length]
  have HT : Hid (t = les 16 (vl a - vl b)) := by show _ = _; rw [ht, hx, hy]
  have HSt : Hid (∀ i, i < 16 → ∃ p q, a[i]? = some p ∧ b[i]? = some q ∧ 0 ≤ p ∧ p ≤ 255 ∧ 0 ≤ q ∧ q ≤ 255 ∧ t[i]? = some ((p - q + (x % 256 ^ i - y % 256 ^ i) / 256 ^ i) % 256) ∧ (p - q + (x % 256 ^ i - y % 256 ^ i) / 256 ^ i) / 256 = (x % 256 ^ (i + 1) - y % 256 ^ (i + 1)) / 256 ^ (i + 1)) := by
    show ∀ _, _
    intro i hi
    have hp : (0 : Int) < 256 ^ i := Int.pow_pos (by decide)
    have h := sub_step x y (256 ^ i) hp
    refine ⟨x / 256 ^ i % 256, y / 256 ^ i % 256, by rw [ea, getD_les 16 i _ hi], by rw [eb, getD_les 16 i _ hi], by omega, by omega, by omega, by omega, ?_, ?_⟩
    · rw [ht, getD_les 16 i _ hi, h.1]
    · rw [h.2, Int.pow_succ]
  have HTL := Lib.hid lt
  obtain ⟨Z, hZ⟩ : ∃ Z, Z = List.replicate 16 (0 : Int) := ⟨_, rfl⟩
  have s26 : Hid ((Try.prog.info? 26).map (·.size) = some (vs .u8 t).size) := by show _ = _; rw [vs_size, lt]; exact info26
  have eL : Hid ((vs .u8 Z).size = (vs .u8 t).size) := by show _ = _; rw [vs_size, vs_size, lt, hZ]; rfl
  have hz2 : ∀ W : World, (zeroValue 26).run Try.prog W = .ok (.agg (vs .u8 Z)) W := fun W => by rw [hZ]; exact zero26 W
  have HZ : Hid (Z = fil t 0 0) := by show _ = _; rw [hZ, fil_zero, lt]
  clear hx hy ea eb ht lt hZ ha hb ba bb
  go_enter Try.func25, Try.ntmps25
  go_upto_region 2 with (fail)
  generalize hW0 : (((w.alloc (.cells (vs .u8 a) 26)).alloc (.cells (vs .u8 b) 26)).alloc (.cells (vs .u8 Z) 26)).alloc (.cells (vs .u8 Z) 26) = W0
  have HW := Lib.hid (calm4 hW0)
  have X0 : Hid (Ar W0 w.heap.size 26 .u8 a) := HW.out.1
  have X1 : Hid (Ar W0 (w.heap.size + 1) 26 .u8 b) := HW.out.2.1
  have X2 : Hid (Ar W0 (w.heap.size + 1 + 1) 26 .u8 Z) := HW.out.2.2.1
  have X3 : Hid (Ar W0 (w.heap.size + 1 + 1 + 1) 26 .u8 (fil t 0 0)) := by rw [← HZ.out]; exact HW.out.2.2.2.1
  have F0 : Hid (Fr (fun _ => False) w W0) := HW.out.2.2.2.2
  clear hW0 HW hz2
  go_wp2
  go_loopw [6, 7, 8] (fun u6 u7 _ wr => ∃ (i : Nat) (c : Int), u7 = .int .i64 i ∧ u6 = .int .i64 c ∧ i ≤ 16 ∧ Hid (-c = (x % 256 ^ i - y % 256 ^ i) / 256 ^ i) ∧ 0 ≤ c ∧ c ≤ 1 ∧ Hid (Ar wr w.heap.size 26 .u8 a) ∧ Hid (Ar wr (w.heap.size + 1) 26 .u8 b) ∧ Hid (Ar wr (w.heap.size + 1 + 1) 26 .u8 Z) ∧ Hid (Ar wr (w.heap.size + 1 + 1 + 1) 26 .u8 (fil t i 0)) ∧ Hid (Fr (fun _ => False) w wr))
    (fun _ u7 _ _ => 16 - (intOf u7).toNat)
  case atStart => exact ⟨0, 0, rfl, rfl, by omega, by show _ = _; simp, by omega, by omega, X0, X1, X2, X3, F0⟩
  case round =>
    clear X0 X1 X2 X3 F0
    obtain ⟨i, c, rfl, rfl, hi, hc, hc0, hc1, h0, h1, h2, h3, hF⟩ := hrel
    by_cases hil : i < 16
    · obtain ⟨p, q, gp, gq, bp0, bp1, bq0, bq1, gt, hn⟩ := HSt.out i hil
      rw [← hc.out] at gt hn
      obtain ⟨n, hnn⟩ : ∃ n, p - q - c = n := ⟨_, rfl⟩
      rw [show p - q + -c = n by omega] at gt hn
      have v1 : IntKind.i64.wrap p = p := by rw [IntKind.wrap_i64]; omega
      have v2 : IntKind.i64.wrap q = q := by rw [IntKind.wrap_i64]; omega
      have v3 : IntKind.i64.wrap (p - q) = p - q := by rw [IntKind.wrap_i64]; omega
      have v4 : IntKind.i64.wrap (p - q - c) = n := by rw [IntKind.wrap_i64]; omega
      have bn : -256 ≤ n ∧ n ≤ 255 := by omega
      have j1 : ((i : Int)).toNat = i := by omega
      have j2 : 0 ≤ (i : Int) := by omega
      have j3 : (i : Int) < 16 := by omega
      have HB := Lib.hid (And.intro gp gq)
      have GT := Lib.hid gt
      have HN := Lib.hid hn
      clear gt hn hc hnn gp gq bp0 bp1 bq0 bq1
      go_upto_region 6 with (fail)
      refine wp_region_quiet (C := Calm wr) (by kernel_rfl) (by kernel_rfl) (Calm.start _ _ (Fr.refl _ _)) ?_
      refine BigFrame.wpQuiet_want rfl fun K hK => ?_
      try simp only [Act.put, List.setIfInBounds_toArray, List.set_cons_succ, List.set_cons_zero]
      go_big_quiet_op
      refine hK _ ?_
      refine BigFrame.wpQuiet_want rfl fun K hK => ?_
      try simp only [Act.put, List.setIfInBounds_toArray, List.set_cons_succ, List.set_cons_zero]
      go_big_quiet_op
      first
        | refine ⟨_, fun _ _ => rfl, hK _ ?_⟩
        | refine hK _ ?_
      refine BigFrame.wpQuiet_want rfl fun K hK => quiet_one 5 .u8 (.tmp 14) rfl (w.heap.size) (i) rfl (p) Try.underlying5 (fun _ h => (Ar.fr h0.out h (fun x => x)).cell HB.out.1) (hK _ ?_)
      refine BigFrame.wpQuiet_want rfl fun K hK => ?_
      try simp only [Act.put, List.setIfInBounds_toArray, List.set_cons_succ, List.set_cons_zero]
      go_big_quiet_op
      first
        | refine ⟨_, fun _ _ => rfl, hK _ ?_⟩
        | refine hK _ ?_
      refine BigFrame.wpQuiet_want rfl fun K hK => ?_
      try simp only [Act.put, List.setIfInBounds_toArray, List.set_cons_succ, List.set_cons_zero]
      go_big_quiet_op
      refine hK _ ?_
      refine BigFrame.wpQuiet_want rfl fun K hK => ?_
      try simp only [Act.put, List.setIfInBounds_toArray, List.set_cons_succ, List.set_cons_zero]
      go_big_quiet_op
      first
        | refine ⟨_, fun _ _ => rfl, hK _ ?_⟩
        | refine hK _ ?_
      refine BigFrame.wpQuiet_want rfl fun K hK => quiet_one 5 .u8 (.tmp 18) rfl (w.heap.size + 1) (i) rfl (q) Try.underlying5 (fun _ h => (Ar.fr h1.out h (fun x => x)).cell HB.out.2) (hK _ ?_)
      refine BigFrame.wpQuiet_want rfl fun K hK => ?_
      try simp only [Act.put, List.setIfInBounds_toArray, List.set_cons_succ, List.set_cons_zero]
      go_big_quiet_op
      first
        | refine ⟨_, fun _ _ => rfl, hK _ ?_⟩
        | refine hK _ ?_
      refine BigFrame.wpQuiet_want rfl fun K hK => ?_
      try simp only [Act.put, List.setIfInBounds_toArray, List.set_cons_succ, List.set_cons_zero]
      go_big_quiet_op
      first
        | refine ⟨_, fun _ _ => rfl, hK _ ?_⟩
        | refine hK _ ?_
      refine BigFrame.wpQuiet_want rfl fun K hK => ?_
      try simp only [Act.put, List.setIfInBounds_toArray, List.set_cons_succ, List.set_cons_zero]
      go_big_quiet_op
      refine hK _ ?_
      refine BigFrame.wpQuiet_want rfl fun K hK => ?_
      try simp only [Act.put, List.setIfInBounds_toArray, List.set_cons_succ, List.set_cons_zero]
      go_big_quiet_op
      first
        | refine ⟨_, fun _ _ => rfl, hK _ ?_⟩
        | refine hK _ ?_
      refine BigFrame.wpQuiet_want rfl fun K hK => ?_
      try simp only [Act.put, List.setIfInBounds_toArray, List.set_cons_succ, List.set_cons_zero]
      go_big_quiet_op
      refine hK _ ?_
      refine wpQuiet_nil ?_
      intro w9 hw9
      have F9 : Hid (Fr (fun _ => False) w w9) := hF.out.trans hw9
      have G9 := Lib.hid hw9
      clear hw9
      try simp only [Act.put, List.setIfInBounds_toArray, List.set_cons_succ, List.set_cons_zero]
      replace h0 := Lib.hid (Ar.fr h0.out G9.out (fun x => x))
      replace h1 := Lib.hid (Ar.fr h1.out G9.out (fun x => x))
      replace h2 := Lib.hid (Ar.fr h2.out G9.out (fun x => x))
      replace h3 := Lib.hid (Ar.fr h3.out G9.out (fun x => x))
      have k3 := h3.out.cell (fil_get' t i 0 (by have := HTL.out; omega))
      have f3 := h3.out.frozen i
      by_cases hn0 : n < 0
      · have v5 : IntKind.i64.wrap (n + 256) = n + 256 := by rw [IntKind.wrap_i64]; omega
        have v6 : IntKind.u8.wrap (n + 256) = n + 256 := by rw [IntKind.wrap_u8]; omega
        have A9 := Lib.hid (h3.out.set i (n + 256))
        rw [fil_set t i 0 _ (GT.out.trans (by rw [show n % 256 = n + 256 by omega]))] at A9
        have hcn : Hid (-1 = (x % 256 ^ (i + 1) - y % 256 ^ (i + 1)) / 256 ^ (i + 1)) := by show _ = _; rw [← HN.out]; omega
        clear h3 hF G9 v1 v2 v3 v4
        go_wp2
        go_roundw
        case rel => exact ⟨i + 1, 1, by go_num, rfl, by omega, hcn, by omega, by omega, h0.out.far (by simp <;> omega) _, h1.out.far (by simp <;> omega) _, h2.out.far (by simp) _, A9, F9.out.setCell _ (.inr (by simp <;> omega))⟩
        case measure => simp [intOf]; omega
      · have v6 : IntKind.u8.wrap n = n := by rw [IntKind.wrap_u8]; omega
        have A9 := Lib.hid (h3.out.set i n)
        rw [fil_set t i 0 _ (GT.out.trans (by rw [show n % 256 = n by omega]))] at A9
        have hcn : Hid (-0 = (x % 256 ^ (i + 1) - y % 256 ^ (i + 1)) / 256 ^ (i + 1)) := by show _ = _; rw [← HN.out]; omega
        clear h3 hF G9 v1 v2 v3 v4
        go_wp2
        go_roundw
        case rel => exact ⟨i + 1, 0, by go_num, rfl, by omega, hcn, by omega, by omega, h0.out.far (by simp <;> omega) _, h1.out.far (by simp <;> omega) _, h2.out.far (by simp) _, A9, F9.out.setCell _ (.inr (by simp <;> omega))⟩
        case measure => simp [intOf]; omega
    · have hi16 : i = 16 := by omega
      have A9 : Hid (Ar wr (w.heap.size + 1 + 1 + 1) 26 .u8 t) := by
        have h := h3.out
        have e := fil_all t (0 : Int)
        rw [HTL.out] at e
        rwa [hi16, e] at h
      clear h3
      go_wp2_with (first
        | refine wpList_load_row rfl 26 (.tmp 5) rfl (w.heap.size + 1 + 1 + 1) rfl 26 (vs .u8 t) (0, 0) _ A9.out Try.underlying26 rfl s26.out ?_
        | refine wpList_store_row rfl 26 (.tmp 4) (.tmp 32) rfl (w.heap.size + 1 + 1) (vs .u8 t) rfl rfl 26 _ h2.out s26.out eL.out (vs_all _ _) ?_)
      refine bodyPost_ret (results_cell_row Try.results25 _ _ _ 26 _ (0, 0) _ rfl (setRow_heap _ _ _ _ _ _ h2.out) Try.underlying26 rfl s26.out) rfl ⟨by rw [← HT.out], hF.out.setRow _ (.inr (by omega))⟩
end Go.Proofs.Ytcoggpedpclkaaa
