/- The reference's Of with a key: contract. Conditions: a size from 1 to 32, lengths below 2^47. -/
import Derived.Test.YtebknlhooijkcaaZo
namespace Go.Proofs.Ytebknlhooijkcaa
set_option linter.unusedSimpArgs false
set_option linter.unusedVariables false
open Go.ChangeShapes Go.WideShapes Go.ChangeAt Go.RowKit


set_option maxRecDepth 100000 in
set_option maxHeartbeats 16000000 in
theorem rof_key (sz : Nat) (g1 : Nat) (A1 : Option Addr) (m1 c1 : Nat) (k : List Int) (g2 : Nat) (A2 : Option Addr) (m2 c2 : Nat) (b : List Int) (w : World) (h1 : Sl w g1 (.slice A1 m1 c1) k) (h2 : Sl w g2 (.slice A2 m2 c2) b) (hs0 : 1 ≤ sz) (hs1 : sz ≤ 32) (hk : m1 ≤ 32) (hm : m2 ≤ 140737488353280) (h0 : 0 < m1) :
    Calls Try.prog 35 #[.int .i64 (sz : Int), .slice A1 m1 c1, .slice A2 m2 c2] w fun e w' => ∃ v, e = .returned (.tuple #[v, .int .i64 0]) ∧ Nw w w' v (dig sz k b) ∧ Fr (fun _ => False) w w' := by
  have lk : Hid (k.length = m1) := h1.len
  have lb : Hid (b.length = m2) := h2.len
  have H1 := Lib.hid h1
  have H2 := Lib.hid h2
  obtain ⟨L, hL⟩ : ∃ L, L = inn k b := ⟨_, rfl⟩
  have HL : Hid (inn k b = L) := hL.symm
  obtain ⟨N, hN⟩ : ∃ N, N = L.length := ⟨_, rfl⟩
  have lL : Hid (L.length = N) := hN.symm
  have bN : Hid (N ≤ 140737488353280 + 64) := by
    show _ ≤ _
    rw [hN, hL, inn]
    split
    · rw [lb.out]; omega
    · rw [List.length_append, List.length_append, List.length_replicate, lk.out, lb.out]; omega
  obtain ⟨H, hH⟩ : ∃ H, H = Go.Proofs.Ytebknlhooijkcaa.h0 (sz : Int) k.length := ⟨_, rfl⟩
  have OH : Hid (V8 H) := by rw [hH]; exact h0_ok _ _
  have HH : Hid (H = Go.Proofs.Ytebknlhooijkcaa.h0 (sz : Int) m1) := by show _ = _; rw [hH, lk.out]
  have HR : Hid (dig sz k b = (bsw (digh H L)).take sz) := by show _ = _; rw [dig, ← hL, ← hH]
  have j1 : ¬ (sz : Int) < 1 := by omega
  have j2 : ¬ (32 : Int) < sz := by omega
  have j3 : ¬ (32 : Int) < m1 := by omega
  have j4 : (0 : Int) < m1 := by omega
  have HS : Hid (1 ≤ sz ∧ sz ≤ 32 ∧ m1 ≤ 32 ∧ m2 ≤ 140737488353280 ∧ 0 < m1) := ⟨hs0, hs1, hk, hm, h0⟩
  clear h1 h2 hL hN hH hs0 hs1 hk hm h0
  go_enter Try.func35, Try.ntmps35
  go_upto_region 5 with (fail)
  have O0 : Hid (Nw w w (.slice none 0 0) []) := Nw.nil w w
  have F0 : Hid (Fr (fun _ => False) w w) := Fr.refl _ _
  go_upto_region 6 with (at_builtin; refine wpList_own rfl (.tmp 28) (.tmp 29) rfl O0.out.1 rfl rfl H1.out (by have := HS.out; simp; omega) ?_; intro A3 N3 c3 w3 hap hN; have HA := Lib.hid hap; clear hap hN)
  obtain ⟨r1, r2⟩ := Nw.app O0.out F0.out (Fr.refl _ _) HA.out
  rw [List.nil_append] at r1
  have O1 := Lib.hid r1
  have F1 := Lib.hid r2
  clear r1 r2 HA O0 F0
  have j5 : IntKind.i64.wrap (64 - (m1 : Int)) = ((64 - m1 : Nat) : Int) := by have := HS.out; rw [IntKind.wrap_i64]; omega
  go_upto_region 7 with (at_builtin; refine wpList_zeros rfl (.tmp 31) (.tmp 34) rfl O1.out.1 rfl (64 - m1) rfl (by have := HS.out; omega) (by have := HS.out; rw [lk.out]; omega) (by have := HS.out; rw [lk.out]; omega) ?_; intro A4 N4 c4 w4 hap hN; have HA := Lib.hid hap; clear hap hN)
  obtain ⟨r1, r2⟩ := Nw.app O1.out F1.out (Fr.refl _ _) HA.out
  have O2 := Lib.hid r1
  have F2 := Lib.hid r2
  clear r1 r2 HA O1 F1 j5
  go_upto_region 8 with (at_builtin; refine wpList_own rfl (.tmp 36) (.tmp 37) rfl O2.out.1 rfl rfl (H2.out.fr F2.out (fun _ x => x)) (by have := HS.out; rw [List.length_append, List.length_replicate, lk.out]; omega) ?_; intro A3 N3 c3 w3 hap hN; have HA := Lib.hid hap; clear hap hN)
  obtain ⟨r1, r2⟩ := Nw.app O2.out F2.out (Fr.refl _ _) HA.out
  have O3 : Hid (Nw w w3 (.slice A3 N3 c3) L) := by
    show Nw _ _ _ _
    rw [← HL.out, inn, if_neg (by have := HS.out; rw [lk.out]; omega), lk.out]
    exact r1
  have F3 := Lib.hid r2
  clear r1 r2 HA O2 F2
  have hN3 := O3.out.1.sl.len
  rw [lL.out] at hN3
  subst hN3
  clear j1 j2 j3 j4
  obtain ⟨IV, hIV⟩ : ∃ I, I = iv := ⟨_, rfl⟩
  obtain ⟨Z, hZ⟩ : ∃ Z, Z = List.replicate 8 (0 : Int) := ⟨_, rfl⟩
  have hz8 : ∀ W : World, (zeroValue 51).run Try.prog W = .ok (.agg (vs .u32 Z)) W := fun W => by rw [hZ]; exact zero48 W
  have sI : Hid ((Try.prog.info? 51).map (·.size) = some (vs .u32 IV).size) := by show _ = _; rw [sz48, vs_size, hIV]; rfl
  have eI : Hid ((vs .u32 Z).size = (vs .u32 IV).size) := by show _ = _; rw [vs_size, vs_size, hZ, hIV]; rfl
  have CS : ∀ W, Calls Try.prog 41 #[] W fun e w' => e = .returned (.agg (vs .u32 IV)) ∧ Fr (fun _ => False) W w' := fun W => by rw [hIV]; exact rstarts_is W
  have HIV := Lib.hid hIV
  clear hIV hZ
  go_upto_region 9 with (first
    | (go_at_call 41; refine (CS _).mono ?_; rintro e w4 ⟨rfl, hf⟩; have F4 := Lib.hid hf; clear hf)
    | refine wpList_store_row rfl 51 (.tmp 9) (.tmp 39) rfl w4.heap.size (vs .u32 IV) rfl rfl 51 (vs .u32 Z) (heap_alloc_new w4 (.cells (vs .u32 Z) 51)) sI.out eI.out (vs_all _ _) ?_)
  obtain ⟨q9, hq9⟩ : ∃ q, q = w4.heap.size := ⟨_, rfl⟩
  have FQ : Fr (fun _ => False) w4 ((w4.alloc (.cells (vs .u32 Z) 51)).setRow w4.heap.size (vs .u32 IV)) := ((Fr.refl _ w4).alloc _).setRow _ (.inr (Nat.le_refl _))
  have B4 : Hid (Ar ((w4.alloc (.cells (vs .u32 Z) 51)).setRow w4.heap.size (vs .u32 IV)) q9 51 .u32 IV) := by rw [hq9]; exact (Ar.new w4 51 .u32 Z).row IV
  have FR := Lib.hid (F4.out.trans FQ)
  have O4 := Lib.hid (O3.out.fr FR.out (fun _ x => x))
  have N9 : Hid (w.heap.size ≤ q9 ∧ ∀ j, (Value.slice A3 N c3).ownBlock = some j → j ≠ q9) := by
    refine ⟨by rw [hq9]; exact Nat.le_trans F3.out.size F4.out.size, fun j hj => ?_⟩
    have h1 := O3.out.1.lt j hj
    have h2 := F4.out.size
    omega
  have G4 := Lib.hid (F3.out.trans FR.out)
  rw [← hq9] at B4 O4 G4 ⊢
  generalize (w4.alloc (.cells (vs .u32 Z) 51)).setRow q9 (vs .u32 IV) = W4 at *
  clear FQ hq9 FR F4 F3 O3 sI eI hz8 CS
  try simp only [Act.put, List.setIfInBounds_toArray, List.set_cons_succ, List.set_cons_zero]
  obtain ⟨z1, hz1⟩ : ∃ z, bits .xor .u32 1779033703 16842752 = z := ⟨_, rfl⟩
  obtain ⟨z2, hz2⟩ : ∃ z, IntKind.u32.wrap (256 * (m1 : Int)) = z := ⟨_, rfl⟩
  obtain ⟨z3, hz3⟩ : ∃ z, bits .xor .u32 z1 z2 = z := ⟨_, rfl⟩
  obtain ⟨z4, hz4⟩ : ∃ z, IntKind.u32.wrap (sz : Int) = z := ⟨_, rfl⟩
  obtain ⟨z5, hz5⟩ : ∃ z, bits .xor .u32 z3 z4 = z := ⟨_, rfl⟩
  have HZ : Hid (IV.set 0 z5 = H) := by
    show _ = _
    rw [HH.out, HIV.out, Go.Proofs.Ytebknlhooijkcaa.h0, ← hz5, ← hz4, ← hz3, ← hz2, ← hz1, wrap32, wrap32]
    rfl
  have j1 : IntKind.i64.wrap (256 * (m1 : Int)) = 256 * (m1 : Int) := by have := HS.out; rw [IntKind.wrap_i64]; omega
  have cV := B4.out.cell (show IV[0]? = some 1779033703 by rw [HIV.out]; rfl)
  have fV := B4.out.frozen 0
  have B5 := Lib.hid (B4.out.set 0 z5)
  rw [HZ.out] at B5
  go_upto_region 10 with (fail)
  have K5 : Hid (Fr (fun j => j = q9) W4 (W4.setCell ⟨q9, 0, none⟩ (.int .u32 z5))) := (Fr.refl _ _).setCell _ (.inl rfl)
  generalize W4.setCell ⟨q9, 0, none⟩ (.int .u32 z5) = W5 at *
  have O5 : Hid (Nw w W5 (.slice A3 N c3) L) := ⟨O4.out.1.keep K5.out (fun j hj e => N9.out.2 j hj e), O4.out.2⟩
  have F5 : Hid (Fr (fun _ => False) w W5) := G4.out.trans' K5.out (fun j hj e => by have := N9.out.1; omega)
  clear cV fV B4 O4 G4 K5 hz1 hz2 hz3 hz4 hz5 HZ j1 HIV
  obtain ⟨gi, hgi, hsi⟩ : ∃ g, g ≠ q9 ∧ Sl W5 g (.slice A3 N c3) L := by
    have hs := O5.out.1.sl
    rcases ho : (Value.slice A3 N c3).ownBlock with _ | j
    · rw [ho] at hs
      by_cases h0 : L = []
      · subst h0
        exact ⟨q9 + 1, by omega, hs.empty _⟩
      · exfalso
        rcases O5.out.1.1.2 with ⟨_, h1⟩ | ⟨g, cap, cur, hv, _⟩
        · exact h0 (List.eq_nil_of_length_eq_zero h1)
        · rw [hv] at ho
          cases ho
    · rw [ho] at hs
      exact ⟨j, N9.out.2 j ho, hs⟩
  have S5 := Lib.hid hsi
  have NG : Hid (gi ≠ q9) := hgi
  have cN := Lib.hid hsi.cap
  clear hgi hsi O5
  go_upto_region 11 with (fail)
  go_loopw [10] (fun u10 wr => ∃ i : Nat, u10 = .int .i64 (64 * (i : Int)) ∧ i ≤ nbl N ∧ Hid (Ar wr q9 51 .u32 (eat H L i)) ∧ Hid (Fr (fun j => j = q9) W5 wr)) (fun u10 _ => N - (intOf u10).toNat)
  case atStart => exact ⟨0, rfl, by omega, B5, Lib.hid (Fr.refl _ _)⟩
  case round =>
  clear B5
  obtain ⟨i, rfl, hi, hV, hF⟩ := hrel
  by_cases hil : i < nbl N
  · have hlt := nbl_lt hil
    have j1 : IntKind.i64.wrap ((N : Int) - (64 * (i : Int))) = (N : Int) - (64 * (i : Int)) := by have := bN.out; rw [IntKind.wrap_i64]; omega
    have j2 : 64 < (N : Int) - (64 * (i : Int)) := by omega
    have j3 : IntKind.i64.wrap ((64 * (i : Int)) + 64) = (64 * (i : Int) + 64) := by have := bN.out; rw [IntKind.wrap_i64]; omega
    obtain ⟨D, hD⟩ : ∃ D, D = eat H L i := ⟨_, rfl⟩
    have OD : Hid (V8 D) := by rw [hD]; exact eat_ok OH.out _ _
    rw [← hD] at hV
    obtain ⟨E, hE⟩ : ∃ E, E = eat H L (i + 1) := ⟨_, rfl⟩
    have OE : Hid (V8 E) := by rw [hE]; exact eat_ok OH.out _ _
    have SM := Lib.hid ((S5.out.fr hF.out (fun _ e => NG.out e)).mid (64 * i) (64 * (i + 1)) (by omega) (by omega))
    obtain ⟨A6, hA6⟩ : ∃ A, A = cutA A3 c3 (64 * i) := ⟨_, rfl⟩
    rw [show 64 * (i + 1) - 64 * i = 64 by omega, ← hA6] at SM
    have CP : ∀ W, Fr (fun _ => False) wr W → Calls Try.prog 42 #[.agg (vs .u32 D), .slice A6 64 (c3 - 64 * i), .int .i64 (64 * (i : Int) + 64), .bool false] W fun e w' => e = .returned (.agg (vs .u32 E)) ∧ Fr (fun _ => False) W w' := fun W hf => by
      rw [hE, eat_succ, ← hD, show (64 * ((i + 1 : Nat) : Int)) = (64 * (i : Int) + 64) by omega]
      exact rpress_no D _ _ gi A6 _ W OD.out (SM.out.fr hf (fun _ x => x)) (by omega) (by have := bN.out; omega)
    have HE := Lib.hid hE
    have sD : Hid ((Try.prog.info? 51).map (·.size) = some (vs .u32 D).size) := by show _ = _; rw [sz48, vs_size, OD.out.1]
    have sE : Hid ((Try.prog.info? 51).map (·.size) = some (vs .u32 E).size) := by show _ = _; rw [sz48, vs_size, OE.out.1]
    have eE : Hid ((vs .u32 D).size = (vs .u32 E).size) := by show _ = _; rw [vs_size, vs_size, OD.out.1, OE.out.1]
    have HV6 : Hid (Value.slice A6 64 (c3 - 64 * i) = .slice (cutA A3 c3 (64 * i)) (64 * (i + 1) - 64 * i) (c3 - 64 * i)) := by show _ = _; rw [hA6, show 64 * (i + 1) - 64 * i = 64 by omega]
    have LC : Hid (64 * (i + 1) ≤ c3) := by have := cN.out; show _ ≤ _; omega
    clear hD hE hA6
    go_upto_region 12 with (fail)
    refine wp_region_quiet_tail (C := Calm wr) 9 (by kernel_rfl) (by kernel_rfl) (Calm.start _ _ (Fr.refl _ _)) ?_
    simp only [List.take_succ_cons, List.take_zero, List.drop_succ_cons, List.drop_zero]
    refine BigFrame.wpQuiet_want rfl fun K hK => quiet_load 51 (.tmp 9) rfl (q9) rfl 51 _ (0, 0) _ (fun _ h => Calm.at hV.out h) Try.underlying51 rfl sD.out (hK _ ?_)
    refine BigFrame.wpQuiet_want rfl fun K hK => ?_
    try simp only [Act.put, List.setIfInBounds_toArray, List.set_cons_succ, List.set_cons_zero]
    go_big_quiet_op
    refine hK _ ?_
    refine BigFrame.wpQuiet_want rfl fun K hK => ?_
    try simp only [Act.put, List.setIfInBounds_toArray, List.set_cons_succ, List.set_cons_zero]
    go_big_quiet_op
    refine hK _ ?_
    refine BigFrame.wpQuiet_want rfl fun K hK => ?_
    try simp only [Act.put, List.setIfInBounds_toArray, List.set_cons_succ, List.set_cons_zero]
    go_big_quiet_op
    refine hK _ ?_
    refine BigFrame.wpQuiet_want rfl fun K hK => ?_
    try simp only [Act.put, List.setIfInBounds_toArray, List.set_cons_succ, List.set_cons_zero]
    go_big_quiet_op
    first
      | refine ⟨_, fun _ _ => rfl, hK _ ?_⟩
      | refine hK _ ?_
    refine BigFrame.wpQuiet_want rfl fun K hK => quiet_run (.slice A6 64 (c3 - 64 * i)) (fun W _ => run_slice_midV (.tmp 58) (.tmp 59) (.tmp 61) A3 N c3 (64 * i) (64 * (i + 1)) (64 * (i : Int)) (64 * (i : Int) + 64) _ (by omega) (by omega) HV6.out (by omega) LC.out rfl rfl rfl rfl W) (hK _ ?_)
    refine BigFrame.wpQuiet_want rfl fun K hK => ?_
    try simp only [Act.put, List.setIfInBounds_toArray, List.set_cons_succ, List.set_cons_zero]
    go_big_quiet_op
    refine hK _ ?_
    refine BigFrame.wpQuiet_want rfl fun K hK => ?_
    try simp only [Act.put, List.setIfInBounds_toArray, List.set_cons_succ, List.set_cons_zero]
    go_big_quiet_op
    first
      | refine ⟨_, fun _ _ => rfl, hK _ ?_⟩
      | refine hK _ ?_
    refine BigFrame.wpQuiet_want rfl fun K hK => ?_
    try simp only [Act.put, List.setIfInBounds_toArray, List.set_cons_succ, List.set_cons_zero]
    go_big_quiet_op
    refine ⟨_, fun V hV => (CP V hV).mono (fun _ _ ⟨he, hf⟩ => ⟨he, Fr.trans hV hf⟩), hK _ ?_⟩
    refine wpQuiet_nil ?_
    intro w9 hw9
    have G9 := Lib.hid hw9
    clear hw9
    try simp only [Act.put, List.setIfInBounds_toArray, List.set_cons_succ, List.set_cons_zero]
    refine wpList_store_row rfl 51 (.tmp 9) (.tmp 65) rfl q9 (vs .u32 E) rfl rfl 51 (vs .u32 D) (Ar.fr hV.out G9.out (fun x => x)) sE.out eE.out (vs_all _ _) ?_
    have V9 : Hid (Ar (w9.setRow q9 (vs .u32 E)) q9 51 .u32 (eat H L (i + 1))) := by rw [← HE.out]; exact (Ar.fr hV.out G9.out (fun x => x)).row E
    have K9 : Hid (Fr (fun j => j = q9) W5 (w9.setRow q9 (vs .u32 E))) := (hF.out.trans G9.out.any).setRow _ (.inl rfl)
    generalize w9.setRow q9 (vs .u32 E) = Y9 at *
    clear hV hF G9 HE CP SM sD sE eE LC HV6
    try simp only [Act.put, List.setIfInBounds_toArray, List.set_cons_succ, List.set_cons_zero]
    go_wp2
    go_roundw
    case rel => exact ⟨i + 1, by rw [show (64 * (i : Int) + 64) = 64 * ((i + 1 : Nat) : Int) by omega], by omega, V9, K9⟩
    case measure => simp [intOf]; omega
  obtain rfl : i = nbl N := by omega
  obtain ⟨V, rfl⟩ : ∃ V : World, V = wr := ⟨_, rfl⟩
  obtain ⟨D, hD⟩ : ∃ D, D = eat H L (nbl N) := ⟨_, rfl⟩
  have OD : Hid (V8 D) := by rw [hD]; exact eat_ok OH.out _ _
  rw [← hD] at hV
  obtain ⟨nb, hnb⟩ : ∃ n, n = nbl N := ⟨_, rfl⟩
  have b1 : 64 * nb ≤ N := by rw [hnb]; exact nbl_le N
  have b2 : N - 64 * nb ≤ 64 := by rw [hnb]; exact nbl_rest N
  obtain ⟨R, hR⟩ : ∃ R, R = digh H L := ⟨_, rfl⟩
  have OR : Hid (V8 R) := by rw [hR]; exact digh_ok OH.out _
  rw [← hnb]
  obtain ⟨X, hX⟩ : ∃ X, X = L.drop (64 * nb) := ⟨_, rfl⟩
  have lX : Hid (X.length = N - 64 * nb) := by show _ = _; rw [hX, List.length_drop, lL.out]
  have HRD : Hid (R = prs D (padz X) (N : Int) true) := by show _ = _; rw [hR, eat_last H L N lL.out, ← hD, ← hnb, ← hX]
  obtain ⟨A7, hA7⟩ : ∃ A, A = cutA A3 c3 (64 * nb) := ⟨_, rfl⟩
  have S7 : Hid (Sl V gi (.slice A7 (N - 64 * nb) (c3 - 64 * nb)) X) := by rw [hA7, hX]; exact (S5.out.fr hF.out (fun _ e => NG.out e)).from_ (64 * nb) b1
  have HV7 : Hid (Value.slice A7 (N - 64 * nb) (c3 - 64 * nb) = .slice (cutA A3 c3 (64 * nb)) (N - 64 * nb) (c3 - 64 * nb)) := by show _ = _; rw [hA7]
  have NB : Hid (64 * nb ≤ N ∧ N - 64 * nb ≤ 64) := ⟨b1, b2⟩
  have HRE : Hid (dig sz k b = (bsw R).take sz) := by show _ = _; rw [HR.out, ← hR]
  have j1 : IntKind.i64.wrap ((N : Int) - 64 * (nb : Int)) = (N : Int) - 64 * (nb : Int) := by have := bN.out; rw [IntKind.wrap_i64]; omega
  have j2 : ¬ 64 < (N : Int) - 64 * (nb : Int) := by omega
  have G5 : Hid (Fr (fun _ => False) w V) := F5.out.trans' hF.out (fun j hj e => by have := N9.out.1; omega)
  clear hD hnb b1 b2 hR hX hA7 hF hil hi F5 HR
  go_upto_region 14 with (fail)
  obtain ⟨Z6, hZ6⟩ : ∃ Z, Z = List.replicate 64 (0 : Int) := ⟨_, rfl⟩
  have E6 : Hid (Z6 = List.replicate 64 0) := hZ6
  have lZ6 : Hid (64 ≤ Z6.length) := by show _ ≤ _; rw [hZ6]; simp
  clear hZ6
  go_upto_region 15 with (refine wpList_make rfl _ _ rfl 64 (by decide) rfl rfl Z6 E6.out ?_)
  clear j1 j2
  obtain ⟨qb, hqb⟩ : ∃ q, q = V.heap.size := ⟨_, rfl⟩
  have FQ : Fr (fun _ => False) V (V.alloc (.cells (vs .u8 Z6) 5)) := (Fr.refl _ V).alloc _
  have B6 : Hid (Ar (V.alloc (.cells (vs .u8 Z6) 5)) qb 5 .u8 Z6) := by rw [hqb]; exact Ar.new V 5 .u8 _
  have NB6 : Hid (q9 ≠ qb ∧ w.heap.size ≤ qb) := by
    have h1 := hV.out.lt
    have h2 := G5.out.size
    show q9 ≠ qb ∧ w.heap.size ≤ qb
    omega
  have V6 := Lib.hid (hV.out.fr FQ (fun x => x))
  have S6 := Lib.hid (S7.out.fr FQ (fun _ x => x))
  have F6 := Lib.hid (G5.out.trans FQ)
  have SG : Hid (X = [] ∨ gi ≠ qb) := by
    by_cases hx : X = []
    · exact .inl hx
    · have := S7.out.lt6 hx
      refine .inr ?_
      omega
  rw [← hqb]
  generalize V.alloc (.cells (vs .u8 Z6) 5) = W6 at *
  clear FQ hqb hV S7 G5 S5
  have Sx : Hid (Sl W6 gi (.slice A7 (N - 64 * nb) (c3 - 64 * nb)) X) := S6
  go_upto_region 16 with (first
    | refine wpList_plain rfl fun K' hK' => wp_value (.slice A7 (N - 64 * nb) (c3 - 64 * nb)) _ (run_slice_fromV (.tmp 70) (.tmp 71) A3 N c3 (64 * nb) (64 * (nb : Int)) _ (by omega) HV7.out NB.out.1 cN.out rfl rfl rfl W6) (hK' _ _ ?_)
    | (refine wpList_copy_head rfl (.tmp 69) (.tmp 72) rfl qb 64 64 rfl A7 (N - 64 * nb) (c3 - 64 * nb) gi X rfl Sx.out NB.out.2 5 Z6 B6.out lZ6.out ?_; intro w7 ha7 hf7; have B7 := Lib.hid ha7; have F7 := Lib.hid hf7; clear ha7 hf7))
  have P7 : Hid (Ar w7 qb 5 .u8 (padz X)) := by
    have h := B7.out
    rwa [E6.out, List.drop_replicate, ← lX.out] at h
  have V7 := Lib.hid (V6.out.fr F7.out (fun e => NB6.out.1 e))
  have K7 : Hid (Fr (fun _ => False) w w7) := F6.out.trans' F7.out (fun j hj e => by have := NB6.out.2; omega)
  have lP : Hid ((padz X).length = 64) := by have h1 := lX.out; have h2 := NB.out.2; show _ = _; rw [padz, List.length_append, List.length_replicate, h1]; omega
  have bP : Hid (Bys (padz X)) := Sx.out.1.append (noughts6' _)
  obtain ⟨PX, hPX⟩ : ∃ P, P = padz X := ⟨_, rfl⟩
  rw [← hPX] at P7 lP bP HRD
  have S8 : Hid (Sl w7 qb (.slice (some ⟨qb, 0, none⟩) 64 64) PX) := P7.out.slt bP.out lP.out (by decide)
  have CP : ∀ W, Fr (fun _ => False) w7 W → Calls Try.prog 42 #[.agg (vs .u32 D), .slice (some ⟨qb, 0, none⟩) 64 64, .int .i64 (N : Int), .bool true] W fun e w' => e = .returned (.agg (vs .u32 R)) ∧ Fr (fun _ => False) W w' := fun W hf => by
    rw [HRD.out]
    exact rpress_yes D PX _ qb _ 64 W OD.out (S8.out.fr hf (fun _ x => x)) (by omega) (by have := bN.out; omega)
  have sD : Hid ((Try.prog.info? 51).map (·.size) = some (vs .u32 D).size) := by show _ = _; rw [sz48, vs_size, OD.out.1]
  have sR : Hid ((Try.prog.info? 51).map (·.size) = some (vs .u32 R).size) := by show _ = _; rw [sz48, vs_size, OR.out.1]
  have eR : Hid ((vs .u32 D).size = (vs .u32 R).size) := by show _ = _; rw [vs_size, vs_size, OD.out.1, OR.out.1]
  clear B7 F7 V6 S6 F6 SG Sx B6 E6 HV7 hPX P7
  go_upto_region 17 with (first
    | refine wpList_load_row rfl 51 (.tmp 9) rfl q9 rfl 51 (vs .u32 D) (0, 0) _ V7.out Try.underlying51 rfl sD.out ?_
    | (go_at_call 42; refine (CP _ (Fr.refl _ _)).mono ?_; rintro e w8 ⟨rfl, hf⟩; have F8 := Lib.hid hf; clear hf)
    | refine wpList_store_row rfl 51 (.tmp 9) (.tmp 78) rfl q9 (vs .u32 R) rfl rfl 51 (vs .u32 D) (Ar.fr V7.out F8.out (fun x => x)) sR.out eR.out (vs_all _ _) ?_)
  have V9 : Hid (Ar (w8.setRow q9 (vs .u32 R)) q9 51 .u32 R) := (Ar.fr V7.out F8.out (fun x => x)).row R
  have F9 : Hid (Fr (fun _ => False) w (w8.setRow q9 (vs .u32 R))) := (K7.out.trans F8.out).setRow _ (.inr N9.out.1)
  generalize w8.setRow q9 (vs .u32 R) = W9 at *
  clear V7 K7 F8 CP sD sR eR S8 lP bP HRD OD
  try simp only [Act.put, List.setIfInBounds_toArray, List.set_cons_succ, List.set_cons_zero]
  go_upto_region 19 with (fail)
  obtain ⟨DG, hDG⟩ : ∃ D, D = bsw R := ⟨_, rfl⟩
  have lD : Hid (DG.length = 32) := by show _ = _; rw [hDG, bsw_length, OR.out.1]
  have HAT : Hid (∀ i : Nat, i < 32 → ∃ x, R[i / 4]? = some x ∧ Wd x ∧ DG[i]? = some (x / 2 ^ (8 * (i % 4)) % 256)) := by
    show ∀ _, _
    intro i hi
    have h := OR.out.get (i := i / 4) (by omega)
    exact ⟨_, h.1, h.2, by rw [hDG]; exact bsw_at R i _ h.1⟩
  have HRF : Hid (dig sz k b = DG.take sz) := by show _ = _; rw [HRE.out, hDG]
  have O9 : Hid (Nw W9 W9 (.slice none 0 0) (DG.take 0)) := by rw [List.take_zero]; exact Nw.nil _ _
  clear hDG HRE
  go_loopw [12, 13] (fun u12 u13 wr => ∃ (i n cc : Nat) (B : Option Addr), u12 = .slice B n cc ∧ u13 = .int .i64 i ∧ i ≤ sz ∧ Hid (Nw W9 wr (.slice B n cc) (DG.take i)) ∧ Hid (Fr (fun _ => False) W9 wr)) (fun _ u13 _ => sz - (intOf u13).toNat)
  case atStart => exact ⟨0, 0, 0, none, rfl, rfl, by omega, O9, Lib.hid (Fr.refl _ _)⟩
  case round =>
  clear O9
  obtain ⟨i, n, cc, B, rfl, rfl, hi, hO, hF⟩ := hrel
  by_cases hil : i < sz
  · have hs1 := HS.out.2.1
    obtain ⟨x, hx, wx, hy⟩ := HAT.out i (by omega)
    have cV := (V9.out.fr hF.out (fun x => x)).cell hx
    have ht := take_snoc hy
    obtain ⟨y, hyy⟩ : ∃ y : Int, x / 2 ^ (8 * (i % 4)) % 256 = y := ⟨_, rfl⟩
    rw [hyy] at ht
    have hyb : Hid (0 ≤ y ∧ y ≤ 255) := by show _ ∧ _; omega
    have HT := Lib.hid ht
    obtain ⟨q, hq⟩ : ∃ q, q = i / 4 := ⟨_, rfl⟩
    obtain ⟨r, hr⟩ : ∃ r, r = i % 4 := ⟨_, rfl⟩
    rw [← hq] at cV
    rw [← hr] at hyy
    have q8 : q < 8 := by omega
    have r4 : r < 4 := by omega
    have d1 : (i : Int).tdiv 4 = (q : Int) := by rw [Int.tdiv_eq_ediv_of_nonneg (by omega)]; omega
    have d2 : (i : Int).tmod 4 = (r : Int) := by rw [Int.tmod_eq_emod_of_nonneg (by omega)]; omega
    have d3 : IntKind.i64.wrap (q : Int) = q := by rw [IntKind.wrap_i64]; omega
    have d4 : IntKind.i64.wrap (8 * (r : Int)) = 8 * r := by rw [IntKind.wrap_i64]; omega
    have d5 : ((q : Int)).toNat = q := by omega
    have d6 : 0 ≤ (q : Int) := by omega
    have d7 : (q : Int) < 8 := by omega
    have j3 : (i : Int) < sz := by omega
    have d8 : (8 * (r : Int)).toNat = 8 * r := by omega
    have d9 : 0 ≤ 8 * (r : Int) := by omega
    have lT : Hid ((DG.take i).length = i) := by show _ = _; rw [List.length_take, lD.out]; omega
    have h0 := wx.1
    clear ht hy hx hq hr
    go_upto_region 20 with (at_builtin; refine wpList_own rfl (.tmp 84) (.tmp 94) rfl (hO.out.1.keep (S := fun _ => False) ((Fr.refl _ _).alloc (.cells #[.int .u8 y] 5)) (fun _ _ x => x)) rfl rfl (lit_sl wr y hyb.out) (by rw [lT.out]; omega) ?_; intro A4 N4 c4 w4 hap hN; have HA := Lib.hid hap; clear hap hN)
    obtain ⟨r1, r2⟩ := hO.out.app hF.out ((Fr.refl _ _).alloc _) HA.out
    rw [HT.out] at r1
    have R1 := Lib.hid r1
    have R2 := Lib.hid r2
    clear r1 r2 HA hyy cV
    go_wp2
    go_roundw
    case rel => exact ⟨i + 1, N4, c4, A4, rfl, by go_num, by omega, R1, R2⟩
    case measure => simp [intOf]; omega
  obtain rfl : i = sz := by omega
  go_wp2
  go_ret2
  exact ⟨_, rfl, by rw [HRF.out]; exact hO.out.of F9.out, F9.out.trans hF.out⟩
end Go.Proofs.Ytebknlhooijkcaa
