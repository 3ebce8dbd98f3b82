/- The reference's Small and Inv: contracts. Each says its condition. -/
import Derived.Test.YtbkbodcncjhcmaaRefM
import Derived.Test.YtbkbodcncjhcmaaInv
import Derived.Deep.Cut
namespace Go.Proofs.Ytbkbodcncjhcmaa
open Go.RowKit

/-- The digits of a small number. -/
def sml (n : Int) : List Int := [n % 65536, n / 65536, 0, 0, 0, 0, 0, 0, 0, 0, 0, 0, 0, 0, 0, 0]
theorem sml_ok (n : Int) (h0 : 0 ≤ n) (h1 : n ≤ 4294967295) : NumOf (sml n) n := by
  refine ⟨rfl, ?_, ?_⟩
  · intro b hb
    simp only [sml, List.mem_cons, List.not_mem_nil, or_false] at hb
    omega
  · simp only [sml, vd]
    unfold pp
    omega
theorem u32_and65535 (n : Int) (h0 : 0 ≤ n) (h1 : n ≤ 4294967295) : bits .and .u32 n 65535 = n % 65536 := by
  obtain ⟨n, rfl⟩ := Int.eq_ofNat_of_zero_le h0
  have h := u32_and_nat n 65535 (by omega) (by omega)
  have e : n &&& 65535 = n % 65536 := Nat.and_two_pow_sub_one_eq_mod n 16
  rw [e] at h
  exact h

set_option maxHeartbeats 1000000 in
theorem rsmall_is (n : Int) (w : World) (h0 : 0 ≤ n) (h1 : n ≤ 4294967295) :
    Calls Try.prog 31 #[.int .u32 n] w fun e w' => e = .returned (nm (sml n)) ∧ Fr (fun _ => False) w w' := by
  have ha := u32_and65535 n h0 h1
  obtain ⟨Z, hZ⟩ : ∃ Z, Z = List.replicate 16 (0 : Int) := ⟨_, rfl⟩
  obtain ⟨S, hS⟩ : ∃ S, S = sml n := ⟨_, rfl⟩
  have HZ : Hid (Z = List.replicate 16 0 ∧ S = sml n ∧ S = (Z.set 0 (n % 65536)).set 1 (n / 65536)) := ⟨hZ, hS, by rw [hZ, hS]; rfl⟩
  have hz : ∀ W : World, (zeroValue 49).run Try.prog W = .ok (.agg (vs .i64 Z)) W := fun W => by rw [hZ]; kernel_rfl
  have HS1 : Hid ((Try.prog.info? 49).map (·.size) = some (vs .i64 S).size) := by show _ = _; rw [size31, vs_size, hS]; rfl
  have HS2 : Hid ((vs .i64 Z).size = (vs .i64 S).size) := by show _ = _; rw [vs_size, vs_size, hS, hZ]; rfl
  clear hZ hS
  go_enter Try.func31, Try.ntmps31
  go_upto_region 2 with (fail)
  generalize hW : (w.alloc (.cells (vs .i64 Z) 49)).alloc (.cells (vs .i64 Z) 49) = W0
  have HW := Lib.hid (calm2 hW)
  clear hW
  have HX : Hid (Ar W0 (w.heap.size + 1) 49 .i64 Z) := HW.out.2.1
  have HR : Hid (Ar W0 w.heap.size 49 .i64 Z) := HW.out.1
  have c0 := HX.out.cell (i := 0) (x := 0) (by rw [HZ.out.1]; rfl)
  have f0 := HX.out.frozen 0
  have HX1 : Hid (Ar (W0.setCell ⟨w.heap.size + 1, 0, none⟩ (.int .i64 (n % 65536))) (w.heap.size + 1) 49 .i64 (Z.set 0 (n % 65536))) := HX.out.set 0 _
  have c1 := HX1.out.cell (i := 1) (x := 0) (by rw [HZ.out.1]; rfl)
  have f1 := HX1.out.frozen 1
  have HX2 : Hid (Ar ((W0.setCell ⟨w.heap.size + 1, 0, none⟩ (.int .i64 (n % 65536))).setCell ⟨w.heap.size + 1, 1, none⟩ (.int .i64 (n / 65536))) (w.heap.size + 1) 49 .i64 S) := by
    show Ar _ _ _ _ _
    rw [HZ.out.2.2]
    exact HX1.out.set 1 _
  have HR2 : Hid (Ar ((W0.setCell ⟨w.heap.size + 1, 0, none⟩ (.int .i64 (n % 65536))).setCell ⟨w.heap.size + 1, 1, none⟩ (.int .i64 (n / 65536))) w.heap.size 49 .i64 Z) := (HR.out.far (by simp) _).far (by simp) _
  go_wp2_with (first
    | refine wpList_load_row rfl 49 (.tmp 3) rfl (w.heap.size + 1) rfl 49 (vs .i64 S) (0, 0) _ HX2.out Try.underlying49 rfl HS1.out ?_
    | refine wpList_store_row rfl 49 (.tmp 2) (.tmp 12) rfl w.heap.size (vs .i64 S) rfl rfl 49 _ HR2.out HS1.out HS2.out (vs_all _ _) ?_)
  exact bodyPost_ret (results_cell_row Try.results31 _ _ _ 49 _ (0, 0) _ rfl (HR2.out.row _) Try.underlying49 rfl HS1.out) rfl ⟨congrArg (fun q => Ending.returned (nm q)) HZ.out.2.1, Fr.setRow ((HW.out.2.2.setCell _ (.inr (by simp))).setCell _ (.inr (by simp))) _ (.inr (by omega))⟩

/-- So many rounds of the reference's power. -/
def rv (y : List Int) : Nat → List Int
  | 0 => sml 1
  | j + 1 => if ex (254 - j) % 2 = 1 then rmul (rmul (rv y j) (rv y j)) y else rmul (rv y j) (rv y j)
theorem rv_ok {y : List Int} {v : Int} (h : NumOf y v) (j : Nat) (hj : j ≤ 255) : NumOf (rv y j) (pwr v (ex (255 - j))) := by
  induction j with
  | zero =>
    have : ex (255 - 0) = 0 := by decide +kernel
    have h0 : pwr v 0 = 1 := by
      unfold pwr
      rw [Int.pow_zero]
      decide
    rw [this, h0]
    exact sml_ok 1 (by decide) (by decide)
  | succ j ih =>
    have ih := ih (by omega)
    have h1 := rmul_ok ih ih
    rw [← pwr_twice] at h1
    have h2 := ex_next (254 - j)
    rw [show 254 - j + 1 = 255 - j by omega] at h2
    rw [show 255 - (j + 1) = 254 - j by omega, h2]
    simp only [rv]
    by_cases hb : ex (254 - j) % 2 = 1
    · rw [if_pos hb, hb]
      have h3 := rmul_ok h1 h
      rw [← pwr_next] at h3
      exact h3
    · rw [if_neg hb, show ex (254 - j) % 2 = 0 by omega, Nat.add_zero]
      exact h1
theorem bit_of : ∀ i, i < 255 → ∃ b, (lb 32 (pp - 2))[i / 8]? = some b ∧ 0 ≤ b ∧ b ≤ 255 ∧ b / 2 ^ (i % 8) % 2 = ((ex i % 2 : Nat) : Int) := by
  have h : (List.range 255).all (fun i => match (lb 32 (pp - 2))[i / 8]? with
    | some b => decide (0 ≤ b ∧ b ≤ 255 ∧ b / 2 ^ (i % 8) % 2 = ((ex i % 2 : Nat) : Int))
    | none => false) = true := by decide +kernel
  intro i hi
  rw [List.all_eq_true] at h
  have h2 := h i (by simpa using hi)
  split at h2
  · rename_i b hb
    exact ⟨b, hb, by simpa using h2⟩
  · cases h2

set_option maxRecDepth 100000 in
set_option maxHeartbeats 4000000 in
theorem rinv_is (y : List Int) (v : Int) (w : World) (hy : NumOf y v) :
    Calls Try.prog 35 #[nm y] w fun e w' => e = .returned (nm (rv y 255)) ∧ Fr (fun _ => False) w w' := by
  have HY := Lib.hid hy
  obtain ⟨Z, hZ⟩ : ∃ Z, Z = List.replicate 16 (0 : Int) := ⟨_, rfl⟩
  obtain ⟨Z2, hZ2⟩ : ∃ Z, Z = List.replicate 32 (0 : Int) := ⟨_, rfl⟩
  obtain ⟨L, hL⟩ : ∃ L, L = lb 32 pp := ⟨_, rfl⟩
  obtain ⟨L2, hL2⟩ : ∃ L, L = lb 32 (pp - 2) := ⟨_, rfl⟩
  have HZ : Hid (Z = List.replicate 16 0 ∧ Z2 = List.replicate 32 0 ∧ L = lb 32 pp ∧ L2 = lb 32 (pp - 2) ∧ Z.length = 16 ∧ Z2.length = 32 ∧ L.length = 32) := ⟨hZ, hZ2, hL, hL2, by rw [hZ]; rfl, by rw [hZ2]; rfl, by rw [hL, lb_length]⟩
  have C1 : ∀ W, Calls Try.prog 31 #[.int .u32 1] W fun e w' => e = .returned (.agg (vs .i64 (rv y 0))) ∧ Fr (fun _ => False) W w' := fun W => rsmall_is 1 W (by decide) (by decide)
  have C2 : ∀ W, Calls Try.prog 44 #[] W fun e w' => e = .returned (.agg (vs .u8 L)) ∧ Fr (fun _ => False) W w' := fun W => by rw [hL]; exact prime_is W
  have hs31 : ∀ l : List Int, l.length = 16 → (Try.prog.info? 49).map (·.size) = some (vs .i64 l).size := fun l h => by rw [size31, vs_size, h]
  have HS31 := Lib.hid hs31
  have HSP : Hid ((Try.prog.info? 22).map (·.size) = some (vs .u8 L).size) := by show _ = _; rw [size22, vs_size, HZ.out.2.2.2.2.2.2]
  have hz : ∀ W : World, (zeroValue 49).run Try.prog W = .ok (.agg (vs .i64 Z)) W := fun W => by rw [hZ]; kernel_rfl
  have hz2 : ∀ W : World, (zeroValue 22).run Try.prog W = .ok (.agg (vs .u8 Z2)) W := fun W => by rw [hZ2]; kernel_rfl
  clear hy hs31 hZ hZ2 hL hL2
  unfold nm
  go_enter Try.func35, Try.ntmps35
  go_wp2_with fail
  refine (C1 _).mono ?_
  rintro e w1 ⟨rfl, hf⟩
  have E := calm2 (w := w) (A := .cells (vs .i64 y) 49) (B := .cells (vs .i64 Z) 49) rfl
  have A1 : Hid (Ar w1 w.heap.size 49 .i64 y) := (hf.block _ (heap_lt E.1) (fun x => x)).trans E.1
  have R1 : Hid (Ar w1 (w.heap.size + 1) 49 .i64 Z) := (hf.block _ (heap_lt E.2.1) (fun x => x)).trans E.2.1
  have F1 : Hid (Fr (fun _ => False) w w1) := E.2.2.trans hf
  have hs1 : w.heap.size + 1 < w1.heap.size := R1.out.lt
  obtain ⟨q1, hq1⟩ : ∃ q, q = w1.heap.size := ⟨_, rfl⟩
  have HQ1 := Lib.hid hq1
  have hs2 : w.heap.size + 1 < q1 := by omega
  clear hf E hq1
  go_wp2_with (
    (refine wpList_store_row rfl 49 (.tmp 3) (.tmp 6) rfl w1.heap.size (vs .i64 (rv y 0)) rfl rfl 49 (vs .i64 Z) (heap_alloc_new w1 _) (HS31.out _ (rv_ok HY.out 0 (by omega)).len) (by rw [vs_size, vs_size, (rv_ok HY.out 0 (by omega)).len, HZ.out.2.2.2.2.1]) (vs_all _ _) ?_
     rw [← HQ1.out]
     have A2 : Hid (Ar ((w1.alloc (.cells (vs .i64 Z) 49)).setRow q1 (vs .i64 (rv y 0))) w.heap.size 49 .i64 y) := (A1.out.alloc _).rowFar (by omega) _
     have R2 : Hid (Ar ((w1.alloc (.cells (vs .i64 Z) 49)).setRow q1 (vs .i64 (rv y 0))) (w.heap.size + 1) 49 .i64 Z) := (R1.out.alloc _).rowFar (by omega) _
     have X2 : Hid (Ar ((w1.alloc (.cells (vs .i64 Z) 49)).setRow q1 (vs .i64 (rv y 0))) q1 49 .i64 (rv y 0)) := by
       have h := (Ar.new w1 49 .i64 Z).row (rv y 0)
       rw [← HQ1.out] at h
       exact h
     have F2 : Hid (Fr (fun _ => False) w ((w1.alloc (.cells (vs .i64 Z) 49)).setRow q1 (vs .i64 (rv y 0)))) := (F1.out.alloc _).setRow _ (.inr (by omega))
     generalize ((w1.alloc (.cells (vs .i64 Z) 49)).setRow q1 (vs .i64 (rv y 0))) = w2 at *
     clear A1 R1 F1 HQ1 C1))
  go_wp2_with fail
  refine (C2 _).mono ?_
  rintro e w3 ⟨rfl, hf⟩
  have A3 : Hid (Ar w3 w.heap.size 49 .i64 y) := A2.out.fr hf (fun x => x)
  have R3 : Hid (Ar w3 (w.heap.size + 1) 49 .i64 Z) := R2.out.fr hf (fun x => x)
  have X3 : Hid (Ar w3 q1 49 .i64 (rv y 0)) := X2.out.fr hf (fun x => x)
  have F3 : Hid (Fr (fun _ => False) w w3) := F2.out.trans hf
  have hs3 : q1 < w3.heap.size := X3.out.lt
  obtain ⟨q2, hq2⟩ : ∃ q, q = w3.heap.size := ⟨_, rfl⟩
  have HQ2 := Lib.hid hq2
  have hs4 : q1 < q2 := by omega
  clear hf hq2 A2 R2 X2 F2 C2
  go_wp2_with (
    (refine wpList_store_row rfl 22 (.tmp 4) (.tmp 7) rfl w3.heap.size (vs .u8 L) rfl rfl 22 (vs .u8 Z2) (heap_alloc_new w3 _) HSP.out (by rw [vs_size, vs_size, HZ.out.2.2.2.2.2.1, HZ.out.2.2.2.2.2.2]) (vs_all _ _) ?_
     rw [← HQ2.out]
     have A4 : Hid (Ar ((w3.alloc (.cells (vs .u8 Z2) 22)).setRow q2 (vs .u8 L)) w.heap.size 49 .i64 y) := (A3.out.alloc _).rowFar (by omega) _
     have R4 : Hid (Ar ((w3.alloc (.cells (vs .u8 Z2) 22)).setRow q2 (vs .u8 L)) (w.heap.size + 1) 49 .i64 Z) := (R3.out.alloc _).rowFar (by omega) _
     have X4 : Hid (Ar ((w3.alloc (.cells (vs .u8 Z2) 22)).setRow q2 (vs .u8 L)) q1 49 .i64 (rv y 0)) := (X3.out.alloc _).rowFar (by omega) _
     have P4 : Hid (Ar ((w3.alloc (.cells (vs .u8 Z2) 22)).setRow q2 (vs .u8 L)) q2 22 .u8 L) := by
       have h := (Ar.new w3 22 .u8 Z2).row L
       rw [← HQ2.out] at h
       exact h
     have F4 : Hid (Fr (fun _ => False) w ((w3.alloc (.cells (vs .u8 Z2) 22)).setRow q2 (vs .u8 L))) := (F3.out.alloc _).setRow _ (.inr (by omega))
     generalize ((w3.alloc (.cells (vs .u8 Z2) 22)).setRow q2 (vs .u8 L)) = w4 at *
     clear A3 R3 X3 F3 HQ2
     have pc := P4.out.cell (i := 0) (x := 237) (by rw [HZ.out.2.2.1]; decide +kernel)
     have pf := P4.out.frozen 0
     have P5 : Hid (Ar (w4.setCell ⟨q2, 0, none⟩ (.int .u8 235)) q2 22 .u8 L2) := by
       have h := P4.out.set 0 235
       have e : L.set 0 235 = L2 := by
         rw [HZ.out.2.2.1, HZ.out.2.2.2.1]
         decide +kernel
       rwa [e] at h
     have A5 : Hid (Ar (w4.setCell ⟨q2, 0, none⟩ (.int .u8 235)) w.heap.size 49 .i64 y) := A4.out.far (by simp <;> omega) _
     have R5 : Hid (Ar (w4.setCell ⟨q2, 0, none⟩ (.int .u8 235)) (w.heap.size + 1) 49 .i64 Z) := R4.out.far (by simp <;> omega) _
     have X5 : Hid (Ar (w4.setCell ⟨q2, 0, none⟩ (.int .u8 235)) q1 49 .i64 (rv y 0)) := X4.out.far (by simp <;> omega) _
     have F5 : Hid (Fr (fun _ => False) w (w4.setCell ⟨q2, 0, none⟩ (.int .u8 235))) := F4.out.setCell _ (.inr (by simp <;> omega))))
  go_loopw [5] (fun u5 wr => ∃ (j : Nat) (x : Int), u5 = .int .i64 x ∧ Hid (x = 254 - (j : Int)) ∧ j ≤ 255 ∧ Hid (Ar wr w.heap.size 49 .i64 y) ∧ Hid (Ar wr (w.heap.size + 1) 49 .i64 Z) ∧ Hid (Ar wr q1 49 .i64 (rv y j)) ∧ Hid (Ar wr q2 22 .u8 L2) ∧ Hid (Fr (fun _ => False) w wr))
    (fun u5 _ => (intOf u5 + 1).toNat)
  case atStart => exact ⟨0, 254, rfl, rfl, by omega, A5, R5, X5, P5, F5⟩
  case round =>
    clear A5 R5 X5 P5 F5 A4 R4 X4 P4 F4 pc pf hz hz2
    obtain ⟨j, x, rfl, hx, hj, hA, hR, hX, hP, hF⟩ := hrel
    have HJ := Lib.hid (rv_ok HY.out j hj)
    by_cases hlt : j < 255
    · obtain ⟨i, hi⟩ : ∃ i : Nat, i = 254 - j := ⟨_, rfl⟩
      obtain rfl : x = (i : Int) := by have := hx.out; omega
      obtain ⟨b, hb, b0, b9, hbit⟩ := bit_of i (by omega)
      rw [← HZ.out.2.2.2.1] at hb
      have cb := hP.out.cell hb
      obtain ⟨m, hm⟩ : ∃ m : Nat, i % 8 = m := ⟨_, rfl⟩
      obtain ⟨d, hd⟩ : ∃ d : Nat, i / 8 = d := ⟨_, rfl⟩
      rw [hm] at hbit
      rw [hd] at cb
      have hbd : Hid (L2[d]? = some b) := by show _ = _; rw [← hd]; exact hb
      have t1 : ((i : Int) / 8) = d := by omega
      have t2 : ((i : Int) % 8) = m := by omega
      have d9 : (d : Int) < 32 := by omega
      have m9 : m < 8 := by omega
      obtain ⟨c, hc⟩ : ∃ c, b / 2 ^ m = c := ⟨_, rfl⟩
      rw [hc] at hbit
      have c0 : 0 ≤ c := by rw [← hc]; exact Int.ediv_nonneg b0 (by have := (Int.pow_pos (n := 2) (m := m) (by decide)); omega)
      have c9 : c ≤ 255 := by
        have := Int.ediv_le_self (2 ^ m) b0
        omega
      have C1 : ∀ W, Calls Try.prog 34 #[.agg (vs .i64 (rv y j)), .agg (vs .i64 (rv y j))] W fun e w' => e = .returned (.agg (vs .i64 (rmul (rv y j) (rv y j)))) ∧ Fr (fun _ => False) W w' := fun W => rmul_is _ _ W ⟨HJ.out.len, HJ.out.digs⟩ ⟨HJ.out.len, HJ.out.digs⟩
      have HM := Lib.hid (rmul_ok HJ.out HJ.out)
      have C2 : ∀ W, Calls Try.prog 34 #[.agg (vs .i64 (rmul (rv y j) (rv y j))), .agg (vs .i64 y)] W fun e w' => e = .returned (.agg (vs .i64 (rmul (rmul (rv y j) (rv y j)) y))) ∧ Fr (fun _ => False) W w' := fun W => rmul_is _ _ W ⟨HM.out.len, HM.out.digs⟩ ⟨HY.out.len, HY.out.digs⟩
      have HM2 := Lib.hid (rmul_ok HM.out HY.out)
      have HI := Lib.hid hi
      clear hb hm hd hi
      by_cases hbt : ex i % 2 = 1
      · have hc2 : c % 2 = 1 := by rw [hbit, hbt]; rfl
        have HN : Hid (rmul (rmul (rv y j) (rv y j)) y = rv y (j + 1)) := by
          show _ = _
          simp only [rv]
          rw [← HI.out, if_pos hbt]
        have HBT := Lib.hid (And.intro hbt hbit)
        clear hbt hbit
        go_wp2_with (first
          | refine wpList_load_row (o := ⟨some 16, _, _, _, _, _⟩) rfl 49 (.tmp 3) rfl q1 rfl 49 (vs .i64 (rv y j)) (0, 0) _ hX.out Try.underlying49 rfl (HS31.out _ HJ.out.len) ?_
          | refine wpList_load_row (o := ⟨some 17, _, _, _, _, _⟩) rfl 49 (.tmp 3) rfl q1 rfl 49 (vs .i64 (rv y j)) (0, 0) _ hX.out Try.underlying49 rfl (HS31.out _ HJ.out.len) ?_)
        refine (C1 _).mono ?_
        rintro e w1 ⟨rfl, hf⟩
        have A1 : Hid (Ar w1 w.heap.size 49 .i64 y) := hA.out.fr hf (fun x => x)
        have R1 : Hid (Ar w1 (w.heap.size + 1) 49 .i64 Z) := hR.out.fr hf (fun x => x)
        have X1 : Hid (Ar w1 q1 49 .i64 (rv y j)) := hX.out.fr hf (fun x => x)
        have P1 : Hid (Ar w1 q2 22 .u8 L2) := hP.out.fr hf (fun x => x)
        have F1 : Hid (Fr (fun _ => False) w w1) := hF.out.trans hf
        clear hf
        go_wp2_with (first
          | (refine wpList_store_row rfl 49 (.tmp 3) (.tmp 18) rfl q1 (vs .i64 (rmul (rv y j) (rv y j))) rfl rfl 49 _ X1.out (HS31.out _ HM.out.len) (by rw [vs_size, vs_size, HM.out.len, HJ.out.len]) (vs_all _ _) ?_
             have A2 : Hid (Ar (w1.setRow q1 (vs .i64 (rmul (rv y j) (rv y j)))) w.heap.size 49 .i64 y) := A1.out.rowFar (by omega) _
             have R2 : Hid (Ar (w1.setRow q1 (vs .i64 (rmul (rv y j) (rv y j)))) (w.heap.size + 1) 49 .i64 Z) := R1.out.rowFar (by omega) _
             have X2 : Hid (Ar (w1.setRow q1 (vs .i64 (rmul (rv y j) (rv y j)))) q1 49 .i64 (rmul (rv y j) (rv y j))) := X1.out.row _
             have P2 : Hid (Ar (w1.setRow q1 (vs .i64 (rmul (rv y j) (rv y j)))) q2 22 .u8 L2) := P1.out.rowFar (by omega) _
             have F2 : Hid (Fr (fun _ => False) w (w1.setRow q1 (vs .i64 (rmul (rv y j) (rv y j))))) := F1.out.setRow _ (.inr (by omega))
             generalize (w1.setRow q1 (vs .i64 (rmul (rv y j) (rv y j)))) = w2 at *
             have cb2 := P2.out.cell hbd.out
             clear A1 R1 X1 P1 F1 C1 cb)
          | refine wpList_load_row rfl 49 (.tmp 3) rfl q1 rfl 49 (vs .i64 (rmul (rv y j) (rv y j))) (0, 0) _ X2.out Try.underlying49 rfl (HS31.out _ HM.out.len) ?_
          | refine wpList_load_row rfl 49 (.tmp 1) rfl w.heap.size rfl 49 (vs .i64 y) (0, 0) _ A2.out Try.underlying49 rfl (HS31.out _ HY.out.len) ?_)
        refine (C2 _).mono ?_
        rintro e w3 ⟨rfl, hf⟩
        have A3 : Hid (Ar w3 w.heap.size 49 .i64 y) := A2.out.fr hf (fun x => x)
        have R3 : Hid (Ar w3 (w.heap.size + 1) 49 .i64 Z) := R2.out.fr hf (fun x => x)
        have X3 : Hid (Ar w3 q1 49 .i64 (rmul (rv y j) (rv y j))) := X2.out.fr hf (fun x => x)
        have P3 : Hid (Ar w3 q2 22 .u8 L2) := P2.out.fr hf (fun x => x)
        have F3 : Hid (Fr (fun _ => False) w w3) := F2.out.trans hf
        clear hf
        go_wp2_with (refine wpList_store_row rfl 49 (.tmp 3) (.tmp 30) rfl q1 (vs .i64 (rmul (rmul (rv y j) (rv y j)) y)) rfl rfl 49 _ X3.out (HS31.out _ HM2.out.len) (by rw [vs_size, vs_size, HM.out.len, HM2.out.len]) (vs_all _ _) ?_)
        go_roundw
        case rel => exact ⟨j + 1, _, rfl, by show _ = _; have := hx.out; omega, by omega, A3.out.rowFar (by omega) _, R3.out.rowFar (by omega) _, by show Ar _ _ _ _ _; rw [← HN.out]; exact X3.out.row _, P3.out.rowFar (by omega) _, F3.out.setRow _ (.inr (by omega))⟩
        case measure => simp [intOf]
      · have hc2 : c % 2 = 0 := by rw [hbit]; omega
        have HN : Hid (rmul (rv y j) (rv y j) = rv y (j + 1)) := by
          show _ = _
          simp only [rv]
          rw [← HI.out, if_neg hbt]
        have HBT := Lib.hid (And.intro hbt hbit)
        clear hbt hbit
        go_wp2_with (first
          | refine wpList_load_row (o := ⟨some 16, _, _, _, _, _⟩) rfl 49 (.tmp 3) rfl q1 rfl 49 (vs .i64 (rv y j)) (0, 0) _ hX.out Try.underlying49 rfl (HS31.out _ HJ.out.len) ?_
          | refine wpList_load_row (o := ⟨some 17, _, _, _, _, _⟩) rfl 49 (.tmp 3) rfl q1 rfl 49 (vs .i64 (rv y j)) (0, 0) _ hX.out Try.underlying49 rfl (HS31.out _ HJ.out.len) ?_)
        refine (C1 _).mono ?_
        rintro e w1 ⟨rfl, hf⟩
        have A1 : Hid (Ar w1 w.heap.size 49 .i64 y) := hA.out.fr hf (fun x => x)
        have R1 : Hid (Ar w1 (w.heap.size + 1) 49 .i64 Z) := hR.out.fr hf (fun x => x)
        have X1 : Hid (Ar w1 q1 49 .i64 (rv y j)) := hX.out.fr hf (fun x => x)
        have P1 : Hid (Ar w1 q2 22 .u8 L2) := hP.out.fr hf (fun x => x)
        have F1 : Hid (Fr (fun _ => False) w w1) := hF.out.trans hf
        clear hf
        go_wp2_with (
          (refine wpList_store_row rfl 49 (.tmp 3) (.tmp 18) rfl q1 (vs .i64 (rmul (rv y j) (rv y j))) rfl rfl 49 _ X1.out (HS31.out _ HM.out.len) (by rw [vs_size, vs_size, HM.out.len, HJ.out.len]) (vs_all _ _) ?_
           have A2 : Hid (Ar (w1.setRow q1 (vs .i64 (rmul (rv y j) (rv y j)))) w.heap.size 49 .i64 y) := A1.out.rowFar (by omega) _
           have R2 : Hid (Ar (w1.setRow q1 (vs .i64 (rmul (rv y j) (rv y j)))) (w.heap.size + 1) 49 .i64 Z) := R1.out.rowFar (by omega) _
           have X2 : Hid (Ar (w1.setRow q1 (vs .i64 (rmul (rv y j) (rv y j)))) q1 49 .i64 (rmul (rv y j) (rv y j))) := X1.out.row _
           have P2 : Hid (Ar (w1.setRow q1 (vs .i64 (rmul (rv y j) (rv y j)))) q2 22 .u8 L2) := P1.out.rowFar (by omega) _
           have F2 : Hid (Fr (fun _ => False) w (w1.setRow q1 (vs .i64 (rmul (rv y j) (rv y j))))) := F1.out.setRow _ (.inr (by omega))
           generalize (w1.setRow q1 (vs .i64 (rmul (rv y j) (rv y j)))) = w2 at *
           have cb2 := P2.out.cell hbd.out
           clear A1 R1 X1 P1 F1 C1 cb))
        go_wp2
        go_roundw
        case rel => exact ⟨j + 1, _, rfl, by show _ = _; have := hx.out; omega, by omega, A2, R2, by show Ar _ _ _ _ _; rw [← HN.out]; exact X2.out, P2, F2⟩
        case measure => simp [intOf]
    · obtain rfl : j = 255 := by omega
      obtain rfl : x = -1 := by have := hx.out; omega
      go_wp2_with (first
        | refine wpList_load_row rfl 49 (.tmp 3) rfl q1 rfl 49 (vs .i64 (rv y 255)) (0, 0) _ hX.out Try.underlying49 rfl (HS31.out _ HJ.out.len) ?_
        | refine wpList_store_row rfl 49 (.tmp 2) (.tmp 31) rfl (w.heap.size + 1) (vs .i64 (rv y 255)) rfl rfl 49 _ hR.out (HS31.out _ HJ.out.len) (by rw [vs_size, vs_size, HJ.out.len, HZ.out.2.2.2.2.1]) (vs_all _ _) ?_)
      exact bodyPost_ret (results_cell_row Try.results35 _ _ _ 49 _ (0, 0) _ rfl (hR.out.row _) Try.underlying49 rfl (HS31.out _ HJ.out.len)) rfl ⟨rfl, Fr.setRow hF.out _ (.inr (by omega))⟩
end Go.Proofs.Ytbkbodcncjhcmaa
