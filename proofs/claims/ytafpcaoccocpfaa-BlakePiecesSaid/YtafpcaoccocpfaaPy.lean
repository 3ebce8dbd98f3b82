/- BlakePieces: what both halves of its proof have in common. Lemmas alone. -/
import Derived.Test.YtafpcaoccocpfaaLawNothing
import Derived.Test.YtafpcaoccocpfaaRw
namespace Go.Proofs.Ytafpcaoccocpfaa
set_option linter.unusedSimpArgs false
set_option linter.unusedVariables false
open Go.ChangeShapes Go.WideShapes Go.ChangeAt Go.RowKit

/-- A row of the call's own, ready to be written cell by cell. -/
theorem Nw.cl {W0 w : World} {A : Option Addr} {n c : Nat} {l : List Int} (h : Nw W0 w (.slice A n c) l) (b0 : Nat) (hb : b0 ≤ W0.heap.size) (hs : W0.heap.size ≤ w.heap.size) : ∃ g, Cl w g A 0 n l ∧ b0 ≤ g := by
  by_cases h0 : n = 0
  · exact ⟨w.heap.size, fun h => absurd h (by omega), by omega⟩
  · obtain ⟨g, hg, hcl, _, _⟩ := Ow.cells h.1 b0 (fun k hk => Nat.le_trans hb (h.2 k hk)) (by omega)
    obtain ⟨h1, h2, h3⟩ := hcl (by omega)
    exact ⟨g, fun h0 => ⟨h1, h2, fun i _ hi => h3 i hi⟩, hg⟩
theorem Nw.len {W0 w : World} {A : Option Addr} {n c : Nat} {l : List Int} (h : Nw W0 w (.slice A n c) l) : n = l.length := h.1.sl.len.symm
theorem Sl.nlt {w : World} {g : Nat} {A : Option Addr} {n c : Nat} {l : List Int} (h : Sl w g (.slice A n c) l) : n ≤ 9223372036854775807 := by
  obtain ⟨_, A', c', e, h1, h2, _⟩ := h
  injection e with _ e2 e3
  have : maxLen = 9223372036854775807 := rfl
  omega
set_option maxRecDepth 100000 in
set_option maxHeartbeats 16000000 in
theorem pieces_no (a0 : Int) (g1 : Nat) (A1 : Option Addr) (m1 s1 : Nat) (l1 : List Int) (A0 : Option Addr) (la ca : Nat) (w : World) (hs1 : Sl w g1 (.slice A1 m1 s1) l1) (hn1 : m1 ≤ 140737488351232) (hg1 : l1 ≠ [] → g1 < w.heap.size)
    (hR : 0 < la → ∃ (b off : Nat) (D : Nat → List Int), A0 = some ⟨b, off, none⟩ ∧ ∀ i, i < la → ∃ A m c g, RowAt w b off i A m c g (D i)) (hla : la ≤ 140737488355328) (ha : -9223372036854775808 ≤ a0 ∧ a0 ≤ 9223372036854775807) (hbad : a0 < 1 ∨ 32 < a0 ∨ 32 < m1) :
    Calls Try.prog 5 #[.int .i64 a0, .slice A1 m1 s1, .slice A0 la ca] w fun e w' => e = .returned (.bool true) ∧ Fr (fun _ => False) w w' := by
  have H1 := Lib.hid hs1
  have L1 := Lib.hid hs1.len
  have HM : Hid (m1 ≤ 140737488351232) := hn1
  have CN : ∀ W A m c, m = m1 → Calls Try.prog 18 #[.int .i64 a0, .slice A m c] W fun e w' => e = .returned (.tuple #[.pointer none, .int .i64 2]) ∧ Fr (fun _ => False) W w' := fun W A m c h => new_no a0 A m c W (by omega)
  have CR : ∀ W A2 m2 c2, Calls Try.prog 13 #[.int .i64 a0, .slice A1 m1 s1, .slice A2 m2 c2] W fun e w' => e = .returned (.tuple #[.slice none 0 0, .int .i64 2]) ∧ Fr (fun _ => False) W w' := fun W A2 m2 c2 => rof_no a0 A1 m1 s1 A2 m2 c2 W hbad
  have CO : ∀ W, Calls Try.prog 18 #[.int .i64 32, .slice none 0 0] W fun e w' => ∃ g, W.heap.size ≤ g ∧ e = .returned (.tuple #[.pointer (some ⟨g, 0, none⟩), .int .i64 0]) ∧ HashAt w' g 32 [] [] ∧ Fr (fun _ => False) W w' := fun W => new_yes 32 0 none 0 0 [] W (Sl.nil _ _) (by decide) (by decide) (by decide)
  clear hs1 hn1 hg1 hR ha hbad
  go_enter Try.func5, Try.ntmps5
  go_upto_region 2 with (go_at_call 11; refine (copy_new w w H1.out (by have := HM.out; omega) (Fr.refl _ _)).mono ?_; rintro e w1 ⟨v1, rfl, hn, hf⟩; have P1 := Lib.hid hn; have F1 := Lib.hid hf; clear hn hf)
  obtain ⟨Ax, nx, cx, rfl, hnx⟩ := P1.out.1.shape
  rw [L1.out] at hnx
  have HX : Hid (nx = m1) := hnx
  clear hnx
  go_upto_region 3 with (go_at_call 18; refine (CN _ _ _ _ HX.out).mono ?_; rintro e w2 ⟨rfl, hf⟩; have G2 := Lib.hid hf; clear hf)
  go_upto_region 4 with (go_at_call 13; refine (CR _ _ _ _).mono ?_; rintro e w3 ⟨rfl, hf⟩; have G3 := Lib.hid (G2.out.trans hf); clear hf)
  have P3 := Lib.hid (P1.out.fr G3.out (fun _ x => x))
  have F3 := Lib.hid (F1.out.trans G3.out)
  go_upto_region 6 with (go_at_call 14; refine (eq_yes _ P3.out.1.sl (H1.out.fr F3.out (fun _ x => x)) rfl).mono ?_; rintro e w4 ⟨rfl, hf⟩; have G4 := Lib.hid hf; clear hf)
  have P4 := Lib.hid (P3.out.fr G4.out (fun _ x => x))
  have F4 := Lib.hid (F3.out.trans G4.out)
  have hN := P4.out.1.sl.nlt
  obtain ⟨ga, hC0, hga⟩ := P4.out.cl w.heap.size (Nat.le_refl _) F4.out.size
  have C0 := Lib.hid hC0
  clear hC0 P1 F1 G2 G3 P3 F3 G4 P4
  go_upto_region 7 with (fail)
  go_loopw [12] (fun u12 wr => ∃ i : Nat, u12 = .int .i64 i ∧ i ≤ nx ∧ Hid (Cl wr ga Ax i nx l1) ∧ Hid (Fr (fun k => k = ga) w4 wr)) (fun u12 _ => nx - (intOf u12).toNat)
  case atStart => exact ⟨0, rfl, by omega, C0, Lib.hid (Fr.refl _ _)⟩
  case round =>
    clear C0
    obtain ⟨bi, rfl, bhi, bC, bG⟩ := hrel
    by_cases bil : bi < nx
    · obtain ⟨h1, rfl, h3⟩ := bC.out (by omega)
      have c1 := (h3 bi (Nat.le_refl _) bil).1
      have f1 := (h3 bi (Nat.le_refl _) bil).2
      obtain ⟨x, hx⟩ : ∃ x, x = l1.getD bi 0 := ⟨_, rfl⟩
      rw [← hx] at c1
      obtain ⟨y, hy⟩ : ∃ y, IntKind.u8.wrap (x + 1) = y := ⟨_, rfl⟩
      have j1 : ((bi : Int)).toNat = bi := by omega
      have j2 : 0 ≤ (bi : Int) := by omega
      have j3 : (bi : Int) < nx := by omega
      have j9 : IntKind.i64.wrap ((bi : Int) + 1) = ((bi + 1 : Nat) : Int) := by rw [IntKind.wrap_i64]; omega
      have C2 := Lib.hid (bC.out.set (.int .u8 y))
      clear h3 hx bC h1
      go_wp2
      go_roundw
      case rel => exact ⟨bi + 1, by first | rfl | go_num, by omega, C2, bG.out.setCell _ (.inl rfl)⟩
      case measure => simp [intOf]; omega
    obtain rfl : nx = bi := by omega
    have F5 : Hid (Fr (fun _ => False) w wr) := F4.out.trans' bG.out (fun j hj e => by omega)
    obtain ⟨w5, rfl⟩ : ∃ W : World, W = wr := ⟨_, rfl⟩
    clear F4 bG bC
    go_upto_region 11 with (go_at_call 18; refine (CO _).mono ?_; rintro e w6 ⟨go, hgo, rfl, hp, hf⟩; have F6 := Lib.hid (F5.out.trans hf); clear hp hf hgo)
    go_upto_region 13 with (fail)
    go_loopw [15, 16] (fun u15 u16 wr => u15 = .slice none 0 0 ∧ u16 = .int .i64 0 ∧ Hid (Fr (fun _ => False) w wr)) (fun _ _ _ => 0)
    case atStart => exact ⟨rfl, rfl, F6⟩
    case round =>
    clear F6 F5
    obtain ⟨rfl, rfl, hF⟩ := hrel
    by_cases h0 : la = 0
    all_goals
      first
        | (have j1 : (0 : Int) < (la : Int) := by omega)
        | (have j1 : ¬ ((0 : Int) < (la : Int)) := by omega)
      go_wp2_with (first
        | (go_at_call 13; refine (CR _ _ _ _).mono ?_; rintro e w7 ⟨rfl, hf⟩; have F7 := Lib.hid (hF.out.trans hf); clear hf)
        | (go_at_call 20; refine (hsum_none _).mono ?_; rintro e w8 ⟨rfl, hf⟩; have F8 := Lib.hid (F7.out.trans hf); clear hf)
        | (go_at_call 14; refine (eq_yes _ (Sl.nil _ 0) (Sl.nil _ 0) rfl).mono ?_; rintro e w9 ⟨rfl, hf⟩; have F9 := Lib.hid (F8.out.trans hf); clear hf)
        | (go_at_call 15; refine (works_is _).mono ?_; rintro e w10 ⟨rfl, hf⟩; have F10 := Lib.hid (F9.out.trans hf); clear hf))
      go_ret
      exact ⟨rfl, F10.out⟩
set_option maxRecDepth 100000 in
set_option maxHeartbeats 32000000 in
theorem pieces_yes (sz : Nat) (g1 : Nat) (A1 : Option Addr) (m1 s1 : Nat) (l1 : List Int) (A0 : Option Addr) (la ca : Nat) (w : World) (hs1 : Sl w g1 (.slice A1 m1 s1) l1) (hn1 : m1 ≤ 140737488351232) (hg1 : l1 ≠ [] → g1 < w.heap.size)
    (hR : 0 < la → ∃ (b off : Nat) (D : Nat → List Int), A0 = some ⟨b, off, none⟩ ∧ ∀ i, i < la → ∃ A m c g, RowAt w b off i A m c g (D i)) (hla : la ≤ 140737488355328) (z0 : 1 ≤ sz) (z1 : sz ≤ 32) (z2 : m1 ≤ 32) :
    Calls Try.prog 5 #[.int .i64 (sz : Int), .slice A1 m1 s1, .slice A0 la ca] w fun e w' => e = .returned (.bool true) ∧ Fr (fun _ => False) w w' := by
  have H1 := Lib.hid hs1
  have L1 := Lib.hid hs1.len
  have HM : Hid (m1 ≤ 140737488351232) := hn1
  have HR := Lib.hid hR
  have CN : ∀ W g A m c, Sl W g (.slice A m c) l1 → Calls Try.prog 18 #[.int .i64 (sz : Int), .slice A m c] W fun e w' => ∃ g, W.heap.size ≤ g ∧ e = .returned (.tuple #[.pointer (some ⟨g, 0, none⟩), .int .i64 0]) ∧ HashAt w' g sz l1 [] ∧ Fr (fun _ => False) W w' := fun W g A m c h => new_yes sz g A m c l1 W h z0 z1 (by have := h.len; have := L1.out; omega)
  have CR : ∀ W g2 A2 m2 c2 D R, R = dig sz l1 D → Fr (fun _ => False) w W → Sl W g2 (.slice A2 m2 c2) D → m2 ≤ 140737488351232 → Calls Try.prog 13 #[.int .i64 (sz : Int), .slice A1 m1 s1, .slice A2 m2 c2] W fun e w' => ∃ v, e = .returned (.tuple #[v, .int .i64 0]) ∧ Nw W w' v R ∧ Fr (fun _ => False) W w' := fun W g2 A2 m2 c2 D R hR hf h hm => by
    have hh := rof_is (sz : Int) g1 A1 m1 s1 l1 g2 A2 m2 c2 D W (H1.out.fr hf (fun _ x => x)) h hm
    rw [ofv, if_neg (by have := L1.out; omega), Int.toNat_natCast] at hh
    rw [hR]
    exact hh
  have CS : ∀ W g D R, R = dig sz l1 D → HashAt W g sz l1 D → Calls Try.prog 20 #[.pointer (some ⟨g, 0, none⟩)] W fun e w' => ∃ v, e = .returned v ∧ Nw W w' v R ∧ Fr (fun _ => False) W w' := fun W g D R hR h => by rw [hR]; exact hsum_is g sz l1 D W h
  have CO : ∀ W, Calls Try.prog 18 #[.int .i64 32, .slice none 0 0] W fun e w' => ∃ g, W.heap.size ≤ g ∧ e = .returned (.tuple #[.pointer (some ⟨g, 0, none⟩), .int .i64 0]) ∧ HashAt w' g 32 [] [] ∧ Fr (fun _ => False) W w' := fun W => new_yes 32 0 none 0 0 [] W (Sl.nil _ _) (by decide) (by decide) (by decide)
  clear hs1 hn1 hg1 hR z0 z1 z2
  go_enter Try.func5, Try.ntmps5
  go_upto_region 2 with (go_at_call 11; refine (copy_new w w H1.out (by have := HM.out; omega) (Fr.refl _ _)).mono ?_; rintro e w1 ⟨v1, rfl, hn, hf⟩; have P1 := Lib.hid hn; have F1 := Lib.hid hf; clear hn hf)
  obtain ⟨Ax, nx, cx, rfl, hnx⟩ := P1.out.1.shape
  rw [L1.out] at hnx
  clear hnx
  go_upto_region 3 with (go_at_call 18; refine (CN _ _ _ _ _ P1.out.1.sl).mono ?_; rintro e w2 ⟨gp, hgp, rfl, hp, hf⟩; have GP := Lib.hid hgp; have HP2 := Lib.hid hp; have G2 := Lib.hid hf; clear hgp hp hf)
  have F2 := Lib.hid (F1.out.trans G2.out)
  obtain ⟨R0, hR0⟩ : ∃ R, R = dig sz l1 [] := ⟨_, rfl⟩
  have HR0 := Lib.hid hR0
  clear hR0
  go_upto_region 4 with (go_at_call 13; refine (CR _ 0 none 0 0 [] R0 HR0.out F2.out (Sl.nil _ _) (by decide)).mono ?_; rintro e w3 ⟨v3, rfl, hn, hf⟩; have G3 := Lib.hid hf; clear hf hn)
  have P3 := Lib.hid (P1.out.fr (G2.out.trans G3.out) (fun _ x => x))
  have HP3 := Lib.hid (HP2.out.fr G3.out (fun x => x))
  have F3 := Lib.hid (F2.out.trans G3.out)
  have KX : Hid (∀ k, (Value.slice Ax nx cx).ownBlock = some k → k < w1.heap.size) := P1.out.1.lt
  have ZX : Hid (w1.heap.size ≤ gp ∧ w.heap.size ≤ w1.heap.size) := ⟨GP.out, F1.out.size⟩
  go_upto_region 6 with (go_at_call 14; refine (eq_yes _ P3.out.1.sl (H1.out.fr F3.out (fun _ x => x)) rfl).mono ?_; rintro e w4 ⟨rfl, hf⟩; have G4 := Lib.hid hf; clear hf)
  have P4 := Lib.hid (P3.out.fr G4.out (fun _ x => x))
  have HP4 := Lib.hid (HP3.out.fr G4.out (fun x => x))
  have F4 := Lib.hid (F3.out.trans G4.out)
  have hN := P4.out.1.sl.nlt
  obtain ⟨ga, hC0, hga, hgap⟩ : ∃ ga, Cl w4 ga Ax 0 nx l1 ∧ w.heap.size ≤ ga ∧ ga ≠ gp := by
    by_cases h0 : nx = 0
    · exact ⟨w4.heap.size, fun h => absurd h (by omega), F4.out.size, by have := HP4.out.lt; omega⟩
    · obtain ⟨g, hg, hcl, _, _⟩ := Ow.cells P4.out.1 w.heap.size P4.out.2 F4.out.size
      obtain ⟨h1, h2, h3⟩ := hcl (by omega)
      refine ⟨g, fun h0 => ⟨h1, h2, fun i _ hi => h3 i hi⟩, hg, ?_⟩
      have := KX.out g (by rw [h2]; rfl)
      have := ZX.out
      omega
  have C0 := Lib.hid hC0
  clear hC0 P1 F1 G2 G3 P3 F3 G4 P4 HP2 HP3 F2 KX GP
  go_upto_region 7 with (fail)
  go_loopw [12] (fun u12 wr => ∃ i : Nat, u12 = .int .i64 i ∧ i ≤ nx ∧ Hid (Cl wr ga Ax i nx l1) ∧ Hid (Fr (fun k => k = ga) w4 wr)) (fun u12 _ => nx - (intOf u12).toNat)
  case atStart => exact ⟨0, rfl, by omega, C0, Lib.hid (Fr.refl _ _)⟩
  case round =>
    clear C0
    obtain ⟨bi, rfl, bhi, bC, bG⟩ := hrel
    by_cases bil : bi < nx
    · obtain ⟨h1, rfl, h3⟩ := bC.out (by omega)
      have c1 := (h3 bi (Nat.le_refl _) bil).1
      have f1 := (h3 bi (Nat.le_refl _) bil).2
      obtain ⟨x, hx⟩ : ∃ x, x = l1.getD bi 0 := ⟨_, rfl⟩
      rw [← hx] at c1
      obtain ⟨y, hy⟩ : ∃ y, IntKind.u8.wrap (x + 1) = y := ⟨_, rfl⟩
      have j1 : ((bi : Int)).toNat = bi := by omega
      have j2 : 0 ≤ (bi : Int) := by omega
      have j3 : (bi : Int) < nx := by omega
      have j9 : IntKind.i64.wrap ((bi : Int) + 1) = ((bi + 1 : Nat) : Int) := by rw [IntKind.wrap_i64]; omega
      have C2 := Lib.hid (bC.out.set (.int .u8 y))
      clear h3 hx bC h1
      go_wp2
      go_roundw
      case rel => exact ⟨bi + 1, by first | rfl | go_num, by omega, C2, bG.out.setCell _ (.inl rfl)⟩
      case measure => simp [intOf]; omega
    obtain rfl : nx = bi := by omega
    have F5 : Hid (Fr (fun _ => False) w wr) := F4.out.trans' bG.out (fun j hj e => by omega)
    have HP5 := Lib.hid (HP4.out.fr bG.out (fun e => hgap e.symm))
    obtain ⟨w5, rfl⟩ : ∃ W : World, W = wr := ⟨_, rfl⟩
    clear F4 bG bC HP4 hga hgap hN bil bhi
    go_upto_region 11 with (go_at_call 18; refine (CO _).mono ?_; rintro e w6 ⟨go, hgo, rfl, hp, hf⟩; have HO6 := Lib.hid hp; have HP6 := Lib.hid (HP5.out.fr hf (fun x => x)); have F6 := Lib.hid (F5.out.trans hf); have D6 : Hid (gp < go) := Nat.lt_of_lt_of_le HP5.out.lt hgo; clear hp hf hgo)
    obtain ⟨q0, hq0⟩ : ∃ q, q = w6.heap.size := ⟨_, rfl⟩
    have Q0 : Hid (gp < go ∧ go < q0 ∧ w.heap.size ≤ gp) := ⟨D6.out, by rw [hq0]; exact HO6.out.lt, by have := ZX.out; omega⟩
    have Q6 : Hid (q0 ≤ w6.heap.size) := by show _ ≤ _; omega
    clear hq0 HP5 F5 D6 CN CO ZX
    go_upto_region 13 with (fail)
    go_loopw [15, 16, 17, 18, 19, 20, 21, 22, 23] (fun u15 u16 _ _ _ _ _ _ _ wr => ∃ (i n c : Nat) (A : Option Addr) (D N : List Int), u16 = .int .i64 i ∧ i ≤ 64 ∧ i ≤ la ∧ u15 = .slice A n c ∧ Hid (Ow wr (.slice A n c) D) ∧ Hid (∀ k, (Value.slice A n c).ownBlock = some k → q0 ≤ k) ∧ n ≤ 1000 * i ∧ Hid (HashAt wr gp sz l1 D) ∧ Hid (HashAt wr go 32 [] N) ∧ N.length ≤ i ∧ Hid (Fr (fun _ => False) w wr) ∧ Hid (q0 ≤ wr.heap.size))
      (fun _ u16 _ _ _ _ _ _ _ _ => la - (intOf u16).toNat)
    case atStart => exact ⟨0, 0, 0, none, [], [], rfl, by omega, by omega, rfl, Ow.nil _, (fun k hk => by cases hk), by omega, HP6, HO6, by simp, F6, Q6⟩
    case round =>
    clear HP6 HO6 F6 Q6
    obtain ⟨i, n, c, A, D, N, rfl, h64, hila, rfl, hO, hB, hn, hP, hQ, hNl, hF, hqr⟩ := hrel
    have lD := Lib.hid hO.out.sl.len
    by_cases hgo : i < la ∧ i < 64
    · obtain ⟨hil, hi6⟩ := hgo
      obtain ⟨bb, off, DD, rfl, hD⟩ := HR.out (by omega)
      obtain ⟨Ap, m, cp, gs, ra⟩ := hD i hil
      have hcapa : m ≤ cp := ra.sl.cap
      obtain ⟨M, hM⟩ : ∃ M, M = min m 1000 := ⟨_, rfl⟩
      have hmin : (if (1000 : Int) < (m : Int) then (1000 : Int) else (m : Int)) = (M : Int) := by split <;> omega
      have hM1 : M ≤ 1000 := by omega
      have hMm : M ≤ m := by omega
      obtain ⟨P, hPe⟩ : ∃ P, P = (DD i).take M := ⟨_, rfl⟩
      have TA : Hid (Sl w gs (.slice Ap M cp) P) := by show Sl _ _ _ _; rw [hPe]; exact ra.sl.take M (by rw [ra.sl.len]; omega)
      have lP := Lib.hid TA.out.len
      have ca0 := Lib.hid (ra.keep hF.out).c0
      have lbb : bb < wr.heap.size := World.block_lt_of_cell? _ _ ca0.out
      have j1 : ((i : Int)).toNat = i := by omega
      have j2 : 0 ≤ (i : Int) := by omega
      have j3 : (i : Int) < (la : Int) := by omega
      have j4 : (i : Int) < 64 := by omega
      have j5 : ((M : Int)).toNat = M := by omega
      have j6 : 0 ≤ (M : Int) := by omega
      have j7 : (M : Int) ≤ (m : Int) := by omega
      have j8 : (M : Int) ≤ (cp : Int) := by omega
      clear ra hM hPe hD
      go_upto_region 15 with (fail)
      refine wp_region_quiet (C := Calm wr) (by kernel_rfl) (by kernel_rfl) (Calm.start _ _ (Fr.refl _ _)) ?_
      refine BigFrame.wpQuiet_want rfl fun K hK => ?_
      try simp only [Act.put, List.setIfInBounds_toArray, List.set_cons_succ, List.set_cons_zero]
      go_big_quiet_op
      refine hK _ ?_
      refine BigFrame.wpQuiet_want rfl fun K hK => ?_
      try simp only [Act.put, List.setIfInBounds_toArray, List.set_cons_succ, List.set_cons_zero]
      go_big_quiet_op
      refine hK _ ?_
      refine BigFrame.wpQuiet_want rfl fun K hK => ?_
      try simp only [Act.put, List.setIfInBounds_toArray, List.set_cons_succ, List.set_cons_zero]
      go_big_quiet_op
      first
        | refine ⟨_, fun _ _ => rfl, hK _ ?_⟩
        | refine hK _ ?_
      refine BigFrame.wpQuiet_want rfl fun K hK => quiet_sl (.tmp 90) rfl bb (off + i) rfl Ap m cp (fun _ h => (World.cell?_of_block (w := wr) (Fr.block h bb lbb (fun x => x))).trans ca0.out) (hK _ ?_)
      refine BigFrame.wpQuiet_want rfl fun K hK => ?_
      try simp only [Act.put, List.setIfInBounds_toArray, List.set_cons_succ, List.set_cons_zero]
      go_big_quiet_op
      refine hK _ ?_
      refine BigFrame.wpQuiet_want rfl fun K hK => ?_
      try simp only [Act.put, List.setIfInBounds_toArray, List.set_cons_succ, List.set_cons_zero]
      go_big_quiet_op
      refine hK _ ?_
      refine BigFrame.wpQuiet_want rfl fun K hK => ?_
      try simp only [Act.put, List.setIfInBounds_toArray, List.set_cons_succ, List.set_cons_zero]
      go_big_quiet_op
      first
        | refine ⟨_, fun _ _ => rfl, hK _ ?_⟩
        | refine hK _ ?_
      refine BigFrame.wpQuiet_want rfl fun K hK => quiet_sl (.tmp 94) rfl bb (off + i) rfl Ap m cp (fun _ h => (World.cell?_of_block (w := wr) (Fr.block h bb lbb (fun x => x))).trans ca0.out) (hK _ ?_)
      refine BigFrame.wpQuiet_want rfl fun K hK => ?_
      try simp only [Act.put, List.setIfInBounds_toArray, List.set_cons_succ, List.set_cons_zero]
      go_big_quiet_op
      first
        | refine ⟨_, fun _ _ => rfl, hK _ ?_⟩
        | refine hK _ ?_
      refine BigFrame.wpQuiet_want rfl fun K hK => ?_
      try simp only [Act.put, List.setIfInBounds_toArray, List.set_cons_succ, List.set_cons_zero]
      go_big_quiet_op
      first
        | refine ⟨_, fun _ _ => rfl, hK _ ?_⟩
        | refine hK _ ?_
      refine BigFrame.wpQuiet_want rfl fun K hK => ?_
      try simp only [Act.put, List.setIfInBounds_toArray, List.set_cons_succ, List.set_cons_zero]
      go_big_quiet_op
      first
        | refine ⟨_, fun _ _ => rfl, hK _ ?_⟩
        | refine hK _ ?_
      refine BigFrame.wpQuiet_want rfl fun K hK => ?_
      try simp only [Act.put, List.setIfInBounds_toArray, List.set_cons_succ, List.set_cons_zero]
      go_big_quiet_op
      refine hK _ ?_
      refine wpQuiet_nil ?_
      intro w1 hw1
      have F1 : Hid (Fr (fun _ => False) w w1) := hF.out.trans hw1
      have G1 := Lib.hid hw1
      clear hw1
      try simp only [Act.put, List.setIfInBounds_toArray, List.set_cons_succ, List.set_cons_zero]
      have hO1 := Lib.hid (hO.out.keep G1.out (fun _ _ x => x))
      have hP1 := Lib.hid (hP.out.fr G1.out (fun x => x))
      have hQ1 := Lib.hid (hQ.out.fr G1.out (fun x => x))
      have HBk : Hid (∀ k, (Value.slice A n c).ownBlock = some k → q0 ≤ k ∧ k < w1.heap.size) := fun k hk => ⟨hB.out k hk, Nat.lt_of_lt_of_le (hO.out.lt k hk) G1.out.size⟩
      have q1 : Hid (q0 ≤ w1.heap.size) := Nat.le_trans hqr.out G1.out.size
      clear hO hP hQ hB hF G1 hqr j5 j6 j7 j8 hmin
      go_upto_region 17 with (go_at_call 11; refine (copy_new w1 w1 (TA.out.fr F1.out (fun _ x => x)) (by omega) (Fr.refl _ _)).mono ?_; rintro e w2 ⟨v2, rfl, hn, hf⟩; have N2 := Lib.hid hn; have G2 := Lib.hid hf; clear hn hf)
      obtain ⟨A2, c2, rfl⟩ := N2.out.shape
      rw [lP.out] at N2 ⊢
      have hO2 := Lib.hid (hO1.out.keep G2.out (fun _ _ x => x))
      have hP2 := Lib.hid (hP1.out.fr G2.out (fun x => x))
      have hQ2 := Lib.hid (hQ1.out.fr G2.out (fun x => x))
      have F2 := Lib.hid (F1.out.trans G2.out)
      have q2 : Hid (w1.heap.size ≤ w2.heap.size) := G2.out.size
      obtain ⟨gc, hgc, hSc⟩ : ∃ gc, (gc ≠ gp ∧ gc ≠ go) ∧ Sl w2 gc (.slice A2 M c2) P := by
        obtain ⟨g, h1, h2⟩ := N2.out.1.sl.far w2.heap.size
        rcases ho : (Value.slice A2 M c2).ownBlock with _ | j
        · have hs := N2.out.1.sl
          rcases N2.out.1.1.2 with ⟨hv, h0⟩ | ⟨g, cap, cur, hv, _⟩
          · have h0 : P = [] := List.eq_nil_of_length_eq_zero h0
            subst h0
            exact ⟨w2.heap.size, by have := Q0.out; have := q1.out; have := q2.out; omega, hs.empty _⟩
          · rw [hv] at ho
            cases ho
        · have hs := N2.out.1.sl
          rw [ho] at hs
          exact ⟨j, by have := N2.out.2 j ho; have := Q0.out; have := q1.out; omega, hs⟩
      have S2 := Lib.hid hSc
      have NC : Hid (gc ≠ gp ∧ gc ≠ go) := hgc
      clear hgc hSc hO1 hP1 hQ1 F1 G2
      go_upto_region 18 with (go_at_call 19; refine (hwrite_is gp sz l1 D gc A2 M c2 P w2 hP2.out S2.out NC.out.1 (by have := lD.out; omega)).mono ?_; rintro e w3 ⟨rfl, hp, hf⟩; have hP3 := Lib.hid hp; have G3 := Lib.hid hf; clear hp hf)
      have hO3 := Lib.hid (hO2.out.keep G3.out (fun k hk e => by have := HBk.out k hk; have := Q0.out; omega))
      have hQ3 := Lib.hid (hQ2.out.fr G3.out (show ¬ go = gp by have := Q0.out; omega))
      have N3 : Hid (Nw w1 w3 (.slice A2 M c2) P) := ⟨N2.out.1.keep G3.out (fun k hk e => by have := N2.out.2 k hk; have := Q0.out; have := q1.out; omega), N2.out.2⟩
      have F3 : Hid (Fr (fun _ => False) w w3) := F2.out.trans' G3.out (fun j hj e => by have := Q0.out; omega)
      have q3 : Hid (w1.heap.size ≤ w3.heap.size) := Nat.le_trans q2.out G3.out.size
      clear hO2 hP2 hQ2 N2 S2 F2 G3 NC
      obtain ⟨x, hx⟩ : ∃ x, IntKind.u8.wrap (i : Int) = x := ⟨_, rfl⟩
      have hxb : Hid (0 ≤ x ∧ x ≤ 255) := by rw [← hx, IntKind.wrap_u8]; show _ ∧ _; omega
      go_upto_region 19 with (go_at_call 19; refine (hwrite_is go 32 [] N w3.heap.size (some ⟨w3.heap.size, 0, none⟩) 1 1 [x] (w3.alloc (.cells #[.int .u8 x] 5)) (hQ3.out.fr (S := fun _ => False) ((Fr.refl _ _).alloc _) (fun x => x)) (lit_sl w3 x hxb.out) (by have := hQ3.out.lt; omega) (by omega)).mono ?_; rintro e w4 ⟨rfl, hp, hf⟩; have hQ4 := Lib.hid hp; have G4 : Hid (Fr (fun i => i = go) w3 w4) := ((Fr.refl _ _).alloc _).trans hf; clear hp hf)
      have hO4 := Lib.hid (hO3.out.keep G4.out (fun k hk e => by have := HBk.out k hk; have := Q0.out; omega))
      have hP4 := Lib.hid (hP3.out.fr G4.out (show ¬ gp = go by have := Q0.out; omega))
      have N4 : Hid (Nw w1 w4 (.slice A2 M c2) P) := ⟨N3.out.1.keep G4.out (fun k hk e => by have := N3.out.2 k hk; have := Q0.out; have := q1.out; omega), N3.out.2⟩
      have F4 : Hid (Fr (fun _ => False) w w4) := F3.out.trans' G4.out (fun j hj e => by have := Q0.out; omega)
      have q4 : Hid (w1.heap.size ≤ w4.heap.size) := Nat.le_trans q3.out G4.out.size
      clear hO3 hP3 hQ3 N3 F3 G4 hx hxb q2 q3
      go_upto_region 21 with (go_at_call 14; refine (eq_yes _ N4.out.1.sl (TA.out.fr F4.out (fun _ x => x)) rfl).mono ?_; rintro e w5 ⟨rfl, hf⟩; have G5 := Lib.hid hf; clear hf)
      have hO5 := Lib.hid (hO4.out.keep G5.out (fun _ _ x => x))
      have hP5 := Lib.hid (hP4.out.fr G5.out (fun x => x))
      have hQ5 := Lib.hid (hQ4.out.fr G5.out (fun x => x))
      have N5 := Lib.hid (N4.out.fr G5.out (fun _ x => x))
      have F5 := Lib.hid (F4.out.trans G5.out)
      obtain ⟨gi, hC0, hgi⟩ := N5.out.cl w1.heap.size (Nat.le_refl _) (Nat.le_trans q4.out G5.out.size)
      have C0 := Lib.hid hC0
      have GI : Hid (w1.heap.size ≤ gi) := hgi
      have Z5 : Hid (w1.heap.size ≤ w5.heap.size) := Nat.le_trans q4.out G5.out.size
      clear hC0 hgi hO4 hP4 hQ4 N4 F4 G5 q4 N5
      go_upto_region 22 with (fail)
      obtain ⟨wo, rfl⟩ : ∃ W : World, W = wr := ⟨_, rfl⟩
      go_loopw [19] (fun u19 wr => ∃ i : Nat, u19 = .int .i64 i ∧ i ≤ M ∧ Hid (Cl wr gi A2 i M P) ∧ Hid (Fr (fun k => k = gi) w5 wr)) (fun u19 _ => M - (intOf u19).toNat)
      case atStart => exact ⟨0, rfl, by omega, C0, Lib.hid (Fr.refl _ _)⟩
      case round =>
        clear C0
        obtain ⟨bi, rfl, bhi, bC, bG⟩ := hrel
        by_cases bil : bi < M
        · obtain ⟨h1, rfl, h3⟩ := bC.out (by omega)
          have c1 := (h3 bi (Nat.le_refl _) bil).1
          have f1 := (h3 bi (Nat.le_refl _) bil).2
          obtain ⟨x, hx⟩ : ∃ x, x = P.getD bi 0 := ⟨_, rfl⟩
          rw [← hx] at c1
          obtain ⟨y, hy⟩ : ∃ y, IntKind.u8.wrap (x + 1) = y := ⟨_, rfl⟩
          have j1 : ((bi : Int)).toNat = bi := by omega
          have j2 : 0 ≤ (bi : Int) := by omega
          have j3 : (bi : Int) < M := by omega
          have j9 : IntKind.i64.wrap ((bi : Int) + 1) = ((bi + 1 : Nat) : Int) := by rw [IntKind.wrap_i64]; omega
          have C2 := Lib.hid (bC.out.set (.int .u8 y))
          clear h3 hx bC h1
          go_wp2
          go_roundw
          case rel => exact ⟨bi + 1, by first | rfl | go_num, by omega, C2, bG.out.setCell _ (.inl rfl)⟩
          case measure => simp [intOf]; omega
        obtain rfl : M = bi := by omega
        have hO6 := Lib.hid (hO5.out.keep bG.out (fun k hk e => by have := HBk.out k hk; have := GI.out; omega))
        have hP6 := Lib.hid (hP5.out.fr bG.out (show ¬ gp = gi by have := Q0.out; have := q1.out; have := GI.out; omega))
        have hQ6 := Lib.hid (hQ5.out.fr bG.out (show ¬ go = gi by have := Q0.out; have := q1.out; have := GI.out; omega))
        have F6 : Hid (Fr (fun _ => False) w wr) := F5.out.trans' bG.out (fun j hj e => by have := Q0.out; have := q1.out; have := GI.out; omega)
        have ZW0 : Hid (q0 ≤ wr.heap.size) := by have h1 := Z5.out; have h2 := bG.out.size; have h3 := q1.out; show _ ≤ _; omega
        obtain ⟨w6, rfl⟩ : ∃ W : World, W = wr := ⟨_, rfl⟩
        have ZW := ZW0
        clear bG bC hO5 hP5 hQ5 F5 bil bhi ZW0
        go_upto_region 26 with (at_builtin; refine wpList_own rfl (.tmp 127) (.tmp 128) rfl hO6.out rfl rfl (TA.out.fr F6.out (fun _ x => x)) (by rw [lD.out]; omega) ?_; intro A7 N7 c7 w7 hap hN7; have HA := Lib.hid hap; have HN := Lib.hid hN7; clear hap hN7)
        have hN7 : N7 = n + M := by rw [HN.out, List.length_append, lD.out, lP.out]
        subst hN7
        obtain ⟨D2, hD2⟩ : ∃ X, X = D ++ P := ⟨_, rfl⟩
        obtain ⟨RR, hRR⟩ : ∃ X, X = dig sz l1 D2 := ⟨_, rfl⟩
        have HRR : Hid (RR = dig sz l1 D2) := hRR
        have O7 : Hid (Ow w7 (.slice A7 (n + M) c7) D2) := by rw [hD2]; exact HA.out.own
        have hG : Fr (fun j => q0 ≤ j) w6 w7 := (Fr.refl _ _).grown HA.out.grown (fun k hk => .inl (HBk.out k hk).1)
        have B7 : Hid (∀ k, (Value.slice A7 (n + M) c7).ownBlock = some k → q0 ≤ k) := fun k hk => by
          rcases HA.out.at_ with e | e
          · rw [e] at hk; exact (HBk.out k hk).1
          · rw [e] at hk
            injection hk with hk
            have h1 := F6.out.size
            have h2 := hP6.out.lt
            have h3 := hQ6.out.lt
            have h4 := q1.out
            have h5 := ZW.out
            omega
        have P7 : Hid (HashAt w7 gp sz l1 D2) := by rw [hD2]; exact hP6.out.fr hG (show ¬ q0 ≤ gp by have := Q0.out; omega)
        have Q7 := Lib.hid (hQ6.out.fr hG (show ¬ q0 ≤ go by have := Q0.out; omega))
        have F7 : Hid (Fr (fun _ => False) w w7) := F6.out.trans' hG (fun j hj e => by have := Q0.out; omega)
        have q7 : Hid (q0 ≤ w7.heap.size) := by have h1 := hG.size; have h5 := ZW.out; show _ ≤ _; omega
        have lO7 : Hid (∀ k, (Value.slice A7 (n + M) c7).ownBlock = some k → k < w7.heap.size) := O7.out.lt
        clear HA HN hG hO6 hP6 hQ6 F6 hRR hD2 HBk
        go_upto_region 27 with (go_at_call 13; refine (CR _ _ _ _ _ D2 RR HRR.out F7.out O7.out.sl (by omega)).mono ?_; rintro e w8 ⟨v8, rfl, hn, hf⟩; have N8 := Lib.hid hn; have G8 := Lib.hid hf; clear hn hf)
        have P8 := Lib.hid (P7.out.fr G8.out (fun x => x))
        go_upto_region 28 with (go_at_call 20; refine (CS _ _ D2 RR HRR.out P8.out).mono ?_; rintro e w9 ⟨v9, rfl, hn, hf⟩; have N9 := Lib.hid hn; have G9 := Lib.hid hf; clear hn hf)
        obtain ⟨A8, c8, rfl⟩ := N8.out.shape
        obtain ⟨A9, c9, rfl⟩ := N9.out.shape
        have S8 := Lib.hid (N8.out.1.sl.fr G9.out (fun _ x => x))
        have S9 := Lib.hid N9.out.1.sl
        obtain ⟨nr, hnr⟩ : ∃ k, k = RR.length := ⟨_, rfl⟩
        rw [← hnr] at S8 S9 N9 ⊢
        clear hnr
        go_upto_region 30 with (go_at_call 14; refine (eq_yes _ S9.out S8.out rfl).mono ?_; rintro e w10 ⟨rfl, hf⟩; have G10 := Lib.hid hf; clear hf)
        have G89 := Lib.hid (G8.out.trans G9.out)
        have G90 := Lib.hid (G89.out.trans G10.out)
        have O10 := Lib.hid (O7.out.keep G90.out (fun _ _ x => x))
        have P10 := Lib.hid (P7.out.fr G90.out (fun x => x))
        have Q10 := Lib.hid (Q7.out.fr G90.out (fun x => x))
        have F10 := Lib.hid (F7.out.trans G90.out)
        have N10 := Lib.hid (N9.out.fr G10.out (fun _ x => x))
        have z8 : Hid (w7.heap.size ≤ w8.heap.size ∧ w8.heap.size ≤ w10.heap.size) := ⟨G8.out.size, Nat.le_trans G9.out.size G10.out.size⟩
        have hN := S9.out.nlt
        obtain ⟨gg, hC0, hgg⟩ := N10.out.cl w7.heap.size z8.out.1 z8.out.2
        have C0 := Lib.hid hC0
        have GG : Hid (w7.heap.size ≤ gg) := hgg
        clear hC0 hgg S8 S9 N8 N9 N10 G8 G9 G10 G89 G90 P8 P7 Q7 O7 F7
        go_upto_region 31 with (fail)
        go_loopw [23] (fun u23 wr => ∃ i : Nat, u23 = .int .i64 i ∧ i ≤ nr ∧ Hid (Cl wr gg A9 i nr RR) ∧ Hid (Fr (fun k => k = gg) w10 wr)) (fun u23 _ => nr - (intOf u23).toNat)
        case atStart => exact ⟨0, rfl, by omega, C0, Lib.hid (Fr.refl _ _)⟩
        case round =>
          clear C0
          obtain ⟨di, rfl, dhi, dC, dG⟩ := hrel
          by_cases dil : di < nr
          · obtain ⟨h1, rfl, h3⟩ := dC.out (by omega)
            have c1 := (h3 di (Nat.le_refl _) dil).1
            have f1 := (h3 di (Nat.le_refl _) dil).2
            obtain ⟨x, hx⟩ : ∃ x, x = RR.getD di 0 := ⟨_, rfl⟩
            rw [← hx] at c1
            obtain ⟨y, hy⟩ : ∃ y, IntKind.u8.wrap (x + 1) = y := ⟨_, rfl⟩
            have j1 : ((di : Int)).toNat = di := by omega
            have j2 : 0 ≤ (di : Int) := by omega
            have j3 : (di : Int) < nr := by omega
            have j9 : IntKind.i64.wrap ((di : Int) + 1) = ((di + 1 : Nat) : Int) := by rw [IntKind.wrap_i64]; omega
            have C2 := Lib.hid (dC.out.set (.int .u8 0))
            clear h3 hx dC h1
            go_wp2
            go_roundw
            case rel => exact ⟨di + 1, by first | rfl | go_num, by omega, C2, dG.out.setCell _ (.inl rfl)⟩
            case measure => simp [intOf]; omega
          obtain rfl : nr = di := by omega
          have O11 := Lib.hid (O10.out.keep dG.out (fun k hk e => by have := lO7.out k hk; have := GG.out; omega))
          have P11 := Lib.hid (P10.out.fr dG.out (show ¬ gp = gg by have := Q0.out; have := q7.out; have := GG.out; omega))
          have Q11 := Lib.hid (Q10.out.fr dG.out (show ¬ go = gg by have := Q0.out; have := q7.out; have := GG.out; omega))
          have F11 : Hid (Fr (fun _ => False) w wr) := F10.out.trans' dG.out (fun j hj e => by have := Q0.out; have := q7.out; have := GG.out; omega)
          have q11 : Hid (q0 ≤ wr.heap.size) := Nat.le_trans q7.out (Nat.le_trans (Nat.le_trans z8.out.1 z8.out.2) dG.out.size)
          clear dG dC O10 P10 Q10 F10
          go_wp2
          go_roundw
          case rel => exact ⟨i + 1, n + M, c7, A7, D2, N ++ [x], by go_num, by omega, by omega, rfl, O11, B7, by omega, P11, Q11, by rw [List.length_append, List.length_singleton]; omega, F11, q11⟩
          case measure => simp [intOf]; omega
    have hcase : ¬ (i : Int) < (la : Int) ∨ ((i : Int) < (la : Int) ∧ ¬ (i : Int) < 64) := by omega
    obtain ⟨RR, hRR⟩ : ∃ X, X = dig sz l1 D := ⟨_, rfl⟩
    have HRR : Hid (RR = dig sz l1 D) := hRR
    have bn : Hid (n ≤ 140737488351232) := by show _ ≤ _; omega
    clear hRR hgo hn
    rcases hcase with k1 | ⟨k1, k2⟩
    all_goals
      go_upto_region 35 with (go_at_call 13; refine (CR _ _ _ _ _ D RR HRR.out hF.out hO.out.sl bn.out).mono ?_; rintro e w8 ⟨v8, rfl, hn, hf⟩; have N8 := Lib.hid hn; have G8 := Lib.hid hf; clear hn hf)
      have P8 := Lib.hid (hP.out.fr G8.out (fun x => x))
      have F8 := Lib.hid (hF.out.trans G8.out)
      obtain ⟨A8, c8, rfl⟩ := N8.out.shape
      obtain ⟨nr, hnr⟩ : ∃ k, k = RR.length := ⟨_, rfl⟩
      have HNR : Hid (nr = RR.length) := hnr
      rw [← hnr] at N8 ⊢
      clear hnr
      go_wp2_with (first
        | (go_at_call 20; refine (CS _ _ D RR HRR.out P8.out).mono ?_; rintro e w9 ⟨v9, rfl, hn, hf⟩; have S8 := Lib.hid (N8.out.1.sl.fr hf (fun _ x => x)); have N9 := Lib.hid hn; have F9 := Lib.hid (F8.out.trans hf); clear hn hf)
        | (go_at_call 14; refine (eqv_yes N9.out S8.out).mono ?_; rintro e w10 ⟨rfl, hf⟩; have F10 := Lib.hid (F9.out.trans hf); clear hf)
        | (go_at_call 15; refine (works_is _).mono ?_; rintro e w11 ⟨rfl, hf⟩; have F11 := Lib.hid (F10.out.trans hf); clear hf))
      go_ret
      exact ⟨rfl, F11.out⟩
end Go.Proofs.Ytafpcaoccocpfaa
