/- A key's block, its bytes xored: the laws' block, the reference's pad, the program's function literal: contracts. Conditions: lengths below 2^47, a byte. -/
import Derived.Test.YtebknlhooijkcaaYv
import Derived.Test.YtebknlhooijkcaaZq
namespace Go.Proofs.Ytebknlhooijkcaa
set_option linter.unusedSimpArgs false
set_option linter.unusedVariables false
open Go.ChangeShapes Go.WideShapes Go.ChangeAt Go.RowKit


/-- The bytes of P, the first i of them xored. -/
def xh (P : List Int) (y : Int) (i : Nat) : List Int := xb y (P.take i) ++ P.drop i
theorem xh_zero (P : List Int) (y : Int) : xh P y 0 = P := by simp [xh, xb]
theorem xh_all (P : List Int) (y : Int) : xh P y P.length = xb y P := by simp [xh]
theorem xh_length (P : List Int) (y : Int) (i : Nat) (h : i ≤ P.length) : (xh P y i).length = P.length := by
  rw [xh, List.length_append, xb_length, List.length_take, List.length_drop]; omega
theorem xh_get (P : List Int) (y : Int) (i : Nat) (h : i ≤ P.length) : (xh P y i)[i]? = P[i]? := by
  rw [xh, List.getElem?_append_right (by rw [xb_length, List.length_take]; omega), xb_length, List.length_take, List.getElem?_drop]
  congr 1
  omega
theorem xh_set (P : List Int) (y : Int) (i : Nat) (p : Int) (h : P[i]? = some p) : (xh P y i).set i (x8 p y) = xh P y (i + 1) := by
  have hi := (List.getElem?_eq_some_iff.1 h).1
  have e : P.drop i = p :: P.drop (i + 1) := by
    rw [List.drop_eq_getElem_cons hi]
    congr 1
    exact (List.getElem?_eq_some_iff.1 h).2
  have e2 : P.take (i + 1) = P.take i ++ [p] := by
    rw [List.take_add_one, h]; rfl
  rw [xh, xh, List.set_append_right _ _ (by rw [xb_length, List.length_take]; omega), xb_length, List.length_take, Nat.min_eq_left (by omega), Nat.sub_self, e, e2]
  simp [xb]

set_option maxRecDepth 100000 in
set_option maxHeartbeats 16000000 in
theorem block_short (g1 : Nat) (A1 : Option Addr) (m1 c1 : Nat) (k : List Int) (y : Int) (w : World) (h1 : Sl w g1 (.slice A1 m1 c1) k) (hm : m1 ≤ 140737488353280) (hl : m1 ≤ 64) (hy : 0 ≤ y ∧ y ≤ 255) :
    Calls Try.prog 32 #[.slice A1 m1 c1, .int .u8 y] w fun e w' => ∃ g, w.heap.size ≤ g ∧ e = .returned (.slice (some ⟨g, 0, none⟩) 64 64) ∧ Ar w' g 5 .u8 (xb y (kb k)) ∧ Fr (fun _ => False) w w' := by
  have lk := Lib.hid h1.len
  obtain ⟨P, hP⟩ : ∃ P, P = kb k := ⟨_, rfl⟩
  have lP : Hid (P.length = 64) := by show _ = _; rw [hP]; exact kb_length k
  have bP : Hid (Bys P) := by show Bys _; rw [hP]; exact kb_bys h1.1
  obtain ⟨Z, hZ⟩ : ∃ Z, Z = List.replicate 64 (0 : Int) := ⟨_, rfl⟩
  have EZ := Lib.hid hZ
  have H1 := Lib.hid h1
  have HY := Lib.hid hy
  have HP : Hid (k ++ Z.drop m1 = P) := by show _ = _; rw [hP, kb, if_neg (by rw [lk.out]; omega), padz, lk.out, hZ, List.drop_replicate]
  have j1 : ¬ (64 : Int) < m1 := by omega
  have HL := Lib.hid hl
  have lZ : Hid (Z.length = 64) := by show _ = _; rw [hZ, List.length_replicate]
  rw [← hP]
  clear hP hZ h1 hm hl hy
  go_enter Try.func32, Try.ntmps32
  go_upto_region 1 with (fail)
  go_upto_region 2 with (refine wpList_make rfl _ _ rfl 64 (by decide) rfl rfl Z EZ.out ?_)
  obtain ⟨q, hq⟩ : ∃ q, q = w.heap.size := ⟨_, rfl⟩
  have B1 : Hid (Ar (w.alloc (.cells (vs .u8 Z) 5)) q 5 .u8 Z) := by rw [hq]; exact Ar.new w 5 .u8 Z
  have F1 : Hid (Fr (fun _ => False) w (w.alloc (.cells (vs .u8 Z) 5))) := (Fr.refl _ _).alloc _
  have NQ : Hid (w.heap.size ≤ q) := by rw [hq]; exact Nat.le_refl _
  rw [← hq]
  generalize w.alloc (.cells (vs .u8 Z) 5) = W1 at *
  clear hq
  try simp only [Act.put, List.setIfInBounds_toArray, List.set_cons_succ, List.set_cons_zero]
  go_upto_region 6 with (refine wpList_copy_head rfl (.tmp 17) (.tmp 18) rfl q 64 64 rfl A1 m1 c1 g1 k rfl (H1.out.fr F1.out (fun _ x => x)) HL.out 5 Z B1.out (by rw [lZ.out]; decide) ?_; intro w4 ha4 hf4; have B4 := Lib.hid ha4; have G4 := Lib.hid hf4; clear ha4 hf4)
  have F4 : Hid (Fr (fun _ => False) w w4) := F1.out.trans' G4.out (fun j hj e => by have := NQ.out; omega)
  clear B1 F1 G4
  rw [HP.out] at B4
  clear HP EZ lZ
  go_upto_region 7 with (fail)
  have lP2 := lP.out
  go_loopw [7] (fun u9 wr => ∃ i : Nat, u9 = .int .i64 i ∧ i ≤ 64 ∧ Hid (Ar wr q 5 .u8 (xh P y i)) ∧ Hid (Fr (fun _ => False) w wr)) (fun u9 _ => 64 - (intOf u9).toNat)
  case atStart => exact ⟨0, rfl, by omega, by show Ar _ _ _ _ _; rw [xh_zero]; exact B4.out, F4⟩
  case round =>
  clear B4 F4
  obtain ⟨i, rfl, hi, hB, hF⟩ := hrel
  by_cases hil : i < 64
  · obtain ⟨p, hp⟩ : ∃ p, P[i]? = some p := ⟨_, getD_some (by rw [lP.out]; exact hil)⟩
    have HX : Hid (bits .xor .u8 p y = x8 p y) := rfl
    have cB := hB.out.cell (by rw [xh_get P y i (by have := lP.out; omega)]; exact hp)
    have fB := hB.out.frozen i
    have B2 := Lib.hid (hB.out.set i (x8 p y))
    rw [xh_set P y i p hp] at B2
    have t1 : ((i : Int)).toNat = i := by omega
    have t2 : 0 ≤ (i : Int) := by omega
    have t3 : (i : Int) < 64 := by omega
    clear hp hB
    go_wp2
    go_roundw
    case rel => exact ⟨i + 1, by go_num, by omega, B2, hF.out.setCell _ (.inr NQ.out)⟩
    case measure => simp [intOf]; omega
  obtain rfl : i = 64 := by omega
  have B9 : Hid (Ar wr q 5 .u8 (xb y P)) := by
    have h := hB.out
    have e := xh_all P y
    rw [lP.out] at e
    rwa [e] at h
  have lX : Hid ((xb y P).length = 64) := by show _ = _; rw [xb_length, lP.out]
  have bX : Hid (Bys (xb y P)) := xb_bys HY.out bP.out
  clear hB lP2
  go_wp2
  go_ret
  exact ⟨q, NQ.out, rfl, B9.out, hF.out⟩
end Go.Proofs.Ytebknlhooijkcaa

/- The program's function literal that makes a key's block: contract. Conditions: a key of 64 bytes at most, a byte. -/
namespace Go.Proofs.Ytebknlhooijkcaa
set_option linter.unusedSimpArgs false
set_option linter.unusedVariables false
open Go.ChangeShapes Go.WideShapes Go.ChangeAt Go.RowKit

theorem cell_fr {S : Nat → Prop} {w w' : World} {g i : Nat} {v : Value} (h : w.cell? ⟨g, i, none⟩ = some v) (hf : Fr S w w') (hs : ¬ S g) : w'.cell? ⟨g, i, none⟩ = some v :=
  (World.cell?_of_block (w := w) (hf.block g (World.block_lt_of_cell? _ _ h) hs)).trans h
set_option maxRecDepth 100000 in
set_option maxHeartbeats 16000000 in
theorem clo_is (gk g1 : Nat) (A1 : Option Addr) (m1 c1 : Nat) (k : List Int) (y : Int) (w : World) (hc : w.cell? ⟨gk, 0, none⟩ = some (.slice A1 m1 c1)) (h1 : Sl w g1 (.slice A1 m1 c1) k) (hl : m1 ≤ 64) (hy : 0 ≤ y ∧ y ≤ 255) :
    Calls Try.prog 33 #[.int .u8 y, .pointer (some ⟨gk, 0, none⟩)] w fun e w' => ∃ g, w.heap.size ≤ g ∧ e = .returned (.slice (some ⟨g, 0, none⟩) 64 64) ∧ Ar w' g 5 .u8 (xb y (padz k)) ∧ Fr (fun _ => False) w w' := by
  have lk := Lib.hid h1.len
  obtain ⟨P, hP⟩ : ∃ P, P = padz k := ⟨_, rfl⟩
  have lP : Hid (P.length = 64) := by show _ = _; rw [hP]; exact padz_length (by rw [lk.out]; exact hl)
  have bP : Hid (Bys P) := by show Bys _; rw [hP]; exact padz_bys h1.1
  obtain ⟨Z, hZ⟩ : ∃ Z, Z = List.replicate 64 (0 : Int) := ⟨_, rfl⟩
  have EZ := Lib.hid hZ
  have H1 := Lib.hid h1
  have HC := Lib.hid hc
  have HP : Hid (k ++ Z.drop m1 = P) := by show _ = _; rw [hP, padz, lk.out, hZ, List.drop_replicate]
  have HL := Lib.hid hl
  have lZ : Hid (Z.length = 64) := by show _ = _; rw [hZ, List.length_replicate]
  rw [← hP]
  clear hP hZ h1 hl hy hc
  go_enter Try.func33, Try.ntmps33
  go_upto_region 1 with (fail)
  go_upto_region 2 with (refine wpList_make rfl _ _ rfl 64 (by decide) rfl rfl Z EZ.out ?_)
  obtain ⟨q, hq⟩ : ∃ q, q = w.heap.size := ⟨_, rfl⟩
  have B1 : Hid (Ar (w.alloc (.cells (vs .u8 Z) 5)) q 5 .u8 Z) := by rw [hq]; exact Ar.new w 5 .u8 Z
  have F1 : Hid (Fr (fun _ => False) w (w.alloc (.cells (vs .u8 Z) 5))) := (Fr.refl _ _).alloc _
  have NQ : Hid (w.heap.size ≤ q) := by rw [hq]; exact Nat.le_refl _
  rw [← hq]
  generalize w.alloc (.cells (vs .u8 Z) 5) = W1 at *
  clear hq
  try simp only [Act.put, List.setIfInBounds_toArray, List.set_cons_succ, List.set_cons_zero]
  have c1 := cell_fr HC.out F1.out (fun x => x)
  go_upto_region 3 with (refine wpList_copy_head rfl (.tmp 7) (.tmp 8) rfl q 64 64 rfl A1 m1 _ g1 k rfl (H1.out.fr F1.out (fun _ x => x)) HL.out 5 Z B1.out (by rw [lZ.out]; decide) ?_; intro w4 ha4 hf4; have B4 := Lib.hid ha4; have G4 := Lib.hid hf4; clear ha4 hf4)
  have F4 : Hid (Fr (fun _ => False) w w4) := F1.out.trans' G4.out (fun j hj e => by have := NQ.out; omega)
  clear B1 F1 G4 c1 HC
  rw [HP.out] at B4
  clear HP EZ lZ
  go_upto_region 4 with (fail)
  go_loopw [12] (fun u12 wr => ∃ i : Nat, u12 = .int .i64 i ∧ i ≤ 64 ∧ Hid (Ar wr q 5 .u8 (xh P y i)) ∧ Hid (Fr (fun _ => False) w wr)) (fun u12 _ => 64 - (intOf u12).toNat)
  case atStart => exact ⟨0, rfl, by omega, by show Ar _ _ _ _ _; rw [xh_zero]; exact B4.out, F4⟩
  case round =>
  clear B4 F4
  obtain ⟨i, rfl, hi, hB, hF⟩ := hrel
  by_cases hil : i < 64
  · obtain ⟨p, hp⟩ : ∃ p, P[i]? = some p := ⟨_, getD_some (by rw [lP.out]; exact hil)⟩
    have HX : Hid (bits .xor .u8 p y = x8 p y) := rfl
    have cB := hB.out.cell (by rw [xh_get P y i (by have := lP.out; omega)]; exact hp)
    have fB := hB.out.frozen i
    have B2 := Lib.hid (hB.out.set i (x8 p y))
    rw [xh_set P y i p hp] at B2
    have t1 : ((i : Int)).toNat = i := by omega
    have t2 : 0 ≤ (i : Int) := by omega
    have t3 : (i : Int) < 64 := by omega
    clear hp hB
    go_wp2
    go_roundw
    case rel => exact ⟨i + 1, by go_num, by omega, B2, hF.out.setCell _ (.inr NQ.out)⟩
    case measure => simp [intOf]; omega
  obtain rfl : i = 64 := by omega
  have B9 : Hid (Ar wr q 5 .u8 (xb y P)) := by
    have h := hB.out
    have e := xh_all P y
    rw [lP.out] at e
    rwa [e] at h
  clear hB
  go_wp2
  go_ret
  exact ⟨q, NQ.out, rfl, B9.out, hF.out⟩
end Go.Proofs.Ytebknlhooijkcaa
