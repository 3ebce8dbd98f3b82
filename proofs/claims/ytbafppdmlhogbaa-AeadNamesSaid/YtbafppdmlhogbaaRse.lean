/- The reference's Seal: contract, of all keys, nonces, ads and texts. Condition: lengths below 2^47. -/
import Derived.Test.YtbafppdmlhogbaaRtg
import Derived.Test.YtbafppdmlhogbaaRx
namespace Go.Proofs.Ytbafppdmlhogbaa
set_option linter.unusedSimpArgs false
set_option linter.unusedVariables false
open Go.ChangeShapes Go.WideShapes Go.ChangeAt Go.RowKit


theorem Ar.slt {w : World} {g m : Nat} {t : TypeId} {l : List Int} (h : Ar w g t .u8 l) (hb : Bys l) (hl : l.length = m) (hm : m ≤ maxLen) : Sl w g (.slice (some ⟨g, 0, none⟩) m m) l := by
  subst hl
  exact Sl.block hb h (fun j _ => by rw [vs_bs]; simp) (Nat.le_refl _) hm
set_option maxHeartbeats 4000000 in
theorem rseal_no (k n : List Int) (A2 : Option Addr) (m2 c2 : Nat) (A3 : Option Addr) (m3 c3 : Nat) (w : World) (h : 4096 < m2 ∨ 4096 < m3) :
    Calls Try.prog 17 #[.agg (vs .u8 k), .agg (vs .u8 n), .slice A2 m2 c2, .slice A3 m3 c3] w fun e w' => e = .returned (.tuple #[.slice none 0 0, .int .i64 5]) ∧ Fr (fun _ => False) w w' := by
  by_cases h2 : 4096 < m2
  · have j : (4096 : Int) < m2 := by omega
    clear h h2
    go_enter Try.func17, Try.ntmps17
    go_wp2
    go_ret2
    exact ⟨rfl, ((Fr.refl _ _).alloc _).alloc _⟩
  · have j : ¬ (4096 : Int) < m2 := by omega
    have j3 : (4096 : Int) < m3 := by omega
    clear h h2
    go_enter Try.func17, Try.ntmps17
    go_wp2
    go_ret2
    exact ⟨rfl, ((Fr.refl _ _).alloc _).alloc _⟩
set_option maxRecDepth 100000 in
set_option maxHeartbeats 8000000 in
theorem rseal_yes (k n : List Int) (g2 : Nat) (A2 : Option Addr) (m2 c2 : Nat) (ad : List Int) (g3 : Nat) (A3 : Option Addr) (m3 c3 : Nat) (b : List Int) (w : World) (hk : k.length = 32) (bk : Bys k) (hn : n.length = 12) (bn : Bys n)
    (h2 : Sl w g2 (.slice A2 m2 c2) ad) (h3 : Sl w g3 (.slice A3 m3 c3) b) (l2 : m2 ≤ 4096) (l3 : m3 ≤ 4096) :
    Calls Try.prog 17 #[.agg (vs .u8 k), .agg (vs .u8 n), .slice A2 m2 c2, .slice A3 m3 c3] w fun e w' => ∃ v, e = .returned (.tuple #[v, .int .i64 0]) ∧ Nw w w' v (box k n ad b) ∧ Fr (fun _ => False) w w' := by
  obtain ⟨X, hX⟩ : ∃ X, X = xo k 1 n b := ⟨_, rfl⟩
  obtain ⟨t, ht⟩ : ∃ t, t = atag k n ad X := ⟨_, rfl⟩
  have HBX : Hid (box k n ad b = X ++ t) := by show _ = _; rw [box, ht, hX]
  have lX : Hid (X.length = m3) := by show _ = _; rw [hX, xo_length]; exact h3.len
  have Ht : Hid (t.length = 16 ∧ Bys t) := by rw [ht]; exact ⟨atag_length _ _ _ _, atag_bys _ _ _ _⟩
  have HX : ∀ W, Fr (fun _ => False) w W → Calls Try.prog 30 #[.agg (vs .u8 k), .int .u32 1, .agg (vs .u8 n), .slice A3 m3 c3] W fun e w' => ∃ v, e = .returned (.tuple #[v, .int .i64 0]) ∧ Ow w' v X ∧ (∀ g, v.ownBlock = some g → W.heap.size ≤ g) ∧ Fr (fun _ => False) W w' := fun W hf => by
    rw [hX]
    have hs := h3.fr hf (fun _ x => x)
    exact rxor_yes k 1 n g3 A3 m3 c3 b W hk bk wd1 hn bn hs (by omega) (by omega) (fun h0 => hs.hgb (fun e => by have := hs.len; rw [e] at this; simp at this; omega))
  have HT : ∀ W g4 A4 m4 c4, Fr (fun _ => False) w W → Sl W g4 (.slice A4 m4 c4) X → Calls Try.prog 31 #[.agg (vs .u8 k), .agg (vs .u8 n), .slice A2 m2 c2, .slice A4 m4 c4] W fun e w' => e = .returned (.agg (vs .u8 t)) ∧ Fr (fun _ => False) W w' := fun W g4 A4 m4 c4 hf hs => by
    rw [ht]
    exact rtag6_is k n g2 A2 m2 c2 ad g4 A4 m4 c4 X W hk bk hn bn (h2.fr hf (fun _ x => x)) hs (by omega) (by have := hs.len; rw [lX.out] at this; omega)
  have sK := Lib.hid (keys_info hk)
  have sN : Hid ((Try.prog.info? 22).map (·.size) = some (vs .u8 n).size) := by show _ = _; rw [size29, vs_size, hn]
  have st : Hid ((Try.prog.info? 38).map (·.size) = some (vs .u8 t).size) := tags_info Ht.out.1
  obtain ⟨Z, hZ⟩ : ∃ Z, Z = List.replicate 16 (0 : Int) := ⟨_, rfl⟩
  have hz2 : ∀ W : World, (zeroValue 38).run Try.prog W = .ok (.agg (vs .u8 Z)) W := fun W => by rw [hZ]; exact zero26 W
  have lZ : Hid ((vs .u8 Z).size = (vs .u8 t).size) := by show _ = _; rw [vs_size, vs_size, hZ, Ht.out.1]; rfl
  have j : ¬ (4096 : Int) < m2 := by omega
  have j3 : ¬ (4096 : Int) < m3 := by omega
  clear hX ht hZ hk bk hn bn h2 h3
  go_enter Try.func17, Try.ntmps17
  go_upto_region 3 with (fail)
  generalize hW : (w.alloc (.cells (vs .u8 k) 28)).alloc (.cells (vs .u8 n) 22) = W0
  have HW := Lib.hid (calm2 hW)
  clear hW
  go_upto_region 4 with (first
    | (go_at_call 30; refine (HX _ HW.out.2.2).mono ?_; rintro e w3 ⟨v3, rfl, hO3, hB3, hF3⟩; have O3 := Lib.hid hO3; have B3 := Lib.hid hB3; have F3 := Lib.hid hF3; clear hO3 hB3 hF3)
    | refine wpList_load_row rfl 28 (.tmp 4) rfl (w.heap.size) rfl 28 (vs .u8 k) (0, 0) _ HW.out.1 Try.underlying28 rfl sK.out ?_
    | refine wpList_load_row rfl 22 (.tmp 5) rfl (w.heap.size + 1) rfl 22 (vs .u8 n) (0, 0) _ HW.out.2.1 Try.underlying22 rfl sN.out ?_)
  obtain ⟨A4, m4, c4, rfl, hm4⟩ := O3.out.shape
  rw [lX.out] at hm4
  subst hm4
  have S3 := Lib.hid O3.out.sl
  have K3 := Lib.hid (Ar.fr (w := W0) (t := 28) (k := .u8) (l := k) HW.out.1 F3.out (fun x => x))
  have N3 := Lib.hid (Ar.fr (w := W0) (t := 22) (k := .u8) (l := n) HW.out.2.1 F3.out (fun x => x))
  have G3 := Lib.hid (HW.out.2.2.trans F3.out)
  go_upto_region 5 with (first
    | (go_at_call 31; refine (HT _ _ _ _ _ G3.out S3.out).mono ?_; rintro e w4 ⟨rfl, hf⟩; have F4 := Lib.hid hf; clear hf)
    | refine wpList_load_row rfl 28 (.tmp 4) rfl (w.heap.size) rfl 28 (vs .u8 k) (0, 0) _ K3.out Try.underlying28 rfl sK.out ?_
    | refine wpList_load_row rfl 22 (.tmp 5) rfl (w.heap.size + 1) rfl 22 (vs .u8 n) (0, 0) _ N3.out Try.underlying22 rfl sN.out ?_
    | refine wpList_store_row rfl 38 (.tmp 12) (.tmp 32) rfl w4.heap.size (vs .u8 t) rfl rfl 38 (vs .u8 Z) (heap_alloc_new w4 (.cells (vs .u8 Z) 38)) st.out lZ.out (vs_all _ _) ?_)
  obtain ⟨bq, hbq⟩ : ∃ q, q = w4.heap.size := ⟨_, rfl⟩
  have FQ : Fr (fun _ => False) w4 ((w4.alloc (.cells (vs .u8 Z) 38)).setRow w4.heap.size (vs .u8 t)) := ((Fr.refl _ w4).alloc _).setRow _ (.inr (Nat.le_refl _))
  have T5 : Hid (Ar ((w4.alloc (.cells (vs .u8 Z) 38)).setRow w4.heap.size (vs .u8 t)) bq 38 .u8 t) := by rw [hbq]; exact (Ar.new w4 38 .u8 Z).row t
  have O5 := Lib.hid (O3.out.keep (F4.out.trans FQ) (fun _ _ x => x))
  have G5 := Lib.hid ((G3.out.trans F4.out).trans FQ)
  have B5 : Hid (∀ g, (Value.slice A4 m4 c4).ownBlock = some g → w.heap.size ≤ g) := fun g hg => Nat.le_trans HW.out.2.2.size (B3.out g hg)
  rw [← hbq] at O5 G5 T5 ⊢
  generalize (w4.alloc (.cells (vs .u8 Z) 38)).setRow bq (vs .u8 t) = W5 at *
  clear FQ hbq O3 B3 F3 F4 K3 N3 G3 S3 HW
  try simp only [Act.put, List.setIfInBounds_toArray, List.set_cons_succ, List.set_cons_zero]
  go_upto_region 6 with (at_builtin; refine wpList_own rfl (.tmp 33) (.tmp 34) rfl O5.out rfl rfl (T5.out.slt Ht.out.2 Ht.out.1 (by decide)) (by have := lX.out; omega) ?_; intro A6 N6 c6 w6 hap hN; have HA := Lib.hid hap; clear hap hN)
  obtain ⟨r1, r2⟩ := Nw.app (W0 := w) ⟨O5.out, B5.out⟩ G5.out (Fr.refl _ _) HA.out
  rw [← HBX.out] at r1
  go_ret2
  exact ⟨_, rfl, r1, r2⟩
/-- What Seal answers. -/
theorem rseal_is (k n : List Int) (g2 : Nat) (A2 : Option Addr) (m2 c2 : Nat) (ad : List Int) (g3 : Nat) (A3 : Option Addr) (m3 c3 : Nat) (b : List Int) (w : World) (hk : k.length = 32) (bk : Bys k) (hn : n.length = 12) (bn : Bys n)
    (h2 : Sl w g2 (.slice A2 m2 c2) ad) (h3 : Sl w g3 (.slice A3 m3 c3) b) :
    Calls Try.prog 17 #[.agg (vs .u8 k), .agg (vs .u8 n), .slice A2 m2 c2, .slice A3 m3 c3] w fun e w' => ∃ v, e = .returned (.tuple #[v, .int .i64 (sealv k n ad b).2]) ∧ Nw w w' v (sealv k n ad b).1 ∧ Fr (fun _ => False) w w' := by
  have e2 := h2.len
  have e3 := h3.len
  unfold sealv
  by_cases h : 4096 < ad.length ∨ 4096 < b.length
  · rw [if_pos h]
    refine (rseal_no k n A2 m2 c2 A3 m3 c3 w (by omega)).mono fun e w' ⟨he, hf⟩ => ⟨_, he, Nw.nil _ _, hf⟩
  · rw [if_neg h]
    exact rseal_yes k n g2 A2 m2 c2 ad g3 A3 m3 c3 b w hk bk hn bn h2 h3 (by omega) (by omega)
end Go.Proofs.Ytbafppdmlhogbaa
