/- The program's Seal: contract, of all keys, nonces, ads and texts. Condition: lengths below 2^47. -/
import Derived.Test.YtbafppdmlhogbaaPt
import Derived.Test.YtbafppdmlhogbaaSm
import Derived.Test.YtbafppdmlhogbaaRop
import Derived.Test.YtbafppdmlhogbaaPe
namespace Go.Proofs.Ytbafppdmlhogbaa
set_option linter.unusedSimpArgs false
set_option linter.unusedVariables false
open Go.ChangeShapes Go.WideShapes Go.ChangeAt Go.RowKit


theorem Ar.ow {w : World} {g m : Nat} {l : List Int} (h : Ar w g 5 .u8 l) (hb : Bys l) (hl : l.length = m) (hm : m ≤ maxLen) : Ow w (.slice (some ⟨g, 0, none⟩) m m) l := by
  subst hl
  refine ⟨⟨by simp [bs], .inr ⟨g, l.length, vs .u8 l, rfl, Nat.zero_le _, h, Nat.le_refl _, hm, ?_, ?_⟩⟩, hb⟩
  · simp [vs]
  · rw [Nat.mul_one]
    exact List.take_of_length_le (by simp [vs])
/-- Xor of few bytes. -/
theorem xor_few (k n : List Int) (gb : Nat) (A : Option Addr) (m cap : Nat) (l : List Int) (w : World) (hk : k.length = 32) (bk : Bys k) (hn : n.length = 12) (bn : Bys n) (hs : Sl w gb (.slice A m cap) l) (hm : m ≤ 1000000) :
    Calls Try.prog 22 #[.agg (vs .u8 k), .int .u32 1, .agg (vs .u8 n), .slice A m cap] w fun e w' => ∃ g, w.heap.size ≤ g ∧ e = .returned (.tuple #[.slice (some ⟨g, 0, none⟩) m m, .int .i64 0]) ∧ Ow w' (.slice (some ⟨g, 0, none⟩) m m) (xo k 1 n l) ∧ Fr (fun _ => False) w w' := by
  have hl := hs.len
  refine (xor_ex k 1 n gb A m cap l w hk bk wd1 hn bn hs (by omega) (by omega) (fun h0 => hs.hgb (fun e => by rw [e] at hl; simp at hl; omega))).mono ?_
  rintro e w' ⟨g, h1, h2, h3, h4⟩
  exact ⟨g, h1, h2, h3.ow (xo_bys' hs.1) (by rw [xo_length]; exact hl) (by unfold maxLen; omega), h4⟩
set_option maxHeartbeats 4000000 in
theorem seal_no (k n : List Int) (A2 : Option Addr) (m2 c2 : Nat) (A3 : Option Addr) (m3 c3 : Nat) (w : World) (h : 4096 < m2 ∨ 4096 < m3) :
    Calls Try.prog 16 #[.agg (vs .u8 k), .agg (vs .u8 n), .slice A2 m2 c2, .slice A3 m3 c3] w fun e w' => e = .returned (.tuple #[.slice none 0 0, .int .i64 5]) ∧ Fr (fun _ => False) w w' := by
  by_cases h2 : 4096 < m2
  · have j : (4096 : Int) < m2 := by omega
    clear h h2
    go_enter Try.func16, Try.ntmps16
    go_wp2
    go_ret2
    exact ⟨rfl, ((Fr.refl _ _).alloc _).alloc _⟩
  · have j : ¬ (4096 : Int) < m2 := by omega
    have j3 : (4096 : Int) < m3 := by omega
    clear h h2
    go_enter Try.func16, Try.ntmps16
    go_wp2
    go_ret2
    exact ⟨rfl, ((Fr.refl _ _).alloc _).alloc _⟩
set_option maxRecDepth 100000 in
set_option maxHeartbeats 8000000 in
theorem seal_yes (k n : List Int) (g2 : Nat) (A2 : Option Addr) (m2 c2 : Nat) (ad : List Int) (g3 : Nat) (A3 : Option Addr) (m3 c3 : Nat) (b : List Int) (w : World) (hk : k.length = 32) (bk : Bys k) (hn : n.length = 12) (bn : Bys n)
    (h2 : Sl w g2 (.slice A2 m2 c2) ad) (h3 : Sl w g3 (.slice A3 m3 c3) b) (l2 : m2 ≤ 4096) (l3 : m3 ≤ 4096) :
    Calls Try.prog 16 #[.agg (vs .u8 k), .agg (vs .u8 n), .slice A2 m2 c2, .slice A3 m3 c3] w fun e w' => ∃ v, e = .returned (.tuple #[v, .int .i64 0]) ∧ Nw w w' v (box k n ad b) ∧ Fr (fun _ => False) w w' := by
  obtain ⟨X, hX⟩ : ∃ X, X = xo k 1 n b := ⟨_, rfl⟩
  obtain ⟨t, ht⟩ : ∃ t, t = atag k n ad X := ⟨_, rfl⟩
  have HBX : Hid (box k n ad b = X ++ t) := by show _ = _; rw [box, ht, hX]
  have lX : Hid (X.length = m3) := by show _ = _; rw [hX, xo_length]; exact h3.len
  have Ht : Hid (t.length = 16 ∧ Bys t) := by rw [ht]; exact ⟨atag_length _ _ _ _, atag_bys _ _ _ _⟩
  have HX : ∀ W, Fr (fun _ => False) w W → Calls Try.prog 22 #[.agg (vs .u8 k), .int .u32 1, .agg (vs .u8 n), .slice A3 m3 c3] W fun e w' => ∃ g, W.heap.size ≤ g ∧ e = .returned (.tuple #[.slice (some ⟨g, 0, none⟩) m3 m3, .int .i64 0]) ∧ Ow w' (.slice (some ⟨g, 0, none⟩) m3 m3) X ∧ Fr (fun _ => False) W w' := fun W hf => by
    rw [hX]
    exact xor_few k n g3 A3 m3 c3 b W hk bk hn bn (h3.fr hf (fun _ x => x)) (by omega)
  have HT : ∀ W g4 A4 m4 c4, Fr (fun _ => False) w W → Sl W g4 (.slice A4 m4 c4) X → Calls Try.prog 29 #[.agg (vs .u8 k), .agg (vs .u8 n), .slice A2 m2 c2, .slice A4 m4 c4] W fun e w' => e = .returned (.agg (vs .u8 t)) ∧ Fr (fun _ => False) W w' := fun W g4 A4 m4 c4 hf hs => by
    rw [ht]
    exact tagOf_is k n g2 A2 m2 c2 ad g4 A4 m4 c4 X W hk bk hn bn (h2.fr hf (fun _ x => x)) hs (by omega) (by have := hs.len; rw [lX.out] at this; omega)
  have sK := Lib.hid (keys_info hk)
  have sN : Hid ((Try.prog.info? 22).map (·.size) = some (vs .u8 n).size) := by show _ = _; rw [size29, vs_size, hn]
  have st : Hid ((Try.prog.info? 38).map (·.size) = some (vs .u8 t).size) := tags_info Ht.out.1
  obtain ⟨Z, hZ⟩ : ∃ Z, Z = List.replicate 16 (0 : Int) := ⟨_, rfl⟩
  have hz2 : ∀ W : World, (zeroValue 38).run Try.prog W = .ok (.agg (vs .u8 Z)) W := fun W => by rw [hZ]; exact zero26 W
  have lZ : Hid ((vs .u8 Z).size = (vs .u8 t).size) := by show _ = _; rw [vs_size, vs_size, hZ, Ht.out.1]; rfl
  have j : ¬ (4096 : Int) < m2 := by omega
  have j3 : ¬ (4096 : Int) < m3 := by omega
  clear hX ht hZ hk bk hn bn h2 h3
  go_enter Try.func16, Try.ntmps16
  go_upto_region 3 with (fail)
  generalize hW : (w.alloc (.cells (vs .u8 k) 28)).alloc (.cells (vs .u8 n) 22) = W0
  have HW := Lib.hid (calm2 hW)
  clear hW
  go_upto_region 4 with (first
    | (go_at_call 22; refine (HX _ HW.out.2.2).mono ?_; rintro e w3 ⟨gx, hB3, rfl, hO3, hF3⟩; have O3 := Lib.hid hO3; have B3 := Lib.hid hB3; have F3 := Lib.hid hF3; clear hO3 hB3 hF3)
    | refine wpList_load_row rfl 28 (.tmp 4) rfl (w.heap.size) rfl 28 (vs .u8 k) (0, 0) _ HW.out.1 Try.underlying28 rfl sK.out ?_
    | refine wpList_load_row rfl 22 (.tmp 5) rfl (w.heap.size + 1) rfl 22 (vs .u8 n) (0, 0) _ HW.out.2.1 Try.underlying22 rfl sN.out ?_)
  have S3 := Lib.hid O3.out.sl
  have K3 := Lib.hid (Ar.fr (w := W0) (t := 28) (k := .u8) (l := k) HW.out.1 F3.out (fun x => x))
  have N3 := Lib.hid (Ar.fr (w := W0) (t := 22) (k := .u8) (l := n) HW.out.2.1 F3.out (fun x => x))
  have G3 := Lib.hid (HW.out.2.2.trans F3.out)
  go_upto_region 5 with (first
    | (go_at_call 29; refine (HT _ _ _ _ _ G3.out S3.out).mono ?_; rintro e w4 ⟨rfl, hf⟩; have F4 := Lib.hid hf; clear hf)
    | refine wpList_load_row rfl 28 (.tmp 4) rfl (w.heap.size) rfl 28 (vs .u8 k) (0, 0) _ K3.out Try.underlying28 rfl sK.out ?_
    | refine wpList_load_row rfl 22 (.tmp 5) rfl (w.heap.size + 1) rfl 22 (vs .u8 n) (0, 0) _ N3.out Try.underlying22 rfl sN.out ?_
    | refine wpList_store_row rfl 38 (.tmp 12) (.tmp 32) rfl w4.heap.size (vs .u8 t) rfl rfl 38 (vs .u8 Z) (heap_alloc_new w4 (.cells (vs .u8 Z) 38)) st.out lZ.out (vs_all _ _) ?_)
  obtain ⟨bq, hbq⟩ : ∃ q, q = w4.heap.size := ⟨_, rfl⟩
  have FQ : Fr (fun _ => False) w4 ((w4.alloc (.cells (vs .u8 Z) 38)).setRow w4.heap.size (vs .u8 t)) := ((Fr.refl _ w4).alloc _).setRow _ (.inr (Nat.le_refl _))
  have T5 : Hid (Ar ((w4.alloc (.cells (vs .u8 Z) 38)).setRow w4.heap.size (vs .u8 t)) bq 38 .u8 t) := by rw [hbq]; exact (Ar.new w4 38 .u8 Z).row t
  have O5 := Lib.hid (O3.out.keep (F4.out.trans FQ) (fun _ _ x => x))
  have G5 := Lib.hid ((G3.out.trans F4.out).trans FQ)
  have B5 : Hid (∀ g, (Value.slice (some ⟨gx, 0, none⟩) m3 m3).ownBlock = some g → w.heap.size ≤ g) := fun g hg => by
    have e : some gx = some g := hg
    injection e with e
    rw [← e]
    exact Nat.le_trans HW.out.2.2.size B3.out
  rw [← hbq] at O5 G5 T5 ⊢
  generalize (w4.alloc (.cells (vs .u8 Z) 38)).setRow bq (vs .u8 t) = W5 at *
  clear FQ hbq O3 B3 F3 F4 K3 N3 G3 S3 HW
  try simp only [Act.put, List.setIfInBounds_toArray, List.set_cons_succ, List.set_cons_zero]
  go_upto_region 6 with (at_builtin; refine wpList_own rfl (.tmp 33) (.tmp 34) rfl O5.out rfl rfl (T5.out.slt Ht.out.2 Ht.out.1 (by decide)) (by have := lX.out; omega) ?_; intro A6 N6 c6 w6 hap hN; have HA := Lib.hid hap; clear hap hN)
  obtain ⟨r1, r2⟩ := Nw.app (W0 := w) ⟨O5.out, B5.out⟩ G5.out (Fr.refl _ _) HA.out
  rw [← HBX.out] at r1
  go_ret2
  exact ⟨_, rfl, r1, r2⟩
/-- What Seal answers. -/
theorem seal_is (k n : List Int) (g2 : Nat) (A2 : Option Addr) (m2 c2 : Nat) (ad : List Int) (g3 : Nat) (A3 : Option Addr) (m3 c3 : Nat) (bx : List Int) (w : World) (hk : k.length = 32) (bk : Bys k) (hn : n.length = 12) (bn : Bys n)
    (h2 : Sl w g2 (.slice A2 m2 c2) ad) (h3 : Sl w g3 (.slice A3 m3 c3) bx) :
    Calls Try.prog 16 #[.agg (vs .u8 k), .agg (vs .u8 n), .slice A2 m2 c2, .slice A3 m3 c3] w fun e w' => ∃ v, e = .returned (.tuple #[v, .int .i64 (sealv k n ad bx).2]) ∧ Nw w w' v (sealv k n ad bx).1 ∧ Fr (fun _ => False) w w' := by
  have e2 := h2.len
  have e3 := h3.len
  unfold sealv
  by_cases h : 4096 < ad.length ∨ 4096 < bx.length
  · rw [if_pos h]
    refine (seal_no k n A2 m2 c2 A3 m3 c3 w (by omega)).mono fun e w' ⟨he, hf⟩ => ⟨_, he, Nw.nil _ _, hf⟩
  · rw [if_neg h]
    exact seal_yes k n g2 A2 m2 c2 ad g3 A3 m3 c3 bx w hk bk hn bn h2 h3 (by omega) (by omega)
end Go.Proofs.Ytbafppdmlhogbaa

/- The program's Open: contract, of all keys, nonces, ads and boxes. Condition: lengths below 2^47. -/
namespace Go.Proofs.Ytbafppdmlhogbaa
set_option linter.unusedSimpArgs false
set_option linter.unusedVariables false
open Go.ChangeShapes Go.WideShapes Go.ChangeAt Go.RowKit


set_option maxHeartbeats 4000000 in
theorem open_limit (k n : List Int) (A2 : Option Addr) (m2 c2 : Nat) (A3 : Option Addr) (m3 c3 : Nat) (w : World) (h : 4096 < m2 ∨ 4112 < m3) :
    Calls Try.prog 19 #[.agg (vs .u8 k), .agg (vs .u8 n), .slice A2 m2 c2, .slice A3 m3 c3] w fun e w' => e = .returned (.tuple #[.slice none 0 0, .int .i64 5]) ∧ Fr (fun _ => False) w w' := by
  by_cases h2 : 4096 < m2
  · have j : (4096 : Int) < m2 := by omega
    clear h h2
    go_enter Try.func19, Try.ntmps19
    go_wp2
    go_ret2
    exact ⟨rfl, ((Fr.refl _ _).alloc _).alloc _⟩
  · have j : ¬ (4096 : Int) < m2 := by omega
    have j3 : (4112 : Int) < m3 := by omega
    clear h h2
    go_enter Try.func19, Try.ntmps19
    go_wp2
    go_ret2
    exact ⟨rfl, ((Fr.refl _ _).alloc _).alloc _⟩
set_option maxHeartbeats 4000000 in
theorem open_trunc (k n : List Int) (A2 : Option Addr) (m2 c2 : Nat) (A3 : Option Addr) (m3 c3 : Nat) (w : World) (h2 : m2 ≤ 4096) (h : m3 < 16) :
    Calls Try.prog 19 #[.agg (vs .u8 k), .agg (vs .u8 n), .slice A2 m2 c2, .slice A3 m3 c3] w fun e w' => e = .returned (.tuple #[.slice none 0 0, .int .i64 3]) ∧ Fr (fun _ => False) w w' := by
  have j : ¬ (4096 : Int) < m2 := by omega
  have j3 : ¬ (4112 : Int) < m3 := by omega
  have j4 : (m3 : Int) < 16 := by omega
  clear h h2
  go_enter Try.func19, Try.ntmps19
  go_wp2
  go_ret2
  exact ⟨rfl, ((Fr.refl _ _).alloc _).alloc _⟩
set_option maxRecDepth 100000 in
set_option maxHeartbeats 8000000 in
theorem open_rest (k n : List Int) (g2 : Nat) (A2 : Option Addr) (m2 c2 : Nat) (ad : List Int) (g3 : Nat) (A3 : Option Addr) (m3 c3 : Nat) (bx : List Int) (w : World) (hk : k.length = 32) (bk : Bys k) (hn : n.length = 12) (bn : Bys n)
    (h2 : Sl w g2 (.slice A2 m2 c2) ad) (h3 : Sl w g3 (.slice A3 m3 c3) bx) (l2 : m2 ≤ 4096) (l3 : 16 ≤ m3) (l4 : m3 ≤ 4112) :
    Calls Try.prog 19 #[.agg (vs .u8 k), .agg (vs .u8 n), .slice A2 m2 c2, .slice A3 m3 c3] w (openEnd k n ad bx m3 w) := by
  obtain ⟨d, hd⟩ : ∃ d, d = m3 - 16 := ⟨_, rfl⟩
  have hl := h3.len
  obtain ⟨t, ht⟩ : ∃ t, t = atag k n ad (bx.take d) := ⟨_, rfl⟩
  obtain ⟨X, hX⟩ : ∃ X, X = xo k 1 n (bx.take d) := ⟨_, rfl⟩
  have HE : Unit → ∀ e w', openEnd k n ad bx m3 w e w' = if t = bx.drop d then (∃ v, e = .returned (.tuple #[v, .int .i64 0]) ∧ Nw w w' v X ∧ Fr (fun _ => False) w w') else (e = .returned (.tuple #[.slice none 0 0, .int .i64 60]) ∧ Fr (fun _ => False) w w') := fun _ e w' => by
    rw [openEnd, ← hd, ← ht, ← hX]
  have Ht : Hid (t.length = 16 ∧ Bys t) := by rw [ht]; exact ⟨atag_length _ _ _ _, atag_bys _ _ _ _⟩
  obtain ⟨ov, hA, _⟩ := h3.at_ (by omega)
  subst hA
  have hc3 : m3 ≤ c3 := by
    obtain ⟨_, A', c', e, h3, _⟩ := h3
    injection e with _ e2 e3
    omega
  have HT : ∀ W, Fr (fun _ => False) w W → Calls Try.prog 29 #[.agg (vs .u8 k), .agg (vs .u8 n), .slice A2 m2 c2, .slice (some ⟨g3, ov, none⟩) d c3] W fun e w' => e = .returned (.agg (vs .u8 t)) ∧ Fr (fun _ => False) W w' := fun W hf => by
    rw [ht]
    exact tagOf_is k n g2 A2 m2 c2 ad g3 _ d c3 (bx.take d) W hk bk hn bn (h2.fr hf (fun _ x => x)) ((h3.fr hf (fun _ x => x)).take d (by omega)) (by omega) (by omega)
  have HX : ∀ W, Fr (fun _ => False) w W → Calls Try.prog 22 #[.agg (vs .u8 k), .int .u32 1, .agg (vs .u8 n), .slice (some ⟨g3, ov, none⟩) d c3] W fun e w' => ∃ v, e = .returned (.tuple #[v, .int .i64 0]) ∧ Nw w w' v X ∧ Fr (fun _ => False) W w' := fun W hf => by
    rw [hX]
    have hs := (h3.fr hf (fun _ x => x)).take d (by omega)
    exact (xor_few k n g3 _ d c3 (bx.take d) W hk bk hn bn hs (by omega)).mono fun e w' ⟨g, h0, h1, h2, h3⟩ => ⟨_, h1, Nw.of ⟨h2, fun j hj => by have e : some g = some j := hj; injection e with e; rw [← e]; exact h0⟩ hf, h3⟩
  have HQ : ∀ W g1, Fr (fun _ => False) w W → Ar W g1 38 .u8 t → Calls Try.prog 32 #[.slice (some ⟨g1, 0, none⟩) 16 16, .slice (some ⟨g3, ov + d, none⟩) (m3 - d) (c3 - d)] W fun e w' => e = .returned (.bool (decide (t = bx.drop d))) ∧ Fr (fun _ => False) W w' := fun W g1 hf ha => by
    have hs := (h3.fr hf (fun _ x => x)).drop d (by omega)
    rw [hl, if_neg (by omega), Option.map_some, Addr_add_none] at hs
    exact (same_is g1 g3 _ _ 16 (m3 - d) 16 (c3 - d) t (bx.drop d) W (ha.slt Ht.out.2 Ht.out.1 (by decide)) hs).mono fun e w' ⟨he, hq⟩ => ⟨he, by first | exact hq | (obtain ⟨q, rfl⟩ := hq; exact Fr.drewN (Fr.refl _ _) q)⟩
  obtain ⟨q, hT2⟩ : ∃ x, decide (t = bx.drop d) = x := ⟨_, rfl⟩
  rw [hT2] at HQ
  have HE' : Unit → ∀ e w', openEnd k n ad bx m3 w e w' = if q = true then (∃ v, e = .returned (.tuple #[v, .int .i64 0]) ∧ Nw w w' v X ∧ Fr (fun _ => False) w w') else (e = .returned (.tuple #[.slice none 0 0, .int .i64 60]) ∧ Fr (fun _ => False) w w') := fun _ e w' => by
    rw [HE (), ← hT2]
    simp only [decide_eq_true_eq]
  clear HE
  have sK := Lib.hid (keys_info hk)
  have sN : Hid ((Try.prog.info? 22).map (·.size) = some (vs .u8 n).size) := by show _ = _; rw [size29, vs_size, hn]
  have st : Hid ((Try.prog.info? 38).map (·.size) = some (vs .u8 t).size) := tags_info Ht.out.1
  obtain ⟨Z, hZ⟩ : ∃ Z, Z = List.replicate 16 (0 : Int) := ⟨_, rfl⟩
  have hz2 : ∀ W : World, (zeroValue 38).run Try.prog W = .ok (.agg (vs .u8 Z)) W := fun W => by rw [hZ]; exact zero26 W
  have lZ : Hid ((vs .u8 Z).size = (vs .u8 t).size) := by show _ = _; rw [vs_size, vs_size, hZ, Ht.out.1]; rfl
  have j : ¬ (4096 : Int) < m2 := by omega
  have j3 : ¬ (4112 : Int) < m3 := by omega
  have j4 : ¬ (m3 : Int) < 16 := by omega
  have j5 : IntKind.i64.wrap ((m3 : Int) - 16) = (d : Int) := by rw [IntKind.wrap_i64]; omega
  have jd1 : ((d : Int)).toNat = d := by omega
  have jd2 : 0 ≤ (d : Int) := by omega
  have jd3 : (d : Int) ≤ m3 := by omega
  have jd4 : (d : Int) ≤ c3 := by omega
  have hcd : ¬ c3 = d := by omega
  clear hd hl ht hX hZ hT2 hk bk hn bn h2 h3 l2 l3 l4 hc3
  go_enter Try.func19, Try.ntmps19
  go_upto_region 5 with (fail)
  generalize hW : (w.alloc (.cells (vs .u8 k) 28)).alloc (.cells (vs .u8 n) 22) = W0
  have HW := Lib.hid (calm2 hW)
  clear hW j j3 j4
  have K0 : Hid (Ar W0 w.heap.size 28 .u8 k) := HW.out.1
  have N0 : Hid (Ar W0 (w.heap.size + 1) 22 .u8 n) := HW.out.2.1
  have F0 : Hid (Fr (fun _ => False) w W0) := HW.out.2.2
  clear HW
  refine wp_region_quiet (C := Calm W0) (by kernel_rfl) (by kernel_rfl) (Calm.start _ _ (Fr.refl _ _)) ?_
  refine BigFrame.wpQuiet_want rfl fun K hK => ?_
  try simp only [Act.put, List.setIfInBounds_toArray, List.set_cons_succ, List.set_cons_zero]
  go_big_quiet_op
  refine hK _ ?_
  refine BigFrame.wpQuiet_want rfl fun K hK => ?_
  try simp only [Act.put, List.setIfInBounds_toArray, List.set_cons_succ, List.set_cons_zero]
  go_big_quiet_op
  refine hK _ ?_
  refine BigFrame.wpQuiet_want rfl fun K hK => ?_
  try simp only [Act.put, List.setIfInBounds_toArray, List.set_cons_succ, List.set_cons_zero]
  go_big_quiet_op
  first
    | refine ⟨_, fun _ _ => rfl, hK _ ?_⟩
    | refine hK _ ?_
  refine BigFrame.wpQuiet_want rfl fun K hK => ?_
  try simp only [Act.put, List.setIfInBounds_toArray, List.set_cons_succ, List.set_cons_zero]
  go_big_quiet_op
  first
    | refine ⟨_, fun _ _ => rfl, hK _ ?_⟩
    | refine hK _ ?_
  refine BigFrame.wpQuiet_want rfl fun K hK => ?_
  try simp only [Act.put, List.setIfInBounds_toArray, List.set_cons_succ, List.set_cons_zero]
  go_big_quiet_op
  first
    | refine ⟨_, fun _ _ => rfl, hK _ ?_⟩
    | refine hK _ ?_
  refine BigFrame.wpQuiet_want rfl fun K hK => ?_
  try simp only [Act.put, List.setIfInBounds_toArray, List.set_cons_succ, List.set_cons_zero]
  go_big_quiet_op
  refine hK _ ?_
  refine BigFrame.wpQuiet_want rfl fun K hK => ?_
  try simp only [Act.put, List.setIfInBounds_toArray, List.set_cons_succ, List.set_cons_zero]
  go_big_quiet_op
  refine hK _ ?_
  refine BigFrame.wpQuiet_want rfl fun K hK => ?_
  try simp only [Act.put, List.setIfInBounds_toArray, List.set_cons_succ, List.set_cons_zero]
  go_big_quiet_op
  first
    | refine ⟨_, fun _ _ => rfl, hK _ ?_⟩
    | refine hK _ ?_
  refine BigFrame.wpQuiet_want rfl fun K hK => ?_
  try simp only [Act.put, List.setIfInBounds_toArray, List.set_cons_succ, List.set_cons_zero]
  go_big_quiet_op
  first
    | refine ⟨_, fun _ _ => rfl, hK _ ?_⟩
    | refine hK _ ?_
  refine BigFrame.wpQuiet_want rfl fun K hK => ?_
  try simp only [Act.put, List.setIfInBounds_toArray, List.set_cons_succ, List.set_cons_zero]
  go_big_quiet_op
  first
    | refine ⟨_, fun _ _ => rfl, hK _ ?_⟩
    | refine hK _ ?_
  refine BigFrame.wpQuiet_want rfl fun K hK => ?_
  try simp only [Act.put, List.setIfInBounds_toArray, List.set_cons_succ, List.set_cons_zero]
  go_big_quiet_op
  refine hK _ ?_
  refine BigFrame.wpQuiet_want rfl fun K hK => ?_
  try simp only [Act.put, List.setIfInBounds_toArray, List.set_cons_succ, List.set_cons_zero]
  go_big_quiet_op
  refine hK _ ?_
  refine wpQuiet_nil ?_
  intro w5 hw5
  have F5 : Hid (Fr (fun _ => False) w w5) := F0.out.trans hw5
  have G5 := Lib.hid hw5
  clear hw5
  try simp only [Act.put, List.setIfInBounds_toArray, List.set_cons_succ, List.set_cons_zero]
  have K5 := Lib.hid (Ar.fr K0.out G5.out (fun x => x))
  have N5 := Lib.hid (Ar.fr N0.out G5.out (fun x => x))
  clear K0 N0 G5 F0 j5 jd1 jd2 jd3 jd4
  go_upto_region 6 with (fail)
  go_upto_region 7 with (first
    | (go_at_call 29; refine (HT _ F5.out).mono ?_; rintro e w6 ⟨rfl, hf⟩; have F6 := Lib.hid hf; clear hf)
    | refine wpList_load_row rfl 28 (.tmp 4) rfl (w.heap.size) rfl 28 (vs .u8 k) (0, 0) _ K5.out Try.underlying28 rfl sK.out ?_
    | refine wpList_load_row rfl 22 (.tmp 5) rfl (w.heap.size + 1) rfl 22 (vs .u8 n) (0, 0) _ N5.out Try.underlying22 rfl sN.out ?_
    | refine wpList_store_row rfl 38 (.tmp 12) (.tmp 38) rfl w6.heap.size (vs .u8 t) rfl rfl 38 (vs .u8 Z) (heap_alloc_new w6 (.cells (vs .u8 Z) 38)) st.out lZ.out (vs_all _ _) ?_)
  obtain ⟨bq, hbq⟩ : ∃ q, q = w6.heap.size := ⟨_, rfl⟩
  have FQ : Fr (fun _ => False) w6 ((w6.alloc (.cells (vs .u8 Z) 38)).setRow w6.heap.size (vs .u8 t)) := ((Fr.refl _ w6).alloc _).setRow _ (.inr (Nat.le_refl _))
  have T7 : Hid (Ar ((w6.alloc (.cells (vs .u8 Z) 38)).setRow w6.heap.size (vs .u8 t)) bq 38 .u8 t) := by rw [hbq]; exact (Ar.new w6 38 .u8 Z).row t
  have K7 := Lib.hid ((Ar.fr (w := w5) (t := 28) (k := .u8) (l := k) K5.out F6.out (fun x => x)).fr FQ (fun x => x))
  have N7 := Lib.hid ((Ar.fr (w := w5) (t := 22) (k := .u8) (l := n) N5.out F6.out (fun x => x)).fr FQ (fun x => x))
  have F7 := Lib.hid ((F5.out.trans F6.out).trans FQ)
  rw [← hbq] at K7 N7 F7 T7 ⊢
  generalize (w6.alloc (.cells (vs .u8 Z) 38)).setRow bq (vs .u8 t) = W7 at *
  clear FQ hbq F5 F6 K5 N5
  try simp only [Act.put, List.setIfInBounds_toArray, List.set_cons_succ, List.set_cons_zero]
  rcases q with _ | _
  · have HE2 : Unit → ∀ e w', openEnd k n ad bx m3 w e w' = (e = .returned (.tuple #[.slice none 0 0, .int .i64 60]) ∧ Fr (fun _ => False) w w') := fun _ e w' => by rw [HE' (), if_neg (by simp)]
    clear HE'
    go_wp2_with (go_at_call 32; refine (HQ W7 bq F7.out T7.out).mono ?_; rintro e w8 ⟨rfl, hf⟩; have F8 := Lib.hid hf; clear hf)
    go_ret2
    rw [HE2 ()]
    exact ⟨rfl, F7.out.trans F8.out⟩
  · have HE2 : Unit → ∀ e w', openEnd k n ad bx m3 w e w' = (∃ v, e = .returned (.tuple #[v, .int .i64 0]) ∧ Nw w w' v X ∧ Fr (fun _ => False) w w') := fun _ e w' => by rw [HE' (), if_pos rfl]
    clear HE'
    go_upto_region 9 with (go_at_call 32; refine (HQ W7 bq F7.out T7.out).mono ?_; rintro e w8 ⟨rfl, hf⟩; have F8 := Lib.hid hf; clear hf)
    have K8 := Lib.hid (Ar.fr K7.out F8.out (fun x => x))
    have N8 := Lib.hid (Ar.fr N7.out F8.out (fun x => x))
    have G8 := Lib.hid (F7.out.trans F8.out)
    clear K7 N7 T7 F7 F8
    go_wp2_with (first
      | (go_at_call 22; refine (HX _ G8.out).mono ?_; rintro e w9 ⟨v9, rfl, hn9, hf9⟩; have N9 := Lib.hid hn9; have F9 := Lib.hid hf9; clear hn9 hf9)
      | refine wpList_load_row rfl 28 (.tmp 4) rfl (w.heap.size) rfl 28 (vs .u8 k) (0, 0) _ K8.out Try.underlying28 rfl sK.out ?_
      | refine wpList_load_row rfl 22 (.tmp 5) rfl (w.heap.size + 1) rfl 22 (vs .u8 n) (0, 0) _ N8.out Try.underlying22 rfl sN.out ?_)
    go_ret2
    rw [HE2 ()]
    exact ⟨_, rfl, N9.out, G8.out.trans F9.out⟩
/-- What Open answers. -/
theorem open_is (k n : List Int) (g2 : Nat) (A2 : Option Addr) (m2 c2 : Nat) (ad : List Int) (g3 : Nat) (A3 : Option Addr) (m3 c3 : Nat) (bx : List Int) (w : World) (hk : k.length = 32) (bk : Bys k) (hn : n.length = 12) (bn : Bys n)
    (h2 : Sl w g2 (.slice A2 m2 c2) ad) (h3 : Sl w g3 (.slice A3 m3 c3) bx) :
    Calls Try.prog 19 #[.agg (vs .u8 k), .agg (vs .u8 n), .slice A2 m2 c2, .slice A3 m3 c3] w fun e w' => ∃ v, e = .returned (.tuple #[v, .int .i64 (openv k n ad bx).2]) ∧ Nw w w' v (openv k n ad bx).1 ∧ Fr (fun _ => False) w w' := by
  have e2 := h2.len
  have e3 := h3.len
  unfold openv
  by_cases h : 4096 < ad.length ∨ 4112 < bx.length
  · rw [if_pos h]
    exact (open_limit k n A2 m2 c2 A3 m3 c3 w (by omega)).mono fun e w' ⟨he, hf⟩ => ⟨_, he, Nw.nil _ _, hf⟩
  · rw [if_neg h]
    by_cases h4 : bx.length < 16
    · rw [if_pos h4]
      exact (open_trunc k n A2 m2 c2 A3 m3 c3 w (by omega) (by omega)).mono fun e w' ⟨he, hf⟩ => ⟨_, he, Nw.nil _ _, hf⟩
    · rw [if_neg h4, e3]
      refine (open_rest k n g2 A2 m2 c2 ad g3 A3 m3 c3 bx w hk bk hn bn h2 h3 (by omega) (by omega) (by omega)).mono fun e w' he => ?_
      unfold openEnd at he
      by_cases h5 : atag k n ad (bx.take (m3 - 16)) = bx.drop (m3 - 16)
      · rw [if_pos h5] at he ⊢
        exact he
      · rw [if_neg h5] at he ⊢
        exact ⟨_, he.1, Nw.nil _ _, he.2⟩
end Go.Proofs.Ytbafppdmlhogbaa

/- The program's Nonce, Seal and Open: their contracts, brought together. -/
namespace Go.Proofs.Ytbafppdmlhogbaa
set_option linter.unusedSimpArgs false
set_option linter.unusedVariables false
open Go.ChangeShapes Go.WideShapes Go.ChangeAt Go.RowKit

end Go.Proofs.Ytbafppdmlhogbaa
