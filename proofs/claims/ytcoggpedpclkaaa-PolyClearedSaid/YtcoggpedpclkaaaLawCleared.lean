/- PolyCleared answers true for all keys and bytes, and its arguments read behind the call as they did: the given statement PolyClearedSaid. No condition. -/
import Derived.Test.YtcoggpedpclkaaaLi
namespace Go.Proofs.Ytcoggpedpclkaaa
set_option linter.unusedSimpArgs false
set_option linter.unusedVariables false
open Go.ChangeShapes Go.WideShapes Go.ChangeAt Go.RowKit

def zr (i : Nat) (x : Int) : Int := if i % 4 = 3 then bits .xor .u8 x 240 else if i = 4 ∨ i = 8 ∨ i = 12 then bits .xor .u8 x 3 else x
theorem xor240 (x : Int) (h0 : 0 ≤ x) (h1 : x ≤ 255) : 0 ≤ bits .xor .u8 x 240 ∧ bits .xor .u8 x 240 ≤ 255 ∧ bits .xor .u8 x 240 % 16 = x % 16 := by
  obtain ⟨x, rfl⟩ := Int.eq_ofNat_of_zero_le h0
  have h := u8_xor_nat x 240 (by omega) (by omega)
  have e : x ^^^ 240 ≤ 255 ∧ (x ^^^ 240) % 16 = x % 16 := by
    have : ∀ y : Fin 256, y.val ^^^ 240 ≤ 255 ∧ (y.val ^^^ 240) % 16 = y.val % 16 := by decide +kernel
    exact this ⟨x, by omega⟩
  have h' : bits .xor .u8 ((x : Nat) : Int) 240 = ((x ^^^ 240 : Nat) : Int) := h
  rw [h']
  omega
theorem xor3 (x : Int) (h0 : 0 ≤ x) (h1 : x ≤ 255) : 0 ≤ bits .xor .u8 x 3 ∧ bits .xor .u8 x 3 ≤ 255 ∧ bits .xor .u8 x 3 - bits .xor .u8 x 3 % 4 = x - x % 4 := by
  obtain ⟨x, rfl⟩ := Int.eq_ofNat_of_zero_le h0
  have h := u8_xor_nat x 3 (by omega) (by omega)
  have e : x ^^^ 3 ≤ 255 ∧ (x ^^^ 3) / 4 = x / 4 := by
    have : ∀ y : Fin 256, y.val ^^^ 3 ≤ 255 ∧ (y.val ^^^ 3) / 4 = y.val / 4 := by decide +kernel
    exact this ⟨x, by omega⟩
  have h' : bits .xor .u8 ((x : Nat) : Int) 3 = ((x ^^^ 3 : Nat) : Int) := h
  rw [h']
  omega
theorem zr_bys (i : Nat) (x : Int) (h0 : 0 ≤ x) (h1 : x ≤ 255) : 0 ≤ zr i x ∧ zr i x ≤ 255 := by
  have h2 := xor240 x h0 h1
  have h3 := xor3 x h0 h1
  unfold zr
  split
  · omega
  · split <;> omega
/-- The key behind so many rounds. -/
def qk (k : List Int) : Nat → List Int
  | 0 => k
  | i + 1 => (qk k i).set i (zr i ((qk k i).getD i 0))
theorem qk_succ (k : List Int) (i : Nat) : qk k (i + 1) = (qk k i).set i (zr i ((qk k i).getD i 0)) := rfl
theorem qk_length (k : List Int) : ∀ i, (qk k i).length = k.length := by
  intro i
  induction i with
  | zero => rfl
  | succ i ih => rw [qk_succ, List.length_set, ih]
theorem qk_bys (k : List Int) (hk : k.length = 32) (hb : Bys k) : ∀ i, i ≤ 16 → Bys (qk k i) := by
  intro i
  induction i with
  | zero => intro _; exact hb
  | succ i ih =>
    intro hi x hx
    rw [qk_succ] at hx
    have h := ih (by omega)
    rcases List.mem_or_eq_of_mem_set hx with hx | rfl
    · exact h x hx
    · have hy := h _ (List.mem_of_getElem? (getD_some (l := qk k i) (i := i) (by rw [qk_length, hk]; omega)))
      exact zr_bys i _ hy.1 hy.2
theorem qk_drop (k : List Int) : ∀ i, i ≤ 16 → (qk k i).drop 16 = k.drop 16 := by
  intro i
  induction i with
  | zero => intro _; rfl
  | succ i ih =>
    intro hi
    rw [qk_succ, ← ih (by omega)]
    apply List.ext_getElem?
    intro j
    rw [List.getElem?_drop, List.getElem?_drop, List.getElem?_set_ne (by omega)]
theorem qk_get (k : List Int) : ∀ i j, i ≤ 16 → j < 16 → j < k.length → (qk k i).getD j 0 = if j < i then zr j (k.getD j 0) else k.getD j 0 := by
  intro i
  induction i with
  | zero => intro j _ _ _; rw [if_neg (by omega)]; rfl
  | succ i ih =>
    intro j hi hj hl
    rw [qk_succ]
    by_cases e : j = i
    · subst e
      rw [if_pos (by omega), List.getD_eq_getElem?_getD, List.getElem?_set_self (by rw [qk_length]; exact hl)]
      show zr j _ = _
      rw [ih j (by omega) hj hl, if_neg (by omega)]
    · rw [List.getD_eq_getElem?_getD, List.getElem?_set_ne (by omega), ← List.getD_eq_getElem?_getD, ih j (by omega) hj hl]
      by_cases h : j < i
      · rw [if_pos h, if_pos (by omega)]
      · rw [if_neg h, if_neg (by omega)]
theorem clr_ext (l m : List Int) (hl : l.length = 16) (hm : m.length = 16) (h : ∀ j, j < 16 → cl j (l.getD j 0) = cl j (m.getD j 0)) : clr l = clr m := by
  apply List.ext_getElem?
  intro j
  by_cases hj : j < 16
  · rw [clr_get hl j hj, clr_get hm j hj, h j hj]
  · rw [List.getElem?_eq_none (by rw [clr_length hl]; omega), List.getElem?_eq_none (by rw [clr_length hm]; omega)]
theorem qk_rr (k : List Int) (hk : k.length = 32) (hb : Bys k) : rr (qk k 16) = rr k := by
  have lq : ((qk k 16).take 16).length = 16 := by rw [List.length_take, qk_length, hk]; rfl
  have lk : (k.take 16).length = 16 := by rw [List.length_take, hk]; rfl
  have e : clr ((qk k 16).take 16) = clr (k.take 16) := clr_ext _ _ lq lk (fun j hj => by
    have e1 : ((qk k 16).take 16).getD j 0 = zr j (k.getD j 0) := by
      rw [List.getD_eq_getElem?_getD, List.getElem?_take, if_pos hj, ← List.getD_eq_getElem?_getD, qk_get k 16 j (by omega) hj (by omega), if_pos hj]
    have hy := hb _ (List.mem_of_getElem? (getD_some (l := k) (i := j) (by omega)))
    have e2 : (k.take 16).getD j 0 = k.getD j 0 := by rw [List.getD_eq_getElem?_getD, List.getElem?_take, if_pos hj, List.getD_eq_getElem?_getD]
    rw [e1, e2]
    have h2 := xor240 _ hy.1 hy.2
    have h3 := xor3 _ hy.1 hy.2
    unfold cl zr
    split
    · omega
    · split <;> omega)
  unfold rr
  rw [e]
theorem qk_tag (k l : List Int) (hk : k.length = 32) (hb : Bys k) : tag (qk k 16) l = tag k l := by
  rw [tag, tag, qk_rr k hk hb, qk_drop k 16 (Nat.le_refl _)]
set_option maxRecDepth 100000 in
set_option maxHeartbeats 16000000 in
theorem law_cleared_any (k0 : List Int) (g1 : Nat) (A1 : Option Addr) (m1 s1 : Nat) (l1 : List Int) (w : World) (lk0 : k0.length = 32) (bk0 : Bys k0) (hs1 : Sl w g1 (.slice A1 m1 s1) l1) (hn1 : m1 ≤ 140737488351232) (hg1 : l1 ≠ [] → g1 < w.heap.size) :
    Calls Try.prog 9 #[.agg (vs .u8 k0), .slice A1 m1 s1] w fun e w' => e = .returned (.bool true) ∧ Fr (fun _ => False) w w' := by
  obtain ⟨QK, hQK⟩ : ∃ Q : Nat → List Int, Q = qk k0 := ⟨_, rfl⟩
  have N0 : Hid (QK 0 = k0) := by show _ = _; rw [hQK]; rfl
  have N1 : Hid (∀ i, QK (i + 1) = (QK i).set i (zr i ((QK i).getD i 0))) := by show ∀ _, _; intro i; rw [hQK, qk_succ]
  have N2 : Hid (∀ i, (QK i).length = 32) := by show ∀ _, _; intro i; rw [hQK, qk_length, lk0]
  obtain ⟨K, hK⟩ : ∃ K, K = QK 16 := ⟨_, rfl⟩
  have lK : K.length = 32 := by rw [hK]; exact N2.out 16
  have bK : Bys K := by rw [hK, hQK]; exact qk_bys k0 lk0 bk0 16 (Nat.le_refl _)
  obtain ⟨t, ht⟩ : ∃ t, t = tag k0 l1 := ⟨_, rfl⟩
  have lt : t.length = 16 := by rw [ht]; exact tag_length _ _
  have et : tag K l1 = t := by rw [ht, hK, hQK]; exact qk_tag k0 l1 lk0 bk0
  have HE : ∀ W, (Op.equalIn 10000 26 (.agg (vs .u8 t)) (.agg (vs .u8 t))).run Try.prog W = .ok true W := fun W => (eq26 t t lt lt W).trans (by rw [decide_eq_true rfl])
  have C15 : ∀ V, Calm w V → ∀ U, Calm U V → Calls Try.prog 15 #[.agg (vs .u8 K), .slice A1 m1 s1] V fun e w' => e = .returned (.agg (vs .u8 t)) ∧ Calm U w' := fun V h U hU => by
    rw [← et]
    exact (tag_is K g1 A1 m1 s1 l1 V lK bK (hs1.fr h (fun _ x => x)) (fun e => Nat.lt_of_lt_of_le (hg1 e) h.size)).mono fun _ _ ⟨he, hf⟩ => ⟨he, Fr.trans hU hf⟩
  have C15b : ∀ V, Calm w V → ∀ U, Calm U V → Calls Try.prog 15 #[.agg (vs .u8 k0), .slice A1 m1 s1] V fun e w' => e = .returned (.agg (vs .u8 t)) ∧ Calm U w' := fun V h U hU => by
    rw [ht]
    exact (tag_is k0 g1 A1 m1 s1 l1 V lk0 bk0 (hs1.fr h (fun _ x => x)) (fun e => Nat.lt_of_lt_of_le (hg1 e) h.size)).mono fun _ _ ⟨he, hf⟩ => ⟨he, Fr.trans hU hf⟩
  have hz : ∀ W : World, (zeroValue 23).run Try.prog W = .ok (.agg (vs .u8 (List.replicate 32 0))) W := fun W => by kernel_rfl
  obtain ⟨Z, hZ⟩ : ∃ Z, Z = List.replicate 32 (0 : Int) := ⟨_, rfl⟩
  rw [← hZ] at hz
  have lZ : Hid (Z.length = 32) := by show _ = _; rw [hZ]; rfl
  have s0 := Lib.hid (keys_info lk0)
  have lk := Lib.hid lk0
  have s23 := Lib.hid (keys_info lK)
  have HK := Lib.hid hK
  clear hQK hK lK bK ht lt et lk0 bk0 hs1 hn1 hg1 hZ
  go_enter Try.func9, Try.ntmps9
  go_upto_region 1 with (fail)
  have X0 : Hid (Ar (w.alloc (.cells (vs .u8 k0) 23)) w.heap.size 23 .u8 k0) := heap_alloc_new w _
  have F0 : Hid (Fr (fun _ => False) w (w.alloc (.cells (vs .u8 k0) 23))) := (Fr.refl _ _).alloc _
  generalize w.alloc (.cells (vs .u8 k0) 23) = W0 at *
  go_upto_region 3 with (go_at_call 18; refine (works_is _).mono ?_; rintro e w1 ⟨rfl, hf⟩)
  replace X0 := Lib.hid (Ar.fr X0.out hf (fun x => x))
  replace F0 := Lib.hid (F0.out.trans hf)
  clear hf
  go_upto_region 4 with (first
    | refine wpList_load_row rfl 23 (.tmp 2) rfl (w.heap.size) rfl 23 (vs .u8 k0) (0, 0) _ X0.out Try.underlying23 rfl s0.out ?_
    | refine wpList_store_row rfl 23 (.tmp 5) (.tmp 9) rfl w1.heap.size (vs .u8 k0) rfl rfl 23 (vs .u8 Z) (heap_alloc_new w1 (.cells (vs .u8 Z) 23)) s0.out (by rw [vs_size, vs_size, lZ.out, lk.out]) (vs_all _ _) ?_)
  obtain ⟨q, hq⟩ : ∃ q, q = w1.heap.size := ⟨_, rfl⟩
  have hq0 : w.heap.size < q := by rw [hq]; exact X0.out.lt
  have Y0 : Hid (Ar ((w1.alloc (.cells (vs .u8 Z) 23)).setRow w1.heap.size (vs .u8 k0)) q 23 .u8 (QK 0)) := by rw [hq, N0.out]; exact (Ar.new w1 23 .u8 Z).row k0
  have hff : Fr (fun _ => False) w1 ((w1.alloc (.cells (vs .u8 Z) 23)).setRow w1.heap.size (vs .u8 k0)) := ((Fr.refl _ _).alloc _).setRow _ (.inr (Nat.le_refl _))
  replace X0 := Lib.hid (Ar.fr X0.out hff (fun x => x))
  replace F0 := Lib.hid (F0.out.trans hff)
  rw [← hq] at X0 Y0 F0 ⊢
  clear hff hq hz
  generalize (w1.alloc (.cells (vs .u8 Z) 23)).setRow q (vs .u8 k0) = W2 at *
  go_wp2
  go_loopw [6] (fun u6 wr => ∃ i : Nat, u6 = .int .i64 i ∧ i ≤ 16 ∧ Hid (Ar wr (q) 23 .u8 (QK i)) ∧ Hid (Ar wr w.heap.size 23 .u8 k0) ∧ Hid (Fr (fun _ => False) w wr))
    (fun u6 _ => 16 - (intOf u6).toNat)
  case atStart => exact ⟨0, rfl, by omega, Y0, X0, F0⟩
  case round =>
    clear X0 F0 Y0
    obtain ⟨i, rfl, hi, hA, hX, hF⟩ := hrel
    by_cases hil : i < 16
    · obtain ⟨L, hL⟩ : ∃ L, L = QK i := ⟨_, rfl⟩
      have lL : L.length = 32 := by rw [hL]; exact N2.out i
      have hS : Unit → ∀ y, L.getD i 0 = y → L.set i (zr i y) = QK (i + 1) := fun _ y hy => by rw [N1.out i, ← hL, hy]
      rw [← hL] at hA
      obtain ⟨y, hy⟩ : ∃ y, L.getD i 0 = y := ⟨_, rfl⟩
      have gy := getD_some (l := L) (i := i) (by omega)
      rw [hy] at gy
      have hset := hS () y hy
      have ck := hA.out.cell gy
      have fk := hA.out.frozen i
      have HS2 := Lib.hid hset
      clear hL hS hy gy hset lL
      have hi16 : i = 0 ∨ i = 1 ∨ i = 2 ∨ i = 3 ∨ i = 4 ∨ i = 5 ∨ i = 6 ∨ i = 7 ∨ i = 8 ∨ i = 9 ∨ i = 10 ∨ i = 11 ∨ i = 12 ∨ i = 13 ∨ i = 14 ∨ i = 15 := by omega
      rcases hi16 with rfl | rfl | rfl | rfl | rfl | rfl | rfl | rfl | rfl | rfl | rfl | rfl | rfl | rfl | rfl | rfl
      · have A9 : Hid (Ar wr (q) 23 .u8 (QK (0 + 1))) := by
          have h := hA.out
          have e := HS2.out
          rw [show zr 0 y = y by rfl] at e
          have e2 : L.set 0 y = L := by
            apply List.ext_getElem?
            intro j
            by_cases hj : j = 0
            · subst hj
              have h9 := ck
              rw [cell_of_row _ _ _ _ _ _ hA.out, vs_get] at h9
              obtain ⟨x, hx, hxy⟩ := Option.map_eq_some_iff.1 h9
              injection hxy with _ hxy
              subst hxy
              rw [List.getElem?_set_self (List.getElem?_eq_some_iff.1 hx).1, hx]
            · rw [List.getElem?_set_ne (by omega)]
          rw [e2] at e
          rw [← e]
          exact h
        clear hA ck fk
        go_wp2
        go_roundw
        case rel => exact ⟨0 + 1, by go_num, by omega, A9, hX, hF⟩
        case measure => simp [intOf]
      · have A9 : Hid (Ar wr (q) 23 .u8 (QK (1 + 1))) := by
          have h := hA.out
          have e := HS2.out
          rw [show zr 1 y = y by rfl] at e
          have e2 : L.set 1 y = L := by
            apply List.ext_getElem?
            intro j
            by_cases hj : j = 1
            · subst hj
              have h9 := ck
              rw [cell_of_row _ _ _ _ _ _ hA.out, vs_get] at h9
              obtain ⟨x, hx, hxy⟩ := Option.map_eq_some_iff.1 h9
              injection hxy with _ hxy
              subst hxy
              rw [List.getElem?_set_self (List.getElem?_eq_some_iff.1 hx).1, hx]
            · rw [List.getElem?_set_ne (by omega)]
          rw [e2] at e
          rw [← e]
          exact h
        clear hA ck fk
        go_wp2
        go_roundw
        case rel => exact ⟨1 + 1, by go_num, by omega, A9, hX, hF⟩
        case measure => simp [intOf]
      · have A9 : Hid (Ar wr (q) 23 .u8 (QK (2 + 1))) := by
          have h := hA.out
          have e := HS2.out
          rw [show zr 2 y = y by rfl] at e
          have e2 : L.set 2 y = L := by
            apply List.ext_getElem?
            intro j
            by_cases hj : j = 2
            · subst hj
              have h9 := ck
              rw [cell_of_row _ _ _ _ _ _ hA.out, vs_get] at h9
              obtain ⟨x, hx, hxy⟩ := Option.map_eq_some_iff.1 h9
              injection hxy with _ hxy
              subst hxy
              rw [List.getElem?_set_self (List.getElem?_eq_some_iff.1 hx).1, hx]
            · rw [List.getElem?_set_ne (by omega)]
          rw [e2] at e
          rw [← e]
          exact h
        clear hA ck fk
        go_wp2
        go_roundw
        case rel => exact ⟨2 + 1, by go_num, by omega, A9, hX, hF⟩
        case measure => simp [intOf]
      · have A9 : Hid (Ar (wr.setCell ⟨q, 3, none⟩ (.int .u8 (bits .xor .u8 y 240))) (q) 23 .u8 (QK (3 + 1))) := by
          have e := HS2.out
          rw [show zr 3 y = bits .xor .u8 y 240 by rfl] at e
          rw [← e]
          exact hA.out.set 3 _
        clear hA
        go_wp2
        go_roundw
        case rel => exact ⟨3 + 1, by go_num, by omega, A9, hX.out.far (by simp <;> omega) _, hF.out.setCell _ (.inr (by simp <;> omega))⟩
        case measure => simp [intOf]
      · have A9 : Hid (Ar (wr.setCell ⟨q, 4, none⟩ (.int .u8 (bits .xor .u8 y 3))) (q) 23 .u8 (QK (4 + 1))) := by
          have e := HS2.out
          rw [show zr 4 y = bits .xor .u8 y 3 by rfl] at e
          rw [← e]
          exact hA.out.set 4 _
        clear hA
        go_wp2
        go_roundw
        case rel => exact ⟨4 + 1, by go_num, by omega, A9, hX.out.far (by simp <;> omega) _, hF.out.setCell _ (.inr (by simp <;> omega))⟩
        case measure => simp [intOf]
      · have A9 : Hid (Ar wr (q) 23 .u8 (QK (5 + 1))) := by
          have h := hA.out
          have e := HS2.out
          rw [show zr 5 y = y by rfl] at e
          have e2 : L.set 5 y = L := by
            apply List.ext_getElem?
            intro j
            by_cases hj : j = 5
            · subst hj
              have h9 := ck
              rw [cell_of_row _ _ _ _ _ _ hA.out, vs_get] at h9
              obtain ⟨x, hx, hxy⟩ := Option.map_eq_some_iff.1 h9
              injection hxy with _ hxy
              subst hxy
              rw [List.getElem?_set_self (List.getElem?_eq_some_iff.1 hx).1, hx]
            · rw [List.getElem?_set_ne (by omega)]
          rw [e2] at e
          rw [← e]
          exact h
        clear hA ck fk
        go_wp2
        go_roundw
        case rel => exact ⟨5 + 1, by go_num, by omega, A9, hX, hF⟩
        case measure => simp [intOf]
      · have A9 : Hid (Ar wr (q) 23 .u8 (QK (6 + 1))) := by
          have h := hA.out
          have e := HS2.out
          rw [show zr 6 y = y by rfl] at e
          have e2 : L.set 6 y = L := by
            apply List.ext_getElem?
            intro j
            by_cases hj : j = 6
            · subst hj
              have h9 := ck
              rw [cell_of_row _ _ _ _ _ _ hA.out, vs_get] at h9
              obtain ⟨x, hx, hxy⟩ := Option.map_eq_some_iff.1 h9
              injection hxy with _ hxy
              subst hxy
              rw [List.getElem?_set_self (List.getElem?_eq_some_iff.1 hx).1, hx]
            · rw [List.getElem?_set_ne (by omega)]
          rw [e2] at e
          rw [← e]
          exact h
        clear hA ck fk
        go_wp2
        go_roundw
        case rel => exact ⟨6 + 1, by go_num, by omega, A9, hX, hF⟩
        case measure => simp [intOf]
      · have A9 : Hid (Ar (wr.setCell ⟨q, 7, none⟩ (.int .u8 (bits .xor .u8 y 240))) (q) 23 .u8 (QK (7 + 1))) := by
          have e := HS2.out
          rw [show zr 7 y = bits .xor .u8 y 240 by rfl] at e
          rw [← e]
          exact hA.out.set 7 _
        clear hA
        go_wp2
        go_roundw
        case rel => exact ⟨7 + 1, by go_num, by omega, A9, hX.out.far (by simp <;> omega) _, hF.out.setCell _ (.inr (by simp <;> omega))⟩
        case measure => simp [intOf]
      · have A9 : Hid (Ar (wr.setCell ⟨q, 8, none⟩ (.int .u8 (bits .xor .u8 y 3))) (q) 23 .u8 (QK (8 + 1))) := by
          have e := HS2.out
          rw [show zr 8 y = bits .xor .u8 y 3 by rfl] at e
          rw [← e]
          exact hA.out.set 8 _
        clear hA
        go_wp2
        go_roundw
        case rel => exact ⟨8 + 1, by go_num, by omega, A9, hX.out.far (by simp <;> omega) _, hF.out.setCell _ (.inr (by simp <;> omega))⟩
        case measure => simp [intOf]
      · have A9 : Hid (Ar wr (q) 23 .u8 (QK (9 + 1))) := by
          have h := hA.out
          have e := HS2.out
          rw [show zr 9 y = y by rfl] at e
          have e2 : L.set 9 y = L := by
            apply List.ext_getElem?
            intro j
            by_cases hj : j = 9
            · subst hj
              have h9 := ck
              rw [cell_of_row _ _ _ _ _ _ hA.out, vs_get] at h9
              obtain ⟨x, hx, hxy⟩ := Option.map_eq_some_iff.1 h9
              injection hxy with _ hxy
              subst hxy
              rw [List.getElem?_set_self (List.getElem?_eq_some_iff.1 hx).1, hx]
            · rw [List.getElem?_set_ne (by omega)]
          rw [e2] at e
          rw [← e]
          exact h
        clear hA ck fk
        go_wp2
        go_roundw
        case rel => exact ⟨9 + 1, by go_num, by omega, A9, hX, hF⟩
        case measure => simp [intOf]
      · have A9 : Hid (Ar wr (q) 23 .u8 (QK (10 + 1))) := by
          have h := hA.out
          have e := HS2.out
          rw [show zr 10 y = y by rfl] at e
          have e2 : L.set 10 y = L := by
            apply List.ext_getElem?
            intro j
            by_cases hj : j = 10
            · subst hj
              have h9 := ck
              rw [cell_of_row _ _ _ _ _ _ hA.out, vs_get] at h9
              obtain ⟨x, hx, hxy⟩ := Option.map_eq_some_iff.1 h9
              injection hxy with _ hxy
              subst hxy
              rw [List.getElem?_set_self (List.getElem?_eq_some_iff.1 hx).1, hx]
            · rw [List.getElem?_set_ne (by omega)]
          rw [e2] at e
          rw [← e]
          exact h
        clear hA ck fk
        go_wp2
        go_roundw
        case rel => exact ⟨10 + 1, by go_num, by omega, A9, hX, hF⟩
        case measure => simp [intOf]
      · have A9 : Hid (Ar (wr.setCell ⟨q, 11, none⟩ (.int .u8 (bits .xor .u8 y 240))) (q) 23 .u8 (QK (11 + 1))) := by
          have e := HS2.out
          rw [show zr 11 y = bits .xor .u8 y 240 by rfl] at e
          rw [← e]
          exact hA.out.set 11 _
        clear hA
        go_wp2
        go_roundw
        case rel => exact ⟨11 + 1, by go_num, by omega, A9, hX.out.far (by simp <;> omega) _, hF.out.setCell _ (.inr (by simp <;> omega))⟩
        case measure => simp [intOf]
      · have A9 : Hid (Ar (wr.setCell ⟨q, 12, none⟩ (.int .u8 (bits .xor .u8 y 3))) (q) 23 .u8 (QK (12 + 1))) := by
          have e := HS2.out
          rw [show zr 12 y = bits .xor .u8 y 3 by rfl] at e
          rw [← e]
          exact hA.out.set 12 _
        clear hA
        go_wp2
        go_roundw
        case rel => exact ⟨12 + 1, by go_num, by omega, A9, hX.out.far (by simp <;> omega) _, hF.out.setCell _ (.inr (by simp <;> omega))⟩
        case measure => simp [intOf]
      · have A9 : Hid (Ar wr (q) 23 .u8 (QK (13 + 1))) := by
          have h := hA.out
          have e := HS2.out
          rw [show zr 13 y = y by rfl] at e
          have e2 : L.set 13 y = L := by
            apply List.ext_getElem?
            intro j
            by_cases hj : j = 13
            · subst hj
              have h9 := ck
              rw [cell_of_row _ _ _ _ _ _ hA.out, vs_get] at h9
              obtain ⟨x, hx, hxy⟩ := Option.map_eq_some_iff.1 h9
              injection hxy with _ hxy
              subst hxy
              rw [List.getElem?_set_self (List.getElem?_eq_some_iff.1 hx).1, hx]
            · rw [List.getElem?_set_ne (by omega)]
          rw [e2] at e
          rw [← e]
          exact h
        clear hA ck fk
        go_wp2
        go_roundw
        case rel => exact ⟨13 + 1, by go_num, by omega, A9, hX, hF⟩
        case measure => simp [intOf]
      · have A9 : Hid (Ar wr (q) 23 .u8 (QK (14 + 1))) := by
          have h := hA.out
          have e := HS2.out
          rw [show zr 14 y = y by rfl] at e
          have e2 : L.set 14 y = L := by
            apply List.ext_getElem?
            intro j
            by_cases hj : j = 14
            · subst hj
              have h9 := ck
              rw [cell_of_row _ _ _ _ _ _ hA.out, vs_get] at h9
              obtain ⟨x, hx, hxy⟩ := Option.map_eq_some_iff.1 h9
              injection hxy with _ hxy
              subst hxy
              rw [List.getElem?_set_self (List.getElem?_eq_some_iff.1 hx).1, hx]
            · rw [List.getElem?_set_ne (by omega)]
          rw [e2] at e
          rw [← e]
          exact h
        clear hA ck fk
        go_wp2
        go_roundw
        case rel => exact ⟨14 + 1, by go_num, by omega, A9, hX, hF⟩
        case measure => simp [intOf]
      · have A9 : Hid (Ar (wr.setCell ⟨q, 15, none⟩ (.int .u8 (bits .xor .u8 y 240))) (q) 23 .u8 (QK (15 + 1))) := by
          have e := HS2.out
          rw [show zr 15 y = bits .xor .u8 y 240 by rfl] at e
          rw [← e]
          exact hA.out.set 15 _
        clear hA
        go_wp2
        go_roundw
        case rel => exact ⟨15 + 1, by go_num, by omega, A9, hX.out.far (by simp <;> omega) _, hF.out.setCell _ (.inr (by simp <;> omega))⟩
        case measure => simp [intOf]
    · have hi16 : i = 16 := by omega
      have A9 : Hid (Ar wr (q) 23 .u8 K) := by rw [HK.out, ← hi16]; exact hA.out
      clear hA
      go_upto_region 17 with (fail)
      have CT : ∀ V, Calm wr V → Calls Try.prog 15 #[.agg (vs .u8 K), .slice A1 m1 s1] V fun e w' => e = .returned (.agg (vs .u8 t)) ∧ Calm wr w' := fun V h => (C15 V (Fr.trans hF.out h) wr h)
      have CU : ∀ V, Calm wr V → Calls Try.prog 15 #[.agg (vs .u8 k0), .slice A1 m1 s1] V fun e w' => e = .returned (.agg (vs .u8 t)) ∧ Calm wr w' := fun V h => (C15b V (Fr.trans hF.out h) wr h)
      refine wp_region_quiet (C := Calm wr) (by kernel_rfl) (by kernel_rfl) (Calm.start _ _ (Fr.refl _ _)) ?_
      refine BigFrame.wpQuiet_want rfl fun K hK => quiet_load 23 (.tmp 2) rfl (w.heap.size) rfl 23 _ (0, 0) _ (fun _ h => Calm.at hX.out h) Try.underlying23 rfl s0.out (hK _ ?_)
      refine BigFrame.wpQuiet_want rfl fun K hK => ?_
      try simp only [Act.put, List.setIfInBounds_toArray, List.set_cons_succ, List.set_cons_zero]
      go_big_quiet_op
      refine hK _ ?_
      refine BigFrame.wpQuiet_want rfl fun K hK => ?_
      try simp only [Act.put, List.setIfInBounds_toArray, List.set_cons_succ, List.set_cons_zero]
      go_big_quiet_op
      refine ⟨_, CU, hK _ ?_⟩
      refine BigFrame.wpQuiet_want rfl fun K hK => quiet_load 23 (.tmp 5) rfl (q) rfl 23 _ (0, 0) _ (fun _ h => Calm.at A9.out h) Try.underlying23 rfl s23.out (hK _ ?_)
      refine BigFrame.wpQuiet_want rfl fun K hK => ?_
      try simp only [Act.put, List.setIfInBounds_toArray, List.set_cons_succ, List.set_cons_zero]
      go_big_quiet_op
      refine hK _ ?_
      refine BigFrame.wpQuiet_want rfl fun K hK => ?_
      try simp only [Act.put, List.setIfInBounds_toArray, List.set_cons_succ, List.set_cons_zero]
      go_big_quiet_op
      refine ⟨_, CT, hK _ ?_⟩
      refine BigFrame.wpQuiet_want rfl fun K hK => ?_
      try simp only [Act.put, List.setIfInBounds_toArray, List.set_cons_succ, List.set_cons_zero]
      go_big_quiet_op
      first
        | refine ⟨_, fun _ _ => rfl, hK _ ?_⟩
        | refine hK _ ?_
      refine BigFrame.wpQuiet_want rfl fun K hK => ?_
      try simp only [Act.put, List.setIfInBounds_toArray, List.set_cons_succ, List.set_cons_zero]
      go_big_quiet_op
      refine hK _ ?_
      refine wpQuiet_nil ?_
      intro w9 hw9
      have F9 : Hid (Fr (fun _ => False) w w9) := hF.out.trans hw9
      have G9 := Lib.hid hw9
      clear hw9
      try simp only [Act.put, List.setIfInBounds_toArray, List.set_cons_succ, List.set_cons_zero]
      go_wp2
      go_ret
      exact ⟨rfl, F9.out⟩

set_option maxRecDepth 100000 in
theorem law_cleared_lifted (os : Os) (started : os.Started) (H : Type) (enc : TypeId × Value → H) :
    ReturnsInHanded {} Try.checked os 9 .any (Rows.polyClearedSpec.pre6 enc Try.prog Try.f9 Rows.polyClearedRow.domain false) (Rows.polyClearedSpec.post enc Try.prog Try.f9 false true false false) := by
  refine returnsInHanded_of_change_sized (C := Try.checked) own started (by kernel_rfl) Try.func9
    (ChangeSpec.witness6 (enc := enc) (C := Try.checked) false ⟨#[], #[.agg (vs .u8 (List.replicate 32 0)), .slice none 0 0], []⟩ 8 (by kernel_rfl) (by kernel_rfl) (by kernel_rfl) (by kernel_rfl)) ?_
  intro W base args ds gs before hval0 hW hcnd hsz0 _
  have hsz : (DataW.weightsEach Try.prog (Try.f9.params.toList ++ Rows.polyClearedSpec.plain.varTypes Try.prog) (ds ++ gs)).all (· ≤ reachBytes) = true := hsz0
  clear hsz0
  have hval : ∀ (j : Nat) t v, Try.f9.params[j]? = some t → args[j]? = some v → Value.okWide Try.prog W .any base t v := hval0
  have hW' := hW
  obtain ⟨p, q, hA0, hV, rfl, hfz, hnd⟩ := hW
  have hA : DataW.TrodAll enc Try.prog W 0 (fun _ => true) true Try.f9.params.toList args.toList ds p := hA0
  rw [Try.params9] at hA hval hsz
  obtain ⟨v0, vs0, d0, ds0, p0, q0, hargs, rfl, rfl, h0, r0⟩ := trodAll_cons hA
  obtain ⟨v1, vs1, d1, ds1, p1, q1, rfl, rfl, rfl, h1, r1⟩ := trodAll_cons r0
  obtain ⟨rfl, rfl, rfl⟩ := trodAll_nil r1
  obtain rfl : args = #[v0, v1] := by cases args; simp_all
  obtain ⟨rfl, rfl⟩ := trodVars_none hV
  have hlt1 : ∀ x ∈ p1, x.block < W.heap.size := fun x hx => hW'.lt x (by simp [hx])
  obtain ⟨k0, rfl, lk0, bk0⟩ := open_key (hval 0 23 v0 rfl rfl) h0
  obtain ⟨A1, m1, s1, g1, l1, rfl, hs1, hg1⟩ := open_sl (hval 1 24 v1 rfl rfl) h1 hlt1
  have hn1 : m1 ≤ 140737488351232 := by
    rcases open_len h1 with e | ⟨el, sp, rfl, hle⟩
    · omega
    · have := sized_slice hsz (j := 1) (t := 24) (e := 5) rfl rfl Try.underlying24
      rw [Try.bytes5] at this
      simp only [reachBytes] at this
      omega
  clear hA0 hval0
  refine (law_cleared_any k0 g1 A1 m1 s1 l1 W lk0 bk0 hs1 hn1 hg1).mono fun e W' ⟨he, hg⟩ => ?_
  subst he
  exact ⟨_, rfl, post_true rfl hW' (by kernel_rfl) rfl rfl hg⟩

theorem polyCleared_holds : Rows.PolyClearedSaid :=
  OpenClaim.holds_of_wide 9 Try.f9 rfl rfl rfl rfl rfl rfl rfl ⟨rfl, rfl, rfl, rfl, rfl⟩ rfl rfl rfl rfl rfl (by kernel_rfl) Try.func9 (by kernel_rfl)
    (of_decide_eq_true (by kernel_rfl)) (by unfold Func.isWrapper; first | (rw [if_pos (by decide +kernel)]; kernel_rfl) | (rw [if_neg (by decide +kernel)]; exact ⟨rfl, rfl⟩))
    (fun os started H enc _ => law_cleared_lifted os started H enc)
#print axioms polyCleared_holds
end Go.Proofs.Ytcoggpedpclkaaa
