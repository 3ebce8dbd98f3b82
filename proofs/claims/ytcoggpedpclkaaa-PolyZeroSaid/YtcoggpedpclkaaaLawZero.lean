/- PolyZero answers true for all keys and bytes, and its arguments read behind the call as they did: the given statement PolyZeroSaid. No condition. -/
import Derived.Test.YtcoggpedpclkaaaLi
namespace Go.Proofs.Ytcoggpedpclkaaa
set_option linter.unusedSimpArgs false
set_option linter.unusedVariables false
open Go.ChangeShapes Go.WideShapes Go.ChangeAt Go.RowKit

def zr (i : Nat) (x : Int) : Int := if i % 4 = 3 then bits .and .u8 x 240 else if i = 4 ∨ i = 8 ∨ i = 12 then bits .and .u8 x 3 else 0
theorem and240 (x : Int) (h0 : 0 ≤ x) (h1 : x ≤ 255) : 0 ≤ bits .and .u8 x 240 ∧ bits .and .u8 x 240 ≤ 255 ∧ bits .and .u8 x 240 % 16 = 0 := by
  obtain ⟨x, rfl⟩ := Int.eq_ofNat_of_zero_le h0
  have h := u8_and_nat x 240 (by omega) (by omega)
  have e : x &&& 240 ≤ 255 ∧ (x &&& 240) % 16 = 0 := by
    have : ∀ y : Fin 256, y.val &&& 240 ≤ 255 ∧ (y.val &&& 240) % 16 = 0 := by decide +kernel
    exact this ⟨x, by omega⟩
  have h' : bits .and .u8 ((x : Nat) : Int) 240 = ((x &&& 240 : Nat) : Int) := h
  rw [h']
  omega
theorem and3 (x : Int) (h0 : 0 ≤ x) (h1 : x ≤ 255) : 0 ≤ bits .and .u8 x 3 ∧ bits .and .u8 x 3 ≤ 3 := by
  obtain ⟨x, rfl⟩ := Int.eq_ofNat_of_zero_le h0
  have h := u8_and_nat x 3 (by omega) (by omega)
  have e : x &&& 3 ≤ 3 := Nat.and_le_right
  have h' : bits .and .u8 ((x : Nat) : Int) 3 = ((x &&& 3 : Nat) : Int) := h
  rw [h']
  omega
theorem zr_bys (i : Nat) (x : Int) (h0 : 0 ≤ x) (h1 : x ≤ 255) : 0 ≤ zr i x ∧ zr i x ≤ 255 := by
  have h2 := and240 x h0 h1
  have h3 := and3 x h0 h1
  unfold zr
  split
  · omega
  · split <;> omega
/-- The key behind so many rounds. -/
def qk (k : List Int) : Nat → List Int
  | 0 => k
  | i + 1 => (qk k i).set i (zr i ((qk k i).getD i 0))
theorem qk_succ (k : List Int) (i : Nat) : qk k (i + 1) = (qk k i).set i (zr i ((qk k i).getD i 0)) := rfl
theorem qk_length (k : List Int) : ∀ i, (qk k i).length = k.length := by
  intro i
  induction i with
  | zero => rfl
  | succ i ih => rw [qk_succ, List.length_set, ih]
theorem qk_bys (k : List Int) (hk : k.length = 32) (hb : Bys k) : ∀ i, i ≤ 16 → Bys (qk k i) := by
  intro i
  induction i with
  | zero => intro _; exact hb
  | succ i ih =>
    intro hi x hx
    rw [qk_succ] at hx
    have h := ih (by omega)
    rcases List.mem_or_eq_of_mem_set hx with hx | rfl
    · exact h x hx
    · have hy := h _ (List.mem_of_getElem? (getD_some (l := qk k i) (i := i) (by rw [qk_length, hk]; omega)))
      exact zr_bys i _ hy.1 hy.2
theorem qk_drop (k : List Int) : ∀ i, i ≤ 16 → (qk k i).drop 16 = k.drop 16 := by
  intro i
  induction i with
  | zero => intro _; rfl
  | succ i ih =>
    intro hi
    rw [qk_succ, ← ih (by omega)]
    apply List.ext_getElem?
    intro j
    rw [List.getElem?_drop, List.getElem?_drop, List.getElem?_set_ne (by omega)]
theorem qk_get (k : List Int) : ∀ i j, i ≤ 16 → j < 16 → j < k.length → (qk k i).getD j 0 = if j < i then zr j (k.getD j 0) else k.getD j 0 := by
  intro i
  induction i with
  | zero => intro j _ _ _; rw [if_neg (by omega)]; rfl
  | succ i ih =>
    intro j hi hj hl
    rw [qk_succ]
    by_cases e : j = i
    · subst e
      rw [if_pos (by omega), List.getD_eq_getElem?_getD, List.getElem?_set_self (by rw [qk_length]; exact hl)]
      show zr j _ = _
      rw [ih j (by omega) hj hl, if_neg (by omega)]
    · rw [List.getD_eq_getElem?_getD, List.getElem?_set_ne (by omega), ← List.getD_eq_getElem?_getD, ih j (by omega) hj hl]
      by_cases h : j < i
      · rw [if_pos h, if_pos (by omega)]
      · rw [if_neg h, if_neg (by omega)]
theorem clr_ext (l m : List Int) (hl : l.length = 16) (hm : m.length = 16) (h : ∀ j, j < 16 → cl j (l.getD j 0) = cl j (m.getD j 0)) : clr l = clr m := by
  apply List.ext_getElem?
  intro j
  by_cases hj : j < 16
  · rw [clr_get hl j hj, clr_get hm j hj, h j hj]
  · rw [List.getElem?_eq_none (by rw [clr_length hl]; omega), List.getElem?_eq_none (by rw [clr_length hm]; omega)]
theorem qk_rr (k : List Int) (hk : k.length = 32) (hb : Bys k) : rr (qk k 16) = 0 := by
  have lq : ((qk k 16).take 16).length = 16 := by rw [List.length_take, qk_length, hk]; rfl
  have e : clr ((qk k 16).take 16) = clr (List.replicate 16 0) := clr_ext _ _ lq rfl (fun j hj => by
    have e1 : ((qk k 16).take 16).getD j 0 = zr j (k.getD j 0) := by
      rw [List.getD_eq_getElem?_getD, List.getElem?_take, if_pos hj, ← List.getD_eq_getElem?_getD, qk_get k 16 j (by omega) hj (by omega), if_pos hj]
    have hy := hb _ (List.mem_of_getElem? (getD_some (l := k) (i := j) (by omega)))
    have e2 : (List.replicate 16 (0 : Int)).getD j 0 = 0 := by rw [List.getD_eq_getElem?_getD, List.getElem?_replicate, if_pos hj]; rfl
    rw [e1, e2]
    have h2 := and240 _ hy.1 hy.2
    have h3 := and3 _ hy.1 hy.2
    unfold cl zr
    split
    · omega
    · split <;> omega)
  unfold rr
  rw [e]
  decide
theorem hsh_zero (l : List Int) : hsh 0 l = 0 := by
  have key : ∀ (n : Nat) (l : List Int), hb 0 n 0 l = 0 := by
    intro n
    induction n with
    | zero => intro l; rfl
    | succ n ih =>
      intro l
      simp only [hb]
      split
      · rfl
      · rw [Int.mul_zero, Int.zero_emod]
        exact ih _
  exact key _ _
theorem qk_tag (k l : List Int) (hk : k.length = 32) (hb : Bys k) : tag (qk k 16) l = (qk k 16).drop 16 := by
  have h := les_vl ((qk k 16).drop 16) ((qk_bys k hk hb 16 (Nat.le_refl _)).drop 16)
  rw [List.length_drop, qk_length, hk] at h
  rw [tag, qk_rr k hk hb, hsh_zero, Int.zero_add]
  exact h
set_option maxRecDepth 100000 in
set_option maxHeartbeats 16000000 in
theorem law_zero_any (k0 : List Int) (g1 : Nat) (A1 : Option Addr) (m1 s1 : Nat) (l1 : List Int) (w : World) (lk0 : k0.length = 32) (bk0 : Bys k0) (hs1 : Sl w g1 (.slice A1 m1 s1) l1) (hn1 : m1 ≤ 140737488351232) (hg1 : l1 ≠ [] → g1 < w.heap.size) :
    Calls Try.prog 8 #[.agg (vs .u8 k0), .slice A1 m1 s1] w fun e w' => e = .returned (.bool true) ∧ Fr (fun _ => False) w w' := by
  obtain ⟨QK, hQK⟩ : ∃ Q : Nat → List Int, Q = qk k0 := ⟨_, rfl⟩
  have N0 : Hid (QK 0 = k0) := by show _ = _; rw [hQK]; rfl
  have N1 : Hid (∀ i, QK (i + 1) = (QK i).set i (zr i ((QK i).getD i 0))) := by show ∀ _, _; intro i; rw [hQK, qk_succ]
  have N2 : Hid (∀ i, (QK i).length = 32) := by show ∀ _, _; intro i; rw [hQK, qk_length, lk0]
  obtain ⟨K, hK⟩ : ∃ K, K = QK 16 := ⟨_, rfl⟩
  have lK : K.length = 32 := by rw [hK]; exact N2.out 16
  have bK : Bys K := by rw [hK, hQK]; exact qk_bys k0 lk0 bk0 16 (Nat.le_refl _)
  obtain ⟨t, ht⟩ : ∃ t, t = K.drop 16 := ⟨_, rfl⟩
  have lt : t.length = 16 := by rw [ht, List.length_drop, lK]
  have et : tag K l1 = t := by rw [ht, hK, hQK]; exact qk_tag k0 l1 lk0 bk0
  have HE : ∀ W, (Op.equalIn 10000 26 (.agg (vs .u8 t)) (.agg (vs .u8 t))).run Try.prog W = .ok true W := fun W => (eq26 t t lt lt W).trans (by rw [decide_eq_true rfl])
  have C15 : ∀ V, Calm w V → ∀ U, Calm U V → Calls Try.prog 15 #[.agg (vs .u8 K), .slice A1 m1 s1] V fun e w' => e = .returned (.agg (vs .u8 t)) ∧ Calm U w' := fun V h U hU => by
    rw [← et]
    exact (tag_is K g1 A1 m1 s1 l1 V lK bK (hs1.fr h (fun _ x => x)) (fun e => Nat.lt_of_lt_of_le (hg1 e) h.size)).mono fun _ _ ⟨he, hf⟩ => ⟨he, Fr.trans hU hf⟩
  have C24 : ∀ V, Calls Try.prog 24 #[.agg (vs .u8 K)] V fun e w' => e = .returned (.agg (vs .u8 t)) ∧ Fr (fun _ => False) V w' := fun V => by rw [ht]; exact tail_is K V lK bK
  have s23 := Lib.hid (keys_info lK)
  have HK := Lib.hid hK
  clear hQK hK lK bK ht lt et lk0 bk0 hs1 hn1 hg1
  go_enter Try.func8, Try.ntmps8
  go_upto_region 1 with (fail)
  have X0 : Hid (Ar (w.alloc (.cells (vs .u8 k0) 23)) w.heap.size 23 .u8 k0) := heap_alloc_new w _
  have F0 : Hid (Fr (fun _ => False) w (w.alloc (.cells (vs .u8 k0) 23))) := (Fr.refl _ _).alloc _
  generalize w.alloc (.cells (vs .u8 k0) 23) = W0 at *
  go_upto_region 3 with (go_at_call 18; refine (works_is _).mono ?_; rintro e w1 ⟨rfl, hf⟩)
  replace X0 := Lib.hid (Ar.fr X0.out hf (fun x => x))
  replace F0 := Lib.hid (F0.out.trans hf)
  clear hf
  rw [← N0.out] at X0
  go_wp2
  go_loopw [5] (fun u5 wr => ∃ i : Nat, u5 = .int .i64 i ∧ i ≤ 16 ∧ Hid (Ar wr (w.heap.size) 23 .u8 (QK i)) ∧ Hid (Fr (fun _ => False) w wr))
    (fun u5 _ => 16 - (intOf u5).toNat)
  case atStart => exact ⟨0, rfl, by omega, X0, F0⟩
  case round =>
    clear X0 F0
    obtain ⟨i, rfl, hi, hA, hF⟩ := hrel
    by_cases hil : i < 16
    · obtain ⟨L, hL⟩ : ∃ L, L = QK i := ⟨_, rfl⟩
      have lL : L.length = 32 := by rw [hL]; exact N2.out i
      have hS : Unit → ∀ y, L.getD i 0 = y → L.set i (zr i y) = QK (i + 1) := fun _ y hy => by rw [N1.out i, ← hL, hy]
      rw [← hL] at hA
      obtain ⟨y, hy⟩ : ∃ y, L.getD i 0 = y := ⟨_, rfl⟩
      have gy := getD_some (l := L) (i := i) (by omega)
      rw [hy] at gy
      have hset := hS () y hy
      have ck := hA.out.cell gy
      have fk := hA.out.frozen i
      have HS2 := Lib.hid hset
      clear hL hS hy gy hset lL
      have hi16 : i = 0 ∨ i = 1 ∨ i = 2 ∨ i = 3 ∨ i = 4 ∨ i = 5 ∨ i = 6 ∨ i = 7 ∨ i = 8 ∨ i = 9 ∨ i = 10 ∨ i = 11 ∨ i = 12 ∨ i = 13 ∨ i = 14 ∨ i = 15 := by omega
      rcases hi16 with rfl | rfl | rfl | rfl | rfl | rfl | rfl | rfl | rfl | rfl | rfl | rfl | rfl | rfl | rfl | rfl
      · have A9 : Hid (Ar (wr.setCell ⟨w.heap.size, 0, none⟩ (.int .u8 (0))) (w.heap.size) 23 .u8 (QK (0 + 1))) := by
          have e := HS2.out
          rw [show zr 0 y = 0 by rfl] at e
          rw [← e]
          exact hA.out.set 0 _
        clear hA
        go_wp2
        go_roundw
        case rel => exact ⟨0 + 1, by go_num, by omega, A9, hF.out.setCell _ (.inr (by simp))⟩
        case measure => simp [intOf]
      · have A9 : Hid (Ar (wr.setCell ⟨w.heap.size, 1, none⟩ (.int .u8 (0))) (w.heap.size) 23 .u8 (QK (1 + 1))) := by
          have e := HS2.out
          rw [show zr 1 y = 0 by rfl] at e
          rw [← e]
          exact hA.out.set 1 _
        clear hA
        go_wp2
        go_roundw
        case rel => exact ⟨1 + 1, by go_num, by omega, A9, hF.out.setCell _ (.inr (by simp))⟩
        case measure => simp [intOf]
      · have A9 : Hid (Ar (wr.setCell ⟨w.heap.size, 2, none⟩ (.int .u8 (0))) (w.heap.size) 23 .u8 (QK (2 + 1))) := by
          have e := HS2.out
          rw [show zr 2 y = 0 by rfl] at e
          rw [← e]
          exact hA.out.set 2 _
        clear hA
        go_wp2
        go_roundw
        case rel => exact ⟨2 + 1, by go_num, by omega, A9, hF.out.setCell _ (.inr (by simp))⟩
        case measure => simp [intOf]
      · have A9 : Hid (Ar (wr.setCell ⟨w.heap.size, 3, none⟩ (.int .u8 (bits .and .u8 y 240))) (w.heap.size) 23 .u8 (QK (3 + 1))) := by
          have e := HS2.out
          rw [show zr 3 y = bits .and .u8 y 240 by rfl] at e
          rw [← e]
          exact hA.out.set 3 _
        clear hA
        go_wp2
        go_roundw
        case rel => exact ⟨3 + 1, by go_num, by omega, A9, hF.out.setCell _ (.inr (by simp))⟩
        case measure => simp [intOf]
      · have A9 : Hid (Ar (wr.setCell ⟨w.heap.size, 4, none⟩ (.int .u8 (bits .and .u8 y 3))) (w.heap.size) 23 .u8 (QK (4 + 1))) := by
          have e := HS2.out
          rw [show zr 4 y = bits .and .u8 y 3 by rfl] at e
          rw [← e]
          exact hA.out.set 4 _
        clear hA
        go_wp2
        go_roundw
        case rel => exact ⟨4 + 1, by go_num, by omega, A9, hF.out.setCell _ (.inr (by simp))⟩
        case measure => simp [intOf]
      · have A9 : Hid (Ar (wr.setCell ⟨w.heap.size, 5, none⟩ (.int .u8 (0))) (w.heap.size) 23 .u8 (QK (5 + 1))) := by
          have e := HS2.out
          rw [show zr 5 y = 0 by rfl] at e
          rw [← e]
          exact hA.out.set 5 _
        clear hA
        go_wp2
        go_roundw
        case rel => exact ⟨5 + 1, by go_num, by omega, A9, hF.out.setCell _ (.inr (by simp))⟩
        case measure => simp [intOf]
      · have A9 : Hid (Ar (wr.setCell ⟨w.heap.size, 6, none⟩ (.int .u8 (0))) (w.heap.size) 23 .u8 (QK (6 + 1))) := by
          have e := HS2.out
          rw [show zr 6 y = 0 by rfl] at e
          rw [← e]
          exact hA.out.set 6 _
        clear hA
        go_wp2
        go_roundw
        case rel => exact ⟨6 + 1, by go_num, by omega, A9, hF.out.setCell _ (.inr (by simp))⟩
        case measure => simp [intOf]
      · have A9 : Hid (Ar (wr.setCell ⟨w.heap.size, 7, none⟩ (.int .u8 (bits .and .u8 y 240))) (w.heap.size) 23 .u8 (QK (7 + 1))) := by
          have e := HS2.out
          rw [show zr 7 y = bits .and .u8 y 240 by rfl] at e
          rw [← e]
          exact hA.out.set 7 _
        clear hA
        go_wp2
        go_roundw
        case rel => exact ⟨7 + 1, by go_num, by omega, A9, hF.out.setCell _ (.inr (by simp))⟩
        case measure => simp [intOf]
      · have A9 : Hid (Ar (wr.setCell ⟨w.heap.size, 8, none⟩ (.int .u8 (bits .and .u8 y 3))) (w.heap.size) 23 .u8 (QK (8 + 1))) := by
          have e := HS2.out
          rw [show zr 8 y = bits .and .u8 y 3 by rfl] at e
          rw [← e]
          exact hA.out.set 8 _
        clear hA
        go_wp2
        go_roundw
        case rel => exact ⟨8 + 1, by go_num, by omega, A9, hF.out.setCell _ (.inr (by simp))⟩
        case measure => simp [intOf]
      · have A9 : Hid (Ar (wr.setCell ⟨w.heap.size, 9, none⟩ (.int .u8 (0))) (w.heap.size) 23 .u8 (QK (9 + 1))) := by
          have e := HS2.out
          rw [show zr 9 y = 0 by rfl] at e
          rw [← e]
          exact hA.out.set 9 _
        clear hA
        go_wp2
        go_roundw
        case rel => exact ⟨9 + 1, by go_num, by omega, A9, hF.out.setCell _ (.inr (by simp))⟩
        case measure => simp [intOf]
      · have A9 : Hid (Ar (wr.setCell ⟨w.heap.size, 10, none⟩ (.int .u8 (0))) (w.heap.size) 23 .u8 (QK (10 + 1))) := by
          have e := HS2.out
          rw [show zr 10 y = 0 by rfl] at e
          rw [← e]
          exact hA.out.set 10 _
        clear hA
        go_wp2
        go_roundw
        case rel => exact ⟨10 + 1, by go_num, by omega, A9, hF.out.setCell _ (.inr (by simp))⟩
        case measure => simp [intOf]
      · have A9 : Hid (Ar (wr.setCell ⟨w.heap.size, 11, none⟩ (.int .u8 (bits .and .u8 y 240))) (w.heap.size) 23 .u8 (QK (11 + 1))) := by
          have e := HS2.out
          rw [show zr 11 y = bits .and .u8 y 240 by rfl] at e
          rw [← e]
          exact hA.out.set 11 _
        clear hA
        go_wp2
        go_roundw
        case rel => exact ⟨11 + 1, by go_num, by omega, A9, hF.out.setCell _ (.inr (by simp))⟩
        case measure => simp [intOf]
      · have A9 : Hid (Ar (wr.setCell ⟨w.heap.size, 12, none⟩ (.int .u8 (bits .and .u8 y 3))) (w.heap.size) 23 .u8 (QK (12 + 1))) := by
          have e := HS2.out
          rw [show zr 12 y = bits .and .u8 y 3 by rfl] at e
          rw [← e]
          exact hA.out.set 12 _
        clear hA
        go_wp2
        go_roundw
        case rel => exact ⟨12 + 1, by go_num, by omega, A9, hF.out.setCell _ (.inr (by simp))⟩
        case measure => simp [intOf]
      · have A9 : Hid (Ar (wr.setCell ⟨w.heap.size, 13, none⟩ (.int .u8 (0))) (w.heap.size) 23 .u8 (QK (13 + 1))) := by
          have e := HS2.out
          rw [show zr 13 y = 0 by rfl] at e
          rw [← e]
          exact hA.out.set 13 _
        clear hA
        go_wp2
        go_roundw
        case rel => exact ⟨13 + 1, by go_num, by omega, A9, hF.out.setCell _ (.inr (by simp))⟩
        case measure => simp [intOf]
      · have A9 : Hid (Ar (wr.setCell ⟨w.heap.size, 14, none⟩ (.int .u8 (0))) (w.heap.size) 23 .u8 (QK (14 + 1))) := by
          have e := HS2.out
          rw [show zr 14 y = 0 by rfl] at e
          rw [← e]
          exact hA.out.set 14 _
        clear hA
        go_wp2
        go_roundw
        case rel => exact ⟨14 + 1, by go_num, by omega, A9, hF.out.setCell _ (.inr (by simp))⟩
        case measure => simp [intOf]
      · have A9 : Hid (Ar (wr.setCell ⟨w.heap.size, 15, none⟩ (.int .u8 (bits .and .u8 y 240))) (w.heap.size) 23 .u8 (QK (15 + 1))) := by
          have e := HS2.out
          rw [show zr 15 y = bits .and .u8 y 240 by rfl] at e
          rw [← e]
          exact hA.out.set 15 _
        clear hA
        go_wp2
        go_roundw
        case rel => exact ⟨15 + 1, by go_num, by omega, A9, hF.out.setCell _ (.inr (by simp))⟩
        case measure => simp [intOf]
    · have hi16 : i = 16 := by omega
      have A9 : Hid (Ar wr (w.heap.size) 23 .u8 K) := by rw [HK.out, ← hi16]; exact hA.out
      clear hA
      go_upto_region 17 with (fail)
      have CT : ∀ V, Calm wr V → Calls Try.prog 15 #[.agg (vs .u8 K), .slice A1 m1 s1] V fun e w' => e = .returned (.agg (vs .u8 t)) ∧ Calm wr w' := fun V h => (C15 V (Fr.trans hF.out h) wr h)
      refine wp_region_quiet (C := Calm wr) (by kernel_rfl) (by kernel_rfl) (Calm.start _ _ (Fr.refl _ _)) ?_
      refine BigFrame.wpQuiet_want rfl fun K hK => quiet_load 23 (.tmp 2) rfl (w.heap.size) rfl 23 _ (0, 0) _ (fun _ h => Calm.at A9.out h) Try.underlying23 rfl s23.out (hK _ ?_)
      refine BigFrame.wpQuiet_want rfl fun K hK => ?_
      try simp only [Act.put, List.setIfInBounds_toArray, List.set_cons_succ, List.set_cons_zero]
      go_big_quiet_op
      refine hK _ ?_
      refine BigFrame.wpQuiet_want rfl fun K hK => ?_
      try simp only [Act.put, List.setIfInBounds_toArray, List.set_cons_succ, List.set_cons_zero]
      go_big_quiet_op
      refine ⟨_, CT, hK _ ?_⟩
      refine BigFrame.wpQuiet_want rfl fun K hK => quiet_load 23 (.tmp 2) rfl (w.heap.size) rfl 23 _ (0, 0) _ (fun _ h => Calm.at A9.out h) Try.underlying23 rfl s23.out (hK _ ?_)
      refine BigFrame.wpQuiet_want rfl fun K hK => ?_
      try simp only [Act.put, List.setIfInBounds_toArray, List.set_cons_succ, List.set_cons_zero]
      go_big_quiet_op
      refine ⟨_, Calm.calls C24, hK _ ?_⟩
      refine BigFrame.wpQuiet_want rfl fun K hK => ?_
      try simp only [Act.put, List.setIfInBounds_toArray, List.set_cons_succ, List.set_cons_zero]
      go_big_quiet_op
      first
        | refine ⟨_, fun _ _ => rfl, hK _ ?_⟩
        | refine hK _ ?_
      refine BigFrame.wpQuiet_want rfl fun K hK => ?_
      try simp only [Act.put, List.setIfInBounds_toArray, List.set_cons_succ, List.set_cons_zero]
      go_big_quiet_op
      refine hK _ ?_
      refine wpQuiet_nil ?_
      intro w9 hw9
      have F9 : Hid (Fr (fun _ => False) w w9) := hF.out.trans hw9
      have G9 := Lib.hid hw9
      clear hw9
      try simp only [Act.put, List.setIfInBounds_toArray, List.set_cons_succ, List.set_cons_zero]
      go_wp2
      go_ret
      exact ⟨rfl, F9.out⟩

set_option maxRecDepth 100000 in
theorem law_zero_lifted (os : Os) (started : os.Started) (H : Type) (enc : TypeId × Value → H) :
    ReturnsInHanded {} Try.checked os 8 .any (Rows.polyZeroSpec.pre6 enc Try.prog Try.f8 Rows.polyZeroRow.domain false) (Rows.polyZeroSpec.post enc Try.prog Try.f8 false true false false) := by
  refine returnsInHanded_of_change_sized (C := Try.checked) own started (by kernel_rfl) Try.func8
    (ChangeSpec.witness6 (enc := enc) (C := Try.checked) false ⟨#[], #[.agg (vs .u8 (List.replicate 32 0)), .slice none 0 0], []⟩ 8 (by kernel_rfl) (by kernel_rfl) (by kernel_rfl) (by kernel_rfl)) ?_
  intro W base args ds gs before hval0 hW hcnd hsz0 _
  have hsz : (DataW.weightsEach Try.prog (Try.f8.params.toList ++ Rows.polyZeroSpec.plain.varTypes Try.prog) (ds ++ gs)).all (· ≤ reachBytes) = true := hsz0
  clear hsz0
  have hval : ∀ (j : Nat) t v, Try.f8.params[j]? = some t → args[j]? = some v → Value.okWide Try.prog W .any base t v := hval0
  have hW' := hW
  obtain ⟨p, q, hA0, hV, rfl, hfz, hnd⟩ := hW
  have hA : DataW.TrodAll enc Try.prog W 0 (fun _ => true) true Try.f8.params.toList args.toList ds p := hA0
  rw [Try.params8] at hA hval hsz
  obtain ⟨v0, vs0, d0, ds0, p0, q0, hargs, rfl, rfl, h0, r0⟩ := trodAll_cons hA
  obtain ⟨v1, vs1, d1, ds1, p1, q1, rfl, rfl, rfl, h1, r1⟩ := trodAll_cons r0
  obtain ⟨rfl, rfl, rfl⟩ := trodAll_nil r1
  obtain rfl : args = #[v0, v1] := by cases args; simp_all
  obtain ⟨rfl, rfl⟩ := trodVars_none hV
  have hlt1 : ∀ x ∈ p1, x.block < W.heap.size := fun x hx => hW'.lt x (by simp [hx])
  obtain ⟨k0, rfl, lk0, bk0⟩ := open_key (hval 0 23 v0 rfl rfl) h0
  obtain ⟨A1, m1, s1, g1, l1, rfl, hs1, hg1⟩ := open_sl (hval 1 24 v1 rfl rfl) h1 hlt1
  have hn1 : m1 ≤ 140737488351232 := by
    rcases open_len h1 with e | ⟨el, sp, rfl, hle⟩
    · omega
    · have := sized_slice hsz (j := 1) (t := 24) (e := 5) rfl rfl Try.underlying24
      rw [Try.bytes5] at this
      simp only [reachBytes] at this
      omega
  clear hA0 hval0
  refine (law_zero_any k0 g1 A1 m1 s1 l1 W lk0 bk0 hs1 hn1 hg1).mono fun e W' ⟨he, hg⟩ => ?_
  subst he
  exact ⟨_, rfl, post_true rfl hW' (by kernel_rfl) rfl rfl hg⟩

theorem polyZero_holds : Rows.PolyZeroSaid :=
  OpenClaim.holds_of_wide 8 Try.f8 rfl rfl rfl rfl rfl rfl rfl ⟨rfl, rfl, rfl, rfl, rfl⟩ rfl rfl rfl rfl rfl (by kernel_rfl) Try.func8 (by kernel_rfl)
    (of_decide_eq_true (by kernel_rfl)) (by unfold Func.isWrapper; first | (rw [if_pos (by decide +kernel)]; kernel_rfl) | (rw [if_neg (by decide +kernel)]; exact ⟨rfl, rfl⟩))
    (fun os started H enc _ => law_zero_lifted os started H enc)
#print axioms polyZero_holds
end Go.Proofs.Ytcoggpedpclkaaa
