/- The values of layer 7: words turned right, four numbers mixed, a block pressed, the digest. Lemmas alone. -/
import Derived.Test.YtebknlhooijkcaaRn
import Derived.Test.YtebknlhooijkcaaQ
import Derived.Test.YtebknlhooijkcaaT
namespace Go.Proofs.Ytebknlhooijkcaa
set_option linter.unusedSimpArgs false
set_option linter.unusedVariables false
open Go.ChangeShapes Go.WideShapes Go.ChangeAt Go.RowKit


/-- Turned right. -/
def tr (n : Nat) (x : Int) : Int := x / 2 ^ n + x % 2 ^ n * 2 ^ (32 - n)
theorem tr16 (x : Int) : tr 16 x = x / 65536 + x % 65536 * 65536 := rfl
theorem tr12 (x : Int) : tr 12 x = x / 4096 + x % 4096 * 1048576 := rfl
theorem tr8 (x : Int) : tr 8 x = x / 256 + x % 256 * 16777216 := rfl
theorem tr7 (x : Int) : tr 7 x = x / 128 + x % 128 * 33554432 := rfl
def Tn (n : Nat) : Prop := n = 16 ∨ n = 12 ∨ n = 8 ∨ n = 7
theorem tr_wd (n : Nat) (hn : Tn n) {x : Int} (h : Wd x) : Wd (tr n x) := by
  unfold Wd at *
  rcases hn with rfl | rfl | rfl | rfl
  · rw [tr16]; omega
  · rw [tr12]; omega
  · rw [tr8]; omega
  · rw [tr7]; omega
theorem tr_or (n : Nat) (hn : Tn n) {x : Int} (h : Wd x) : bits .or .u32 (x / 2 ^ n) (IntKind.u32.wrap (x * 2 ^ (32 - n))) = tr n x := by
  unfold Wd at h
  rcases hn with rfl | rfl | rfl | rfl
  · rw [wrap32, show x * 2 ^ (32 - 16) % 4294967296 = x % 65536 * 2 ^ 16 by simp; omega]
    exact join32 16 (x / 2 ^ 16) (x % 65536) (by decide) (by simp; omega) (by simp; omega) (by omega) (by simp; omega)
  · rw [wrap32, show x * 2 ^ (32 - 12) % 4294967296 = x % 4096 * 2 ^ 20 by simp; omega]
    exact join32 20 (x / 2 ^ 12) (x % 4096) (by decide) (by simp; omega) (by simp; omega) (by omega) (by simp; omega)
  · rw [wrap32, show x * 2 ^ (32 - 8) % 4294967296 = x % 256 * 2 ^ 24 by simp; omega]
    exact join32 24 (x / 2 ^ 8) (x % 256) (by decide) (by simp; omega) (by simp; omega) (by omega) (by simp; omega)
  · rw [wrap32, show x * 2 ^ (32 - 7) % 4294967296 = x % 128 * 2 ^ 25 by simp; omega]
    exact join32 25 (x / 2 ^ 7) (x % 128) (by decide) (by simp; omega) (by simp; omega) (by omega) (by simp; omega)

/-- The steps of a mixing. -/
def sA (v : List Int) (a b : Nat) (x : Int) : List Int := v.set a (sm (sm (v.getD a 0) (v.getD b 0)) x)
def sX (n : Nat) (v : List Int) (d a : Nat) : List Int := v.set d (tr n (xr (v.getD d 0) (v.getD a 0)))
def sC (v : List Int) (c d : Nat) : List Int := v.set c (sm (v.getD c 0) (v.getD d 0))
def mx (v : List Int) (a b c d : Nat) (x y : Int) : List Int := sX 7 (sC (sX 8 (sA (sX 12 (sC (sX 16 (sA v a b x) d a) c d) b c) a b y) d a) c d) b c
/-- Sixteen words. -/
def V16 (v : List Int) : Prop := v.length = 16 ∧ Wds v
theorem V16.get {v : List Int} (h : V16 v) {i : Nat} (hi : i < 16) : v[i]? = some (v.getD i 0) ∧ Wd (v.getD i 0) := ⟨getD_some (by rw [h.1]; exact hi), getD_wd h.2 i (by rw [h.1]; exact hi)⟩
theorem sA_ok {v : List Int} (h : V16 v) (a b : Nat) (x : Int) : V16 (sA v a b x) := ⟨by rw [sA, List.length_set]; exact h.1, h.2.set a (sm_wd _ _)⟩
theorem sC_ok {v : List Int} (h : V16 v) (c d : Nat) : V16 (sC v c d) := ⟨by rw [sC, List.length_set]; exact h.1, h.2.set c (sm_wd _ _)⟩
theorem sX_ok {n : Nat} (hn : Tn n) {v : List Int} (h : V16 v) {d a : Nat} (hd : d < 16) (ha : a < 16) : V16 (sX n v d a) := ⟨by rw [sX, List.length_set]; exact h.1, h.2.set d (tr_wd n hn (xr_wd (h.get hd).2 (h.get ha).2))⟩
theorem mx_ok {v : List Int} (h : V16 v) {a b c d : Nat} (ha : a < 16) (hb : b < 16) (hc : c < 16) (hd : d < 16) (x y : Int) : V16 (mx v a b c d x y) :=
  sX_ok (.inr (.inr (.inr rfl))) (sC_ok (sX_ok (.inr (.inr (.inl rfl))) (sA_ok (sX_ok (.inr (.inl rfl)) (sC_ok (sX_ok (.inl rfl) (sA_ok h a b x) hd ha) c d) hb hc) a b y) hd ha) c d) hb hc

def iv : List Int := [1779033703, 3144134277, 1013904242, 2773480762, 1359893119, 2600822924, 528734635, 1541459225]
/-- The orders, one behind the other; which four are mixed. -/
def OT : List Nat := [0, 1, 2, 3, 4, 5, 6, 7, 8, 9, 10, 11, 12, 13, 14, 15, 14, 10, 4, 8, 9, 15, 13, 6, 1, 12, 0, 2, 11, 7, 5, 3, 11, 8, 12, 0, 5, 2, 15, 13, 10, 14, 3, 6, 7, 1, 9, 4, 7, 9, 3, 1, 13, 12, 11, 14, 2, 6, 5, 10, 4, 0, 15, 8, 9, 0, 5, 7, 2, 4, 10, 15, 14, 1, 11, 12, 6, 8, 3, 13, 2, 12, 6, 10, 0, 11, 8, 3, 4, 13, 7, 5, 15, 14, 1, 9, 12, 5, 1, 15, 14, 13, 4, 10, 0, 7, 6, 3, 9, 2, 8, 11, 13, 11, 7, 14, 12, 1, 3, 9, 5, 0, 15, 4, 8, 6, 2, 10, 6, 15, 14, 9, 11, 3, 0, 8, 12, 2, 13, 7, 1, 4, 10, 5, 10, 2, 8, 4, 7, 6, 1, 5, 15, 11, 9, 14, 3, 12, 13, 0]
def PT : List Nat := [0, 4, 8, 12, 1, 5, 9, 13, 2, 6, 10, 14, 3, 7, 11, 15, 0, 5, 10, 15, 1, 6, 11, 12, 2, 7, 8, 13, 3, 4, 9, 14]
def ot (i : Nat) : Nat := OT.getD i 0
def pt (i : Nat) : Nat := PT.getD i 0
theorem ot_lt (i : Nat) : ot i < 16 := by
  unfold ot
  by_cases h : i < 160
  · exact (by decide : ∀ i, i < 160 → OT.getD i 0 < 16) i h
  · rw [List.getD_eq_getElem?_getD, List.getElem?_eq_none (by simp [OT]; omega)]
    decide
theorem pt_lt (i : Nat) : pt i < 16 := by
  unfold pt
  by_cases h : i < 32
  · exact (by decide : ∀ i, i < 32 → PT.getD i 0 < 16) i h
  · rw [List.getD_eq_getElem?_getD, List.getElem?_eq_none (by simp [PT]; omega)]
    decide
/-- The eight numbers and the start numbers. -/
def v0 (h : List Int) (t : Int) (last : Bool) : List Int :=
  h ++ [1779033703, 3144134277, 1013904242, 2773480762, xr 1359893119 (t % 4294967296), xr 2600822924 (t / 4294967296 % 4294967296), if last then 3766232660 else 528734635, 1541459225]
/-- The j-th mixing of all eighty. -/
def stp (m v : List Int) (j : Nat) : List Int := mx v (pt (4 * (j % 8))) (pt (4 * (j % 8) + 1)) (pt (4 * (j % 8) + 2)) (pt (4 * (j % 8) + 3)) (m.getD (ot (2 * j)) 0) (m.getD (ot (2 * j + 1)) 0)
def rd (m v : List Int) : Nat → List Int
  | 0 => v
  | j + 1 => stp m (rd m v j) j
theorem rd_succ (m v : List Int) (j : Nat) : rd m v (j + 1) = stp m (rd m v j) j := rfl
theorem rd_ok {m v : List Int} (h : V16 v) (j : Nat) : V16 (rd m v j) := by
  induction j with
  | zero => exact h
  | succ j ih => exact mx_ok ih (pt_lt _) (pt_lt _) (pt_lt _) (pt_lt _) _ _
/-- What comes out, number by number. -/
def fn (h v : List Int) : List Int := (List.range 8).map fun i => xr (xr (h.getD i 0) (v.getD i 0)) (v.getD (i + 8) 0)
/-- A block is pressed into eight numbers. -/
def prs (h B : List Int) (t : Int) (last : Bool) : List Int := fn h (rd (ws B) (v0 h t last) 80)
def V8 (h : List Int) : Prop := h.length = 8 ∧ Wds h
theorem V8.get {v : List Int} (h : V8 v) {i : Nat} (hi : i < 8) : v[i]? = some (v.getD i 0) ∧ Wd (v.getD i 0) := ⟨getD_some (by rw [h.1]; exact hi), getD_wd h.2 i (by rw [h.1]; exact hi)⟩
theorem Wds.app {s x : List Int} (h : Wds s) (k : Wds x) : Wds (s ++ x) := fun y hy => (List.mem_append.1 hy).elim (h y) (k y)
theorem v0_ok {h : List Int} (hh : V8 h) (t : Int) (last : Bool) : V16 (v0 h t last) := by
  refine ⟨by simp [v0, hh.1], hh.2.app fun y hy => ?_⟩
  simp only [List.mem_cons, List.not_mem_nil, or_false] at hy
  have d (x : Int) (h : 0 ≤ x ∧ x ≤ 4294967295) : Wd x := h
  rcases hy with rfl | rfl | rfl | rfl | rfl | rfl | rfl | rfl
  · exact d _ (by omega)
  · exact d _ (by omega)
  · exact d _ (by omega)
  · exact d _ (by omega)
  · exact xr_wd (d _ (by omega)) (d _ (by omega))
  · exact xr_wd (d _ (by omega)) (d _ (by omega))
  · cases last
    · exact d _ (by simp)
    · exact d _ (by simp)
  · exact d _ (by omega)
theorem fn_length (h v : List Int) : (fn h v).length = 8 := by simp [fn]
theorem fn_get (h v : List Int) {i : Nat} (hi : i < 8) : (fn h v)[i]? = some (xr (xr (h.getD i 0) (v.getD i 0)) (v.getD (i + 8) 0)) := by
  simp [fn, List.getElem?_map, List.getElem?_range hi]
theorem fn_ok {h v : List Int} (hh : V8 h) (hv : V16 v) : V8 (fn h v) := by
  refine ⟨fn_length _ _, fun y hy => ?_⟩
  simp only [fn, List.mem_map, List.mem_range] at hy
  obtain ⟨i, hi, rfl⟩ := hy
  exact xr_wd (xr_wd (hh.get hi).2 (hv.get (by omega)).2) (hv.get (by omega)).2
theorem prs_ok {h : List Int} (hh : V8 h) (B : List Int) (t : Int) (last : Bool) : V8 (prs h B t last) := fn_ok hh (rd_ok (v0_ok hh t last) 80)

/-- What is taken in. -/
def inn (key b : List Int) : List Int := if key.length = 0 then b else (key ++ List.replicate (64 - key.length) 0) ++ b
/-- The eight numbers at first. -/
def h0 (size : Int) (kl : Nat) : List Int := iv.set 0 (xr (xr (xr 1779033703 16842752) (256 * (kl : Int) % 4294967296)) (size % 4294967296))
/-- Behind so many blocks. -/
def eat (h l : List Int) : Nat → List Int
  | 0 => h
  | i + 1 => prs (eat h l i) ((l.drop (64 * i)).take 64) (64 * ((i + 1 : Nat) : Int)) false
theorem eat_succ (h l : List Int) (i : Nat) : eat h l (i + 1) = prs (eat h l i) ((l.drop (64 * i)).take 64) (64 * ((i + 1 : Nat) : Int)) false := rfl
theorem eat_ok {h : List Int} (hh : V8 h) (l : List Int) (i : Nat) : V8 (eat h l i) := by
  induction i with
  | zero => exact hh
  | succ i ih => exact prs_ok ih _ _ _
/-- How many blocks there are ahead of the last one. -/
def nbl (n : Nat) : Nat := (n - 1) / 64
def padz (l : List Int) : List Int := l ++ List.replicate (64 - l.length) 0
def digh (h l : List Int) : List Int := prs (eat h l (nbl l.length)) (padz (l.drop (64 * nbl l.length))) (l.length : Int) true
theorem iv_ok : V8 iv := by
  refine ⟨rfl, fun y hy => ?_⟩
  have e : ∀ y ∈ iv, 0 ≤ y ∧ y ≤ 4294967295 := by decide
  exact e y hy
theorem h0_ok (size : Int) (kl : Nat) : V8 (h0 size kl) := by
  have d (x : Int) (h : 0 ≤ x ∧ x ≤ 4294967295) : Wd x := h
  refine ⟨by rw [h0, List.length_set]; rfl, iv_ok.2.set 0 ?_⟩
  exact xr_wd (xr_wd (xr_wd (d _ (by omega)) (d _ (by omega))) (d _ (by omega))) (d _ (by omega))
theorem digh_ok {h : List Int} (hh : V8 h) (l : List Int) : V8 (digh h l) := prs_ok (eat_ok hh _ _) _ _ _
/-- The digest. -/
def dig (size : Nat) (key b : List Int) : List Int := (bsw (digh (h0 size key.length) (inn key b))).take size
theorem dig_length {size : Nat} (hs : size ≤ 32) (key b : List Int) : (dig size key b).length = size := by
  rw [dig, List.length_take, bsw_length, (digh_ok (h0_ok _ _) _).1]
  omega
theorem dig_bys (size : Nat) (key b : List Int) : Bys (dig size key b) := (bsw_bys _).take _
/-- What Of answers. -/
def ofv (size : Int) (key b : List Int) : List Int × Int := if size < 1 ∨ 32 < size ∨ 32 < key.length then ([], 2) else (dig size.toNat key b, 0)
theorem ofv_bys (size : Int) (key b : List Int) : Bys (ofv size key b).1 := by
  unfold ofv
  split
  · exact Bys.nil
  · exact dig_bys _ _ _
end Go.Proofs.Ytebknlhooijkcaa

/- The reference's turn: contract. Condition: a word, one of four numbers of bits. -/
namespace Go.Proofs.Ytebknlhooijkcaa
set_option linter.unusedSimpArgs false
set_option linter.unusedVariables false
open Go.ChangeShapes Go.WideShapes Go.ChangeAt Go.RowKit

theorem rturn16 (x : Int) (h : Wd x) (w : World) : Calls Try.prog 55 #[.int .u32 x, .int .i64 16] w fun e w' => e = .returned (.int .u32 (tr 16 x)) ∧ Fr (fun _ => False) w w' := by
  have e := tr_or 16 (by simp [Tn]) h
  have h0 := h.1
  have h1 := h.2
  go_enter Try.func55, Try.ntmps55
  go_wp2
  go_quiet (fail)
  go_wp2
  go_ret
  exact ⟨by first | (rw [← e]; rfl) | rw [← e], (Fr.refl _ _).drewN _⟩
theorem rturn12 (x : Int) (h : Wd x) (w : World) : Calls Try.prog 55 #[.int .u32 x, .int .i64 12] w fun e w' => e = .returned (.int .u32 (tr 12 x)) ∧ Fr (fun _ => False) w w' := by
  have e := tr_or 12 (by simp [Tn]) h
  have h0 := h.1
  have h1 := h.2
  go_enter Try.func55, Try.ntmps55
  go_wp2
  go_quiet (fail)
  go_wp2
  go_ret
  exact ⟨by first | (rw [← e]; rfl) | rw [← e], (Fr.refl _ _).drewN _⟩
theorem rturn8 (x : Int) (h : Wd x) (w : World) : Calls Try.prog 55 #[.int .u32 x, .int .i64 8] w fun e w' => e = .returned (.int .u32 (tr 8 x)) ∧ Fr (fun _ => False) w w' := by
  have e := tr_or 8 (by simp [Tn]) h
  have h0 := h.1
  have h1 := h.2
  go_enter Try.func55, Try.ntmps55
  go_wp2
  go_quiet (fail)
  go_wp2
  go_ret
  exact ⟨by first | (rw [← e]; rfl) | rw [← e], (Fr.refl _ _).drewN _⟩
theorem rturn7 (x : Int) (h : Wd x) (w : World) : Calls Try.prog 55 #[.int .u32 x, .int .i64 7] w fun e w' => e = .returned (.int .u32 (tr 7 x)) ∧ Fr (fun _ => False) w w' := by
  have e := tr_or 7 (by simp [Tn]) h
  have h0 := h.1
  have h1 := h.2
  go_enter Try.func55, Try.ntmps55
  go_wp2
  go_quiet (fail)
  go_wp2
  go_ret
  exact ⟨by first | (rw [← e]; rfl) | rw [← e], (Fr.refl _ _).drewN _⟩
theorem rturn_any (n : Nat) (hn : Tn n) (x : Int) (h : Wd x) (w : World) : Calls Try.prog 55 #[.int .u32 x, .int .i64 (n : Int)] w fun e w' => e = .returned (.int .u32 (tr n x)) ∧ Fr (fun _ => False) w w' := by
  rcases hn with rfl | rfl | rfl | rfl
  · exact rturn16 x h w
  · exact rturn12 x h w
  · exact rturn8 x h w
  · exact rturn7 x h w
end Go.Proofs.Ytebknlhooijkcaa
