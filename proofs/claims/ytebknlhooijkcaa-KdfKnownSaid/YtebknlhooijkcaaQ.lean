/- Words of 32 bits turned; quarter rounds: contracts. Condition: words. -/
import Derived.Test.YtebknlhooijkcaaK
import Derived.StillTailTactics
import Derived.Deep.Strs
namespace Go.Proofs.Ytebknlhooijkcaa
set_option linter.unusedSimpArgs false
set_option linter.unusedVariables false
open Go.RowKit

/-- A word of 32 bits. -/
def Wd (x : Int) : Prop := 0 ≤ x ∧ x ≤ 4294967295
/-- Turned left. -/
def tl (n : Nat) (x : Int) : Int := x % 2 ^ (32 - n) * 2 ^ n + x / 2 ^ (32 - n)
theorem tl16 (x : Int) : tl 16 x = x % 65536 * 65536 + x / 65536 := rfl
theorem or16 (x : Int) (h : Wd x) : bits .or .u32 (IntKind.u32.wrap (x * 65536)) (x / 65536) = tl 16 x := by
  unfold Wd at h
  rw [tl16, IntKind.wrap_u32, show x * 65536 % 4294967296 = x % 65536 * 65536 by omega]
  exact bits_join .u32 32 (by decide) (fun n h0 h1 => by rw [IntKind.wrap_u32]; omega) 16 (x % 65536 * 65536) (x / 65536) (by omega) (by omega) (by omega) (by omega) (by omega) (by omega)
theorem tl12 (x : Int) : tl 12 x = x % 1048576 * 4096 + x / 1048576 := rfl
theorem or12 (x : Int) (h : Wd x) : bits .or .u32 (IntKind.u32.wrap (x * 4096)) (x / 1048576) = tl 12 x := by
  unfold Wd at h
  rw [tl12, IntKind.wrap_u32, show x * 4096 % 4294967296 = x % 1048576 * 4096 by omega]
  exact bits_join .u32 32 (by decide) (fun n h0 h1 => by rw [IntKind.wrap_u32]; omega) 12 (x % 1048576 * 4096) (x / 1048576) (by omega) (by omega) (by omega) (by omega) (by omega) (by omega)
theorem tl8 (x : Int) : tl 8 x = x % 16777216 * 256 + x / 16777216 := rfl
theorem or8 (x : Int) (h : Wd x) : bits .or .u32 (IntKind.u32.wrap (x * 256)) (x / 16777216) = tl 8 x := by
  unfold Wd at h
  rw [tl8, IntKind.wrap_u32, show x * 256 % 4294967296 = x % 16777216 * 256 by omega]
  exact bits_join .u32 32 (by decide) (fun n h0 h1 => by rw [IntKind.wrap_u32]; omega) 8 (x % 16777216 * 256) (x / 16777216) (by omega) (by omega) (by omega) (by omega) (by omega) (by omega)
theorem tl7 (x : Int) : tl 7 x = x % 33554432 * 128 + x / 33554432 := rfl
theorem or7 (x : Int) (h : Wd x) : bits .or .u32 (IntKind.u32.wrap (x * 128)) (x / 33554432) = tl 7 x := by
  unfold Wd at h
  rw [tl7, IntKind.wrap_u32, show x * 128 % 4294967296 = x % 33554432 * 128 by omega]
  exact bits_join .u32 32 (by decide) (fun n h0 h1 => by rw [IntKind.wrap_u32]; omega) 7 (x % 33554432 * 128) (x / 33554432) (by omega) (by omega) (by omega) (by omega) (by omega) (by omega)
end Go.Proofs.Ytebknlhooijkcaa

/- Quarter rounds: contracts. Condition: words. -/
namespace Go.Proofs.Ytebknlhooijkcaa
set_option linter.unusedSimpArgs false
set_option linter.unusedVariables false
open Go.RowKit

def sm (x y : Int) : Int := (x + y) % 4294967296
def xr (x y : Int) : Int := bits .xor .u32 x y
theorem sm_wd (x y : Int) : Wd (sm x y) := by unfold sm Wd; omega
theorem xr_nat (x y : Nat) (hx : x < 4294967296) (hy : y < 4294967296) : xr x y = ((x ^^^ y : Nat) : Int) := u32_xor_nat x y hx hy
theorem xr_wd {x y : Int} (hx : Wd x) (hy : Wd y) : Wd (xr x y) := by
  unfold Wd at hx hy
  obtain ⟨x, rfl⟩ := Int.eq_ofNat_of_zero_le hx.1
  obtain ⟨y, rfl⟩ := Int.eq_ofNat_of_zero_le hy.1
  rw [xr_nat x y (by omega) (by omega)]
  have h : x ^^^ y < 2 ^ 32 := Nat.xor_lt_two_pow (by omega) (by omega)
  unfold Wd
  omega
theorem xr_xr {x y : Int} (hx : Wd x) (hy : Wd y) : xr (xr x y) y = x := by
  unfold Wd at hx hy
  obtain ⟨x, rfl⟩ := Int.eq_ofNat_of_zero_le hx.1
  obtain ⟨y, rfl⟩ := Int.eq_ofNat_of_zero_le hy.1
  have h : x ^^^ y < 2 ^ 32 := Nat.xor_lt_two_pow (by omega) (by omega)
  rw [xr_nat x y (by omega) (by omega), xr_nat _ y (by omega) (by omega), Nat.xor_assoc, Nat.xor_self, Nat.xor_zero]
theorem tl_wd (n : Nat) (hn : n = 16 ∨ n = 12 ∨ n = 8 ∨ n = 7) {x : Int} (h : Wd x) : Wd (tl n x) := by
  unfold Wd at h
  rcases hn with rfl | rfl | rfl | rfl
  · rw [tl16]; constructor <;> omega
  · rw [tl12]; constructor <;> omega
  · rw [tl8]; constructor <;> omega
  · rw [tl7]; constructor <;> omega
/-- A quarter round. -/
structure Qr (a b c d a2 b2 c2 d2 : Int) : Prop where
  step : ∃ a1 b1 c1 d1, a1 = sm a b ∧ d1 = tl 16 (xr d a1) ∧ c1 = sm c d1 ∧ b1 = tl 12 (xr b c1) ∧ a2 = sm a1 b1 ∧ d2 = tl 8 (xr d1 a2) ∧ c2 = sm c1 d2 ∧ b2 = tl 7 (xr b1 c2)
  wd : Wd a2 ∧ Wd b2 ∧ Wd c2 ∧ Wd d2
theorem qr_ex {a b c d : Int} (_ : Wd a) (hb : Wd b) (_ : Wd c) (hd : Wd d) : ∃ a2 b2 c2 d2, Qr a b c d a2 b2 c2 d2 := by
  have a1 := sm_wd a b
  have d1 := tl_wd 16 (by simp) (xr_wd hd a1)
  have c1 := sm_wd c (tl 16 (xr d (sm a b)))
  have b1 := tl_wd 12 (by simp) (xr_wd hb c1)
  have a2 := sm_wd (sm a b) (tl 12 (xr b (sm c (tl 16 (xr d (sm a b))))))
  have d2 := tl_wd 8 (by simp) (xr_wd d1 a2)
  have c2 := sm_wd (sm c (tl 16 (xr d (sm a b)))) (tl 8 (xr (tl 16 (xr d (sm a b))) (sm (sm a b) (tl 12 (xr b (sm c (tl 16 (xr d (sm a b)))))))))
  have b2 := tl_wd 7 (by simp) (xr_wd b1 c2)
  exact ⟨_, _, _, _, ⟨_, _, _, _, rfl, rfl, rfl, rfl, rfl, rfl, rfl, rfl⟩, a2, b2, c2, d2⟩
theorem Qr.fn {a b c d a2 b2 c2 d2 a3 b3 c3 d3 : Int} (h : Qr a b c d a2 b2 c2 d2) (k : Qr a b c d a3 b3 c3 d3) : a2 = a3 ∧ b2 = b3 ∧ c2 = c3 ∧ d2 = d3 := by
  obtain ⟨_, _, _, _, rfl, rfl, rfl, rfl, rfl, rfl, rfl, rfl⟩ := h.step
  obtain ⟨_, _, _, _, rfl, rfl, rfl, rfl, rfl, rfl, rfl, rfl⟩ := k.step
  exact ⟨rfl, rfl, rfl, rfl⟩
theorem wrap32 (x : Int) : IntKind.u32.wrap x = x % 4294967296 := IntKind.wrap_u32 x
def tz (n x : Int) : Int := tl n.toNat x
end Go.Proofs.Ytebknlhooijkcaa

/- A quarter round taken back; the law's helper works: contracts. Condition: words. -/
namespace Go.Proofs.Ytebknlhooijkcaa
set_option linter.unusedSimpArgs false
set_option linter.unusedVariables false
open Go.RowKit

def rt (n : Nat) (x : Int) : Int := x % 2 ^ n * 2 ^ (32 - n) + x / 2 ^ n
def rz (n x : Int) : Int := rt n.toNat x
theorem rt16 (x : Int) : rt 16 x = x % 65536 * 65536 + x / 65536 := rfl
theorem rt_tl16 (x : Int) (h : Wd x) : rz 16 (tz 16 x) = x := by
  show rt 16 (tl 16 x) = x
  unfold Wd at h
  rw [rt16, tl16]
  omega
theorem ro16 (x : Int) (h : Wd x) : bits .or .u32 (x / 65536) (IntKind.u32.wrap (x * 65536)) = rt 16 x := by
  unfold Wd at h
  rw [rt16, IntKind.wrap_u32, show x * 65536 % 4294967296 = x % 65536 * 65536 by omega]
  have e := bits_join .u32 32 (by decide) (fun n h0 h1 => by rw [IntKind.wrap_u32]; omega) 16 (x % 65536 * 65536) (x / 65536) (by omega) (by omega) (by omega) (by omega) (by omega) (by omega)
  rw [← e]
  obtain ⟨p, hp⟩ := Int.eq_ofNat_of_zero_le (show 0 ≤ x / 65536 by omega)
  obtain ⟨q, hq⟩ := Int.eq_ofNat_of_zero_le (show 0 ≤ x % 65536 * 65536 by omega)
  rw [hp, hq, u32_or_nat p q (by omega) (by omega), u32_or_nat q p (by omega) (by omega), Nat.or_comm]
theorem rt12 (x : Int) : rt 12 x = x % 4096 * 1048576 + x / 4096 := rfl
theorem rt_tl12 (x : Int) (h : Wd x) : rz 12 (tz 12 x) = x := by
  show rt 12 (tl 12 x) = x
  unfold Wd at h
  rw [rt12, tl12]
  omega
theorem ro12 (x : Int) (h : Wd x) : bits .or .u32 (x / 4096) (IntKind.u32.wrap (x * 1048576)) = rt 12 x := by
  unfold Wd at h
  rw [rt12, IntKind.wrap_u32, show x * 1048576 % 4294967296 = x % 4096 * 1048576 by omega]
  have e := bits_join .u32 32 (by decide) (fun n h0 h1 => by rw [IntKind.wrap_u32]; omega) 20 (x % 4096 * 1048576) (x / 4096) (by omega) (by omega) (by omega) (by omega) (by omega) (by omega)
  rw [← e]
  obtain ⟨p, hp⟩ := Int.eq_ofNat_of_zero_le (show 0 ≤ x / 4096 by omega)
  obtain ⟨q, hq⟩ := Int.eq_ofNat_of_zero_le (show 0 ≤ x % 4096 * 1048576 by omega)
  rw [hp, hq, u32_or_nat p q (by omega) (by omega), u32_or_nat q p (by omega) (by omega), Nat.or_comm]
theorem rt8 (x : Int) : rt 8 x = x % 256 * 16777216 + x / 256 := rfl
theorem rt_tl8 (x : Int) (h : Wd x) : rz 8 (tz 8 x) = x := by
  show rt 8 (tl 8 x) = x
  unfold Wd at h
  rw [rt8, tl8]
  omega
theorem ro8 (x : Int) (h : Wd x) : bits .or .u32 (x / 256) (IntKind.u32.wrap (x * 16777216)) = rt 8 x := by
  unfold Wd at h
  rw [rt8, IntKind.wrap_u32, show x * 16777216 % 4294967296 = x % 256 * 16777216 by omega]
  have e := bits_join .u32 32 (by decide) (fun n h0 h1 => by rw [IntKind.wrap_u32]; omega) 24 (x % 256 * 16777216) (x / 256) (by omega) (by omega) (by omega) (by omega) (by omega) (by omega)
  rw [← e]
  obtain ⟨p, hp⟩ := Int.eq_ofNat_of_zero_le (show 0 ≤ x / 256 by omega)
  obtain ⟨q, hq⟩ := Int.eq_ofNat_of_zero_le (show 0 ≤ x % 256 * 16777216 by omega)
  rw [hp, hq, u32_or_nat p q (by omega) (by omega), u32_or_nat q p (by omega) (by omega), Nat.or_comm]
theorem rt7 (x : Int) : rt 7 x = x % 128 * 33554432 + x / 128 := rfl
theorem rt_tl7 (x : Int) (h : Wd x) : rz 7 (tz 7 x) = x := by
  show rt 7 (tl 7 x) = x
  unfold Wd at h
  rw [rt7, tl7]
  omega
theorem ro7 (x : Int) (h : Wd x) : bits .or .u32 (x / 128) (IntKind.u32.wrap (x * 33554432)) = rt 7 x := by
  unfold Wd at h
  rw [rt7, IntKind.wrap_u32, show x * 33554432 % 4294967296 = x % 128 * 33554432 by omega]
  have e := bits_join .u32 32 (by decide) (fun n h0 h1 => by rw [IntKind.wrap_u32]; omega) 25 (x % 128 * 33554432) (x / 128) (by omega) (by omega) (by omega) (by omega) (by omega) (by omega)
  rw [← e]
  obtain ⟨p, hp⟩ := Int.eq_ofNat_of_zero_le (show 0 ≤ x / 128 by omega)
  obtain ⟨q, hq⟩ := Int.eq_ofNat_of_zero_le (show 0 ≤ x % 128 * 33554432 by omega)
  rw [hp, hq, u32_or_nat p q (by omega) (by omega), u32_or_nat q p (by omega) (by omega), Nat.or_comm]
theorem sub_sm {x y : Int} (hx : Wd x) : IntKind.u32.wrap (sm x y - y) = x := by
  unfold Wd at hx
  rw [wrap32]
  unfold sm
  omega
theorem sub_sm' {x y : Int} (hy : Wd y) : IntKind.u32.wrap (sm x y - x) = y := by
  unfold Wd at hy
  rw [wrap32]
  unfold sm
  omega

end Go.Proofs.Ytebknlhooijkcaa

/- Both rounds of the sixteen words, and their quarter rounds as functions: contract of rounds. Condition: sixteen words. -/
namespace Go.Proofs.Ytebknlhooijkcaa
set_option linter.unusedSimpArgs false
set_option linter.unusedVariables false
open Go.RowKit

def Wds (s : List Int) : Prop := ∀ x ∈ s, Wd x
/-- A quarter round as a function. -/
def qf (a b c d : Int) : Int × Int × Int × Int :=
  (sm (sm a b) (tl 12 (xr b (sm c (tl 16 (xr d (sm a b)))))),
   tl 7 (xr (tl 12 (xr b (sm c (tl 16 (xr d (sm a b)))))) (sm (sm c (tl 16 (xr d (sm a b)))) (tl 8 (xr (tl 16 (xr d (sm a b))) (sm (sm a b) (tl 12 (xr b (sm c (tl 16 (xr d (sm a b)))))))))) ),
   sm (sm c (tl 16 (xr d (sm a b)))) (tl 8 (xr (tl 16 (xr d (sm a b))) (sm (sm a b) (tl 12 (xr b (sm c (tl 16 (xr d (sm a b)))))))) ),
   tl 8 (xr (tl 16 (xr d (sm a b))) (sm (sm a b) (tl 12 (xr b (sm c (tl 16 (xr d (sm a b)))))))))
theorem Qr.eq {a b c d a2 b2 c2 d2 : Int} (h : Qr a b c d a2 b2 c2 d2) : qf a b c d = (a2, b2, c2, d2) := by
  obtain ⟨_, _, _, _, rfl, rfl, rfl, rfl, rfl, rfl, rfl, rfl⟩ := h.step
  rfl
/-- A quarter round at four places. -/
def qat (s : List Int) (i j k l : Nat) : List Int :=
  (((s.set i (qf (s.getD i 0) (s.getD j 0) (s.getD k 0) (s.getD l 0)).1).set j (qf (s.getD i 0) (s.getD j 0) (s.getD k 0) (s.getD l 0)).2.1).set k (qf (s.getD i 0) (s.getD j 0) (s.getD k 0) (s.getD l 0)).2.2.1).set l (qf (s.getD i 0) (s.getD j 0) (s.getD k 0) (s.getD l 0)).2.2.2
def places : List (List Nat) := [[0, 4, 8, 12], [1, 5, 9, 13], [2, 6, 10, 14], [3, 7, 11, 15], [0, 5, 10, 15], [1, 6, 11, 12], [2, 7, 8, 13], [3, 4, 9, 14]]
def qal (s : List Int) (p : List Nat) : List Int := qat s (p.getD 0 0) (p.getD 1 0) (p.getD 2 0) (p.getD 3 0)
/-- Both rounds. -/
def rds (s : List Int) : List Int := places.foldl qal s
theorem qat_eq {s : List Int} {i j k l : Nat} {a b c d a2 b2 c2 d2 : Int} (ha : s.getD i 0 = a) (hb : s.getD j 0 = b) (hc : s.getD k 0 = c) (hd : s.getD l 0 = d) (hq : qf a b c d = (a2, b2, c2, d2)) :
    qat s i j k l = (((s.set i a2).set j b2).set k c2).set l d2 := by
  unfold qat
  rw [ha, hb, hc, hd, hq]
theorem qal_eq (s : List Int) (i j k l : Nat) : qal s [i, j, k, l] = qat s i j k l := rfl
theorem qat_length (s : List Int) (i j k l : Nat) : (qat s i j k l).length = s.length := by simp [qat]
theorem sixteen {l : List Int} (h : l.length = 16) : ∃ x0 x1 x2 x3 x4 x5 x6 x7 x8 x9 x10 x11 x12 x13 x14 x15, l = [x0, x1, x2, x3, x4, x5, x6, x7, x8, x9, x10, x11, x12, x13, x14, x15] := by
  match l, h with
  | [x0, x1, x2, x3, x4, x5, x6, x7, x8, x9, x10, x11, x12, x13, x14, x15], _ => exact ⟨x0, x1, x2, x3, x4, x5, x6, x7, x8, x9, x10, x11, x12, x13, x14, x15, rfl⟩
theorem getD_wd {s : List Int} (h : Wds s) (i : Nat) (hi : i < s.length) : Wd (s.getD i 0) := h _ (List.mem_of_getElem? (getD_some hi))
theorem qf_wd {a b c d : Int} (ha : Wd a) (hb : Wd b) (hc : Wd c) (hd : Wd d) : Wd (qf a b c d).1 ∧ Wd (qf a b c d).2.1 ∧ Wd (qf a b c d).2.2.1 ∧ Wd (qf a b c d).2.2.2 := by
  obtain ⟨a2, b2, c2, d2, hq⟩ := qr_ex ha hb hc hd
  rw [hq.eq]
  exact hq.wd
theorem Wds.set {s : List Int} (h : Wds s) (i : Nat) {x : Int} (hx : Wd x) : Wds (s.set i x) := by
  intro y hy
  rcases List.mem_or_eq_of_mem_set hy with hy | rfl
  · exact h y hy
  · exact hx
theorem qat_wds {s : List Int} (hs : Wds s) {i j k l : Nat} (hi : i < s.length) (hj : j < s.length) (hk : k < s.length) (hl : l < s.length) : Wds (qat s i j k l) := by
  obtain ⟨h1, h2, h3, h4⟩ := qf_wd (getD_wd hs i hi) (getD_wd hs j hj) (getD_wd hs k hk) (getD_wd hs l hl)
  exact (((hs.set i h1).set j h2).set k h3).set l h4
theorem rds_ok {s : List Int} (hl : s.length = 16) (hs : Wds s) : (rds s).length = 16 ∧ Wds (rds s) := by
  have key : ∀ (ps : List (List Nat)) (s : List Int), (∀ p ∈ ps, ∀ x ∈ p, x < 16) → s.length = 16 → Wds s → (ps.foldl qal s).length = 16 ∧ Wds (ps.foldl qal s) := by
    intro ps
    induction ps with
    | nil => intro s _ h1 h2; exact ⟨h1, h2⟩
    | cons p r ih =>
      intro s hp h1 h2
      have hb : ∀ i, p.getD i 0 < 16 := fun i => by
        rw [List.getD_eq_getElem?_getD]
        rcases h : p[i]? with _ | x
        · simp
        · exact hp p (by simp) x (List.mem_of_getElem? h)
      exact ih _ (fun q hq => hp q (by simp [hq])) (by rw [qal, qat_length, h1]) (qat_wds h2 (by rw [h1]; exact hb 0) (by rw [h1]; exact hb 1) (by rw [h1]; exact hb 2) (by rw [h1]; exact hb 3))
  exact key places s (by decide) hl hs
end Go.Proofs.Ytebknlhooijkcaa

/- A word of four bytes; the sixteen words of a key, a counter and a nonce: contracts. Conditions: bytes, their numbers. -/
namespace Go.Proofs.Ytebknlhooijkcaa
set_option linter.unusedSimpArgs false
set_option linter.unusedVariables false
open Go.RowKit

def By (b : Int) : Prop := 0 ≤ b ∧ b ≤ 255
def nb (b0 b1 b2 b3 : Int) : Int := b0 + b1 * 256 + b2 * 65536 + b3 * 16777216
theorem nb_wd {b0 b1 b2 b3 : Int} (h0 : By b0) (h1 : By b1) (h2 : By b2) (h3 : By b3) : Wd (nb b0 b1 b2 b3) := by
  unfold By at *
  unfold Wd nb
  omega
theorem join32 (j : Nat) (x y : Int) (hj : j ≤ 31) (h0 : 0 ≤ x) (h1 : x < 2 ^ j) (g0 : 0 ≤ y) (g1 : y * 2 ^ j < 4294967296) : bits .or .u32 x (y * 2 ^ j) = x + y * 2 ^ j := by
  obtain ⟨x, rfl⟩ := Int.eq_ofNat_of_zero_le h0
  obtain ⟨y, rfl⟩ := Int.eq_ofNat_of_zero_le g0
  have e : ((y : Int) * 2 ^ j) = ((y * 2 ^ j : Nat) : Int) := by rw [Int.natCast_mul, Int.natCast_pow]; rfl
  have e2 : (2 : Int) ^ j = ((2 ^ j : Nat) : Int) := by rw [Int.natCast_pow]; rfl
  have hx : x < 2 ^ j := by rw [e2] at h1; omega
  have hy : y * 2 ^ j < 4294967296 := by rw [e] at g1; omega
  have hj2 : 2 ^ j ≤ 2 ^ 31 := Nat.pow_le_pow_right (by decide) hj
  rw [e, u32_or_nat x (y * 2 ^ j) (by omega) hy, Nat.or_comm, nat_join j (y * 2 ^ j) x (Nat.mul_mod_left _ _) hx]
  omega
def ws : List Int → List Int
  | a :: b :: c :: d :: r => nb a b c d :: ws r
  | _ => []
theorem ws_length (m : Nat) : ∀ l : List Int, l.length = 4 * m → (ws l).length = m := by
  induction m with
  | zero => intro l h; match l, h with | [], _ => rfl
  | succ m ih =>
    intro l h
    match l, h with
    | a :: b :: c :: d :: r, h =>
      show (nb a b c d :: ws r).length = m + 1
      rw [List.length_cons, ih r (by simp at h; omega)]
theorem ws_get (m : Nat) : ∀ (l : List Int) (i : Nat), l.length = 4 * m → i < m → (ws l)[i]? = some (nb (l.getD (4 * i) 0) (l.getD (4 * i + 1) 0) (l.getD (4 * i + 2) 0) (l.getD (4 * i + 3) 0)) := by
  induction m with
  | zero => intro l i _ hi; omega
  | succ m ih =>
    intro l i h hi
    match l, h with
    | a :: b :: c :: d :: r, h =>
      cases i with
      | zero => rfl
      | succ i =>
        show (nb a b c d :: ws r)[i + 1]? = _
        rw [List.getElem?_cons_succ, ih r i (by simp at h; omega) (by omega)]
        rfl
theorem ws_wds (m : Nat) : ∀ l : List Int, l.length = 4 * m → Bys l → Wds (ws l) := by
  induction m with
  | zero => intro l h _; match l, h with | [], _ => (intro x hx; cases hx)
  | succ m ih =>
    intro l h hb
    match l, h with
    | a :: b :: c :: d :: r, h =>
      intro x hx
      rcases List.mem_cons.1 hx with rfl | hx
      · exact nb_wd (hb a (by simp)) (hb b (by simp)) (hb c (by simp)) (hb d (by simp))
      · exact ih r (by simp at h; omega) (fun y hy => hb y (by simp [hy])) x hx
/-- The sixteen words at first. -/
def st (k : List Int) (c : Int) (n : List Int) : List Int := 1634760805 :: 857760878 :: 2036477234 :: 1797285236 :: (ws k ++ c :: ws n)
section
variable {k n : List Int} {c : Int}
theorem st_length (hk : k.length = 32) (hn : n.length = 12) : (st k c n).length = 16 := by
  have h1 := ws_length 8 k (by omega)
  have h2 := ws_length 3 n (by omega)
  simp [st, h1, h2]
theorem st_wds (hk : k.length = 32) (bk : Bys k) (hc : Wd c) (hn : n.length = 12) (bn : Bys n) : Wds (st k c n) := by
  have h1 := ws_wds 8 k (by omega) bk
  have h2 := ws_wds 3 n (by omega) bn
  intro x hx
  simp only [st, List.mem_cons, List.mem_append] at hx
  rcases hx with rfl | rfl | rfl | rfl | hx | rfl | hx
  · exact ⟨by decide, by decide⟩
  · exact ⟨by decide, by decide⟩
  · exact ⟨by decide, by decide⟩
  · exact ⟨by decide, by decide⟩
  · exact h1 x hx
  · exact hc
  · exact h2 x hx
theorem st_key (hk : k.length = 32) (i : Nat) (hi : i < 8) : (st k c n)[4 + i]? = some (nb (k.getD (4 * i) 0) (k.getD (4 * i + 1) 0) (k.getD (4 * i + 2) 0) (k.getD (4 * i + 3) 0)) := by
  have h1 := ws_length 8 k (by omega)
  rw [show 4 + i = i + 1 + 1 + 1 + 1 by omega]
  simp only [st, List.getElem?_cons_succ]
  rw [List.getElem?_append_left (by omega), ws_get 8 k i (by omega) hi]
theorem st_ctr (hk : k.length = 32) : (st k c n)[12]? = some c := by
  have h1 := ws_length 8 k (by omega)
  simp only [st, List.getElem?_cons_succ]
  rw [List.getElem?_append_right (by omega), h1]
  rfl
theorem st_nonce (hk : k.length = 32) (hn : n.length = 12) (i : Nat) (hi : i < 3) : (st k c n)[13 + i]? = some (nb (n.getD (4 * i) 0) (n.getD (4 * i + 1) 0) (n.getD (4 * i + 2) 0) (n.getD (4 * i + 3) 0)) := by
  have h1 := ws_length 8 k (by omega)
  rw [show 13 + i = 9 + i + 1 + 1 + 1 + 1 by omega]
  simp only [st, List.getElem?_cons_succ]
  rw [List.getElem?_append_right (by omega), h1, show 9 + i - 8 = i + 1 by omega, List.getElem?_cons_succ, ws_get 3 n i (by omega) hi]
end
theorem calm3 {w : World} {A B C : Obj} {W0 : World} (h : ((w.alloc A).alloc B).alloc C = W0) : W0.heap[w.heap.size]? = some A ∧ W0.heap[w.heap.size + 1]? = some B ∧ W0.heap[w.heap.size + 1 + 1]? = some C ∧ Fr (fun _ => False) w W0 := by
  obtain ⟨V, hV⟩ : ∃ V, (w.alloc A).alloc B = V := ⟨_, rfl⟩
  have h2 := calm2 hV
  have sV : V.heap.size = w.heap.size + 1 + 1 := by rw [← hV]; simp
  rw [hV] at h
  have h1 := calm1a h
  rw [sV] at h1
  exact ⟨(h1.2.block _ (by omega) (fun x => x)).trans h2.1, (h1.2.block _ (by omega) (fun x => x)).trans h2.2.1, h1.1, h2.2.2.trans h1.2⟩
theorem calm4 {w : World} {A B C D : Obj} {W0 : World} (h : (((w.alloc A).alloc B).alloc C).alloc D = W0) : W0.heap[w.heap.size]? = some A ∧ W0.heap[w.heap.size + 1]? = some B ∧ W0.heap[w.heap.size + 1 + 1]? = some C ∧ W0.heap[w.heap.size + 1 + 1 + 1]? = some D ∧ Fr (fun _ => False) w W0 := by
  obtain ⟨V, hV⟩ : ∃ V, ((w.alloc A).alloc B).alloc C = V := ⟨_, rfl⟩
  have h3 := calm3 hV
  have sV : V.heap.size = w.heap.size + 1 + 1 + 1 := by rw [← hV]; simp
  rw [hV] at h
  have h1 := calm1a h
  rw [sV] at h1
  exact ⟨(h1.2.block _ (by omega) (fun x => x)).trans h3.1, (h1.2.block _ (by omega) (fun x => x)).trans h3.2.1, (h1.2.block _ (by omega) (fun x => x)).trans h3.2.2.1, h1.1, h3.2.2.2.trans h1.2⟩
end Go.Proofs.Ytebknlhooijkcaa

/- chacha's start: contract. Conditions: a key of 32 bytes, a word, a nonce of 12 bytes. -/
namespace Go.Proofs.Ytebknlhooijkcaa
set_option linter.unusedSimpArgs false
set_option linter.unusedVariables false
open Go.RowKit

theorem fil_get (L : List Int) (k : Nat) (x : Int) (h : k < L.length) : (fil L k x)[k]? = some x := by
  unfold fil
  rw [List.getElem?_append_right (by rw [List.length_take]; omega), List.length_take, Nat.min_eq_left (by omega), Nat.sub_self]
  rw [List.getElem?_replicate, if_pos (by omega)]

end Go.Proofs.Ytebknlhooijkcaa

/- chacha's block of the sixteen words: contract. Condition: sixteen words. -/
namespace Go.Proofs.Ytebknlhooijkcaa
set_option linter.unusedSimpArgs false
set_option linter.unusedVariables false
open Go.RowKit

/-- So many times both rounds. -/
def rn : Nat → List Int → List Int
  | 0, s => s
  | i + 1, s => rds (rn i s)
theorem rn_ok {s : List Int} (hl : s.length = 16) (hs : Wds s) (i : Nat) : (rn i s).length = 16 ∧ Wds (rn i s) := by
  induction i with
  | zero => exact ⟨hl, hs⟩
  | succ i ih => exact rds_ok ih.1 ih.2
/-- The bytes of words. -/
def bsw : List Int → List Int
  | [] => []
  | x :: r => x % 256 :: x / 256 % 256 :: x / 65536 % 256 :: x / 16777216 % 256 :: bsw r
theorem bsw_length (l : List Int) : (bsw l).length = 4 * l.length := by
  induction l with
  | nil => rfl
  | cons x r ih => simp only [bsw, List.length_cons, ih]; omega
theorem bsw_get (l : List Int) (i : Nat) (x : Int) (h : l[i]? = some x) : (bsw l)[4 * i]? = some (x % 256) ∧ (bsw l)[4 * i + 1]? = some (x / 256 % 256) ∧ (bsw l)[4 * i + 2]? = some (x / 65536 % 256) ∧ (bsw l)[4 * i + 3]? = some (x / 16777216 % 256) := by
  induction l generalizing i with
  | nil => simp at h
  | cons y r ih =>
    cases i with
    | zero => simp at h; subst h; exact ⟨rfl, rfl, rfl, rfl⟩
    | succ i => exact ih i (by simpa using h)
theorem bsw_bys (l : List Int) : Bys (bsw l) := by
  induction l with
  | nil => intro b hb; cases hb
  | cons x r ih =>
    intro b hb
    simp only [bsw, List.mem_cons] at hb
    rcases hb with rfl | rfl | rfl | rfl | hb
    · omega
    · omega
    · omega
    · omega
    · exact ih b hb
def zs (s x : List Int) : List Int := List.zipWith sm s x
theorem zs_length {s x : List Int} (hs : s.length = 16) (hx : x.length = 16) : (zs s x).length = 16 := by simp [zs, hs, hx]
theorem zs_get {s x : List Int} {i : Nat} {p q : Int} (hp : s[i]? = some p) (hq : x[i]? = some q) : (zs s x)[i]? = some (sm p q) := by
  unfold zs
  rw [List.getElem?_zipWith, hp, hq]
/-- The bytes of a block. -/
def blk (s : List Int) : List Int := bsw (zs s (rn 10 s))
theorem blk_length {s : List Int} (hl : s.length = 16) (hs : Wds s) : (blk s).length = 64 := by rw [blk, bsw_length, zs_length hl (rn_ok hl hs 10).1]
theorem blk_bys (s : List Int) : Bys (blk s) := bsw_bys _
theorem size64 : (Try.prog.info? 54).map (·.size) = some 64 := by kernel_rfl
theorem zero64 : ∀ W : World, (zeroValue 54).run Try.prog W = .ok (.agg (vs .u8 (List.replicate 64 0))) W := fun _ => by kernel_rfl

end Go.Proofs.Ytebknlhooijkcaa

/- chacha's Block: contract. Conditions: a key of 32 bytes, a word, a nonce of 12 bytes. -/
namespace Go.Proofs.Ytebknlhooijkcaa
set_option linter.unusedSimpArgs false
set_option linter.unusedVariables false
open Go.RowKit

/-- The bytes of the block of a key, a counter and a nonce. -/
def bk64 (k : List Int) (c : Int) (n : List Int) : List Int := blk (st k c n)
theorem bk64_length {k : List Int} {c : Int} {n : List Int} (hk : k.length = 32) (bk : Bys k) (hc : Wd c) (hn : n.length = 12) (bn : Bys n) : (bk64 k c n).length = 64 := blk_length (st_length hk hn) (st_wds hk bk hc hn bn)
theorem bk64_bys (k : List Int) (c : Int) (n : List Int) : Bys (bk64 k c n) := blk_bys _
theorem size28 : (Try.prog.info? 32).map (·.size) = some 32 := by kernel_rfl
end Go.Proofs.Ytebknlhooijkcaa

/- Arguments that are four words, or a key, a counter and a nonce, opened. Lemmas alone. -/
namespace Go.Proofs.Ytebknlhooijkcaa
set_option linter.unusedSimpArgs false
set_option linter.unusedVariables false
open Go.ChangeShapes Go.WideShapes Go.ChangeAt Go.RowKit

theorem four {l : List Int} (h : l.length = 4) : ∃ a b c d, l = [a, b, c, d] := by
  match l, h with
  | [a, b, c, d], _ => exact ⟨a, b, c, d, rfl⟩
/-- A key, a counter and a nonce. -/
def bg (k : List Int) (c : Int) (n : List Int) : Array Value := ((k.map (Value.int .u8)) ++ (Value.int .u32 c :: n.map (Value.int .u8))).toArray
theorem trod_ints {H : Type} {enc : TypeId × Value → H} {P : Program} {W : World} {base : Nat} {sp : Nat → Bool} {held : Bool} {t e : TypeId} {n fuel : Nat} {k : IntKind} {cs : List Value} {x : DataW H × List MemPlace}
    (ht : P.underlying t = some (.array n e)) (he : P.underlying e = some (.int k)) (hce : P.cellsOf e = 1) (hl : cs.length = n)
    (h : DataW.trod enc P W base sp held fuel t cs = some x) : ∃ l : List Int, cs = l.map (Value.int k) ∧ l.length = n ∧ ∀ x ∈ l, (Lit.int k x).wf = true := by
  obtain ⟨xs, m, _, _, _, hl', hel⟩ := DataW.trod_array ht h
  simp only [hce, Nat.mul_one] at hel
  have hcell : ∀ i (hi : i < cs.length), ∃ x, cs[i] = .int k x ∧ (Lit.int k x).wf = true := by
    intro i hi
    have h1 := hel i (by omega)
    rw [List.getElem?_eq_getElem (by omega)] at h1
    obtain ⟨x, ex, _, wx⟩ := DataW.trod_int he h1
    rw [List.drop_eq_getElem_cons hi] at ex
    simp only [List.take_succ_cons, List.take_zero, List.cons.injEq, and_true] at ex
    exact ⟨x, ex, wx⟩
  refine ⟨cs.map intOf, ?_, by simp; omega, ?_⟩
  · apply List.ext_getElem
    · simp
    · intro i h1 h2
      obtain ⟨x, ex, _⟩ := hcell i h1
      simp [ex, intOf]
  · intro x hx
    simp only [List.mem_map] at hx
    obtain ⟨c, hc, rfl⟩ := hx
    obtain ⟨i, hi, rfl⟩ := List.mem_iff_getElem.1 hc
    obtain ⟨x, ex, wx⟩ := hcell i hi
    rw [ex]
    exact wx
section
variable {w : World} {q : Nat} {k n : List Int} {c : Int}
theorem bg_size (hk : k.length = 32) (hn : n.length = 12) : (bg k c n).size = 45 := by simp [bg, hk, hn]
end
section
variable {C : World → Prop} {a : Act} {o : Oper} {K : Act → Prop}
/-- A part of an array or struct is loaded. -/
theorem quiet_mid (ty : TypeId) (d : TypeDesc) (x : Operand) (ho : o.op = .load ty x) (q i : Nat) (hx : a.eval x = .pointer (some ⟨q, i, none⟩)) (k : IntKind) (l : List Int) (hd : Try.prog.underlying ty = some d) (hr : d.isRow = true) (hl : (Try.prog.info? ty).map (·.size) = some l.length) (hg : ∀ w, C w → w.rangeAt q i (vs k l).toList)
    (hk : K (a.put o.dst (.agg (vs k l)))) : o.quiet Try.prog a C K := by
  refine quiet_run _ (fun w hw => ?_) hk
  unfold execOp
  simp only [ho, hx, Instr.loadAt, Instr.sureAddr, Sem.run_bind, Sem.run_pure, Result.andThen_ok, run_loadVar_mid (P := Try.prog) w q i ty (vs k l).toList _ (hg w hw) hd hr (by rw [hl]; simp [vs])]
theorem quiet_one (ty : TypeId) (k : IntKind) (x : Operand) (ho : o.op = .load ty x) (q i : Nat) (hx : a.eval x = .pointer (some ⟨q, i, none⟩)) (y : Int) (he : Try.prog.underlying ty = some (.int k)) (hg : ∀ w, C w → w.cell? ⟨q, i, none⟩ = some (.int k y))
    (hk : K (a.put o.dst (.int k y))) : o.quiet Try.prog a C K := by
  refine quiet_run _ (fun w hw => ?_) hk
  have hc := hg w hw
  unfold execOp
  simp [ho, hx, Instr.loadAt, Instr.sureAddr, loadVar, isAgg, run_underlying he, hc, Sem.run_bind, Sem.run_pure, Result.andThen_ok]
end
end Go.Proofs.Ytebknlhooijkcaa
