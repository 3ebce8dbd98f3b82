/- field.row: a row of the product. Its condition: words, and nothing beyond the row as yet. -/
import Derived.Test.YtbkbodcncjhcmaaLift
import Derived.StillTailTactics
namespace Go.Proofs.Ytbkbodcncjhcmaa
open Go.RowKit

/-- The number of words. -/
def vx : List Int → Int
  | [] => 0
  | b :: r => b + 18446744073709551616 * vx r
def Wds (l : List Int) : Prop := ∀ b ∈ l, Wd b
theorem vx_append (l k : List Int) : vx (l ++ k) = vx l + 18446744073709551616 ^ l.length * vx k := by
  induction l with
  | nil => simp [vx]
  | cons b r ih =>
    simp only [List.cons_append, vx, ih, List.length_cons, Int.pow_succ]
    grind
theorem vx_set (l : List Int) (k : Nat) (y : Int) (h : k < l.length) : vx (l.set k y) = vx l + 18446744073709551616 ^ k * (y - l.getD k 0) := by
  induction l generalizing k with
  | nil => simp at h
  | cons b r ih =>
    cases k with
    | zero => simp [vx]; omega
    | succ k =>
      simp only [List.set_cons_succ, vx, List.getD_cons_succ, Int.pow_succ]
      rw [ih k (by simpa using h)]
      grind
theorem vx_take_succ (l : List Int) (k : Nat) (h : k < l.length) : vx (l.take (k + 1)) = vx (l.take k) + 18446744073709551616 ^ k * l.getD k 0 := by
  have e : l[k] = l.getD k 0 := by
    have := getD_some h
    rw [List.getElem?_eq_getElem h] at this
    injection this
  rw [List.take_succ_eq_append_getElem h, vx_append, e]
  simp only [vx, List.length_take, Nat.min_eq_left (Nat.le_of_lt h), Int.mul_zero, Int.add_zero]
theorem vx_bd (l : List Int) (h : Wds l) : 0 ≤ vx l ∧ vx l < (18446744073709551616 : Int) ^ l.length := by
  induction l with
  | nil => simp [vx]
  | cons b r ih =>
    have h1 := h b (by simp)
    have h2 := ih (fun x hx => h x (by simp [hx]))
    unfold Wd at h1
    simp only [vx, List.length_cons, Int.pow_succ]
    omega
theorem Wds.set {l : List Int} (h : Wds l) (k : Nat) {y : Int} (hy : Wd y) : Wds (l.set k y) := by
  intro b hb
  rcases List.mem_or_eq_of_mem_set hb with hb | rfl
  · exact h b hb
  · exact hy
theorem getD_set_ne (l : List Int) (i j : Nat) (y : Int) (h : i ≠ j) : (l.set i y).getD j 0 = l.getD j 0 := by
  simp only [List.getD_eq_getElem?_getD, List.getElem?_set_ne h]

/-- What a row leaves: eight words, of so much more; nothing beyond. -/
structure Rw (i : Nat) (M : List Int) (V : Int) : Prop where
  len : M.length = 8
  wds : Wds M
  val : vx M = V
  beyond : ∀ k, i + 4 ≤ k → M.getD k 0 = 0
def RowOut (i : Nat) (V : Int) (q : Nat) (w : World) (e : Ending) (w' : World) : Prop :=
  e = .returned (.tuple #[]) ∧ (∃ M, Rw (i + 1) M V ∧ Ar w' q 77 .u64 M) ∧ Fr (fun k => k = q) w w'

set_option maxHeartbeats 4000000 in
theorem row_is (q g i : Nat) (x V : Int) (L A : List Int) (w : World) (hi : i < 4) (hq : Ar w q 77 .u64 L) (hg : Ar w g 37 .u64 A) (hne : q ≠ g) (hL : Rw i L V) (hA : A.length = 4 ∧ Wds A) (hx : Wd x) :
    Calls Try.prog 54 #[.pointer (some ⟨q, 0, none⟩), .int .i64 i, .pointer (some ⟨g, 0, none⟩), .int .u64 x] w fun e w' => RowOut i (V + 18446744073709551616 ^ i * (x * vx A)) q w e w' := by
  have HG := Lib.hid (And.intro hq (And.intro hg (And.intro hne (And.intro hL (And.intro hA hx)))))
  have hi0 : (i : Int) < 4 := by omega
  clear hq hg hne hL hA hx
  go_enter Try.func54, Try.ntmps54
  go_wp2
  go_loopw [8, 9, 10] (fun u8 u9 u10 wr => ∃ (j : Nat) (c : Int) (M : List Int), u10 = .int .i64 j ∧ u8 = .int .u64 c ∧ j ≤ 4 ∧ Hid (Wd c ∧ M.length = 8 ∧ Wds M ∧ vx M + 18446744073709551616 ^ (i + j) * c = V + 18446744073709551616 ^ i * (x * vx (A.take j)) ∧ ∀ k, i + 4 ≤ k → M.getD k 0 = 0) ∧
      Hid (Ar wr q 77 .u64 M) ∧ Hid (Ar wr g 37 .u64 A) ∧ Hid (Fr (fun k => k = q) w wr))
    (fun _ _ u10 _ => 4 - (intOf u10).toNat)
  case atStart =>
    obtain ⟨hq, hg, hne, hL, hA, hx⟩ := HG.out
    exact ⟨0, 0, L, rfl, rfl, by omega, ⟨⟨by decide, by decide⟩, hL.len, hL.wds, by rw [List.take_zero, hL.val]; simp [vx], hL.beyond⟩, hq, hg, Fr.refl _ _⟩
  case round =>
    obtain ⟨j, c, M, rfl, rfl, hj, hM, hQ, hA', hF⟩ := hrel
    by_cases hlt : j < 4
    · obtain ⟨hq, hg, hne, hL, hA, hx⟩ := HG.out
      obtain ⟨hc, hml, hmw, hmv, hmb⟩ := hM.out
      obtain ⟨a, ha⟩ : ∃ a, a = A.getD j 0 := ⟨_, rfl⟩
      obtain ⟨l, hl⟩ : ∃ l, l = M.getD (i + j) 0 := ⟨_, rfl⟩
      have ga := getD_some (l := A) (i := j) (by omega)
      have gl := getD_some (l := M) (i := i + j) (by omega)
      rw [← ha] at ga
      rw [← hl] at gl
      have wa := hA.2 a (List.mem_of_getElem? ga)
      have wl := hmw l (List.mem_of_getElem? gl)
      have ca := hA'.out.cell ga
      have cl := hQ.out.cell gl
      have hfz := hQ.out.frozen (i + j)
      obtain ⟨lo, hh, hlo, hhi, hlh⟩ : ∃ lo hh : Int, Wd lo ∧ Wd hh ∧ Hid (a * x + l + c = lo + 18446744073709551616 * hh) := by
        have h0 : 0 ≤ a * x := Int.mul_nonneg wa.1 hx.1
        have h1 : a * x ≤ 18446744073709551615 * 18446744073709551615 := Int.mul_le_mul (by have := wa.2; omega) (by have := hx.2; omega) hx.1 (by decide)
        unfold Wd at wl hc
        refine ⟨(a * x + l + c) % 18446744073709551616, (a * x + l + c) / 18446744073709551616, ⟨by omega, by omega⟩, ⟨by omega, by omega⟩, ?_⟩
        show _ = _
        omega
      have C : ∀ W, Calls Try.prog 56 #[.int .u64 a, .int .u64 x, .int .u64 l, .int .u64 c] W fun e w' => e = .returned (.tuple #[.int .u64 lo, .int .u64 hh]) ∧ w' = W := fun W => by
        refine (times_is a x l c lo hh W wa hx wl hc hlo hhi hlh).mono ?_
        rintro e w' ⟨rfl, rfl⟩
        exact ⟨rfl, rfl⟩
      have HV : Hid (vx (M.set (i + j) lo) + 18446744073709551616 ^ (i + (j + 1)) * hh = V + 18446744073709551616 ^ i * (x * vx (A.take (j + 1)))) := by
        have h1 := vx_set M (i + j) lo (by omega)
        have h2 := vx_take_succ A j (by omega)
        have h3 := hlh.out
        show _ = _
        rw [h1, h2, ← hl, ← ha, show i + (j + 1) = (i + j) + 1 by omega, Int.pow_succ, Int.pow_add]
        rw [Int.pow_add] at hmv
        generalize (18446744073709551616 : Int) ^ i = P at *
        generalize (18446744073709551616 : Int) ^ j = R at *
        grind
      have HB : Hid (∀ k, i + 4 ≤ k → (M.set (i + j) lo).getD k 0 = 0) := fun k hk => by rw [getD_set_ne _ _ _ _ (by omega)]; exact hmb k hk
      have HM2 := Lib.hid (And.intro hml (And.intro hmw (And.intro hlo hhi)))
      have t1 : ((i : Int) + (j : Int)).toNat = i + j := by omega
      have w1 : IntKind.i64.wrap ((i : Int) + (j : Int)) = (i : Int) + (j : Int) := IntWalk.i64_in _ (by omega)
      have s0 : 0 ≤ (i : Int) + (j : Int) := by omega
      have s1 : (i : Int) + (j : Int) < 8 := by omega
      clear ha hl ga gl wa wl hq hg hL hA hx hc hml hmw hmv hmb hlo hhi
      go_wp2
      go_region_with ((go_at_call 56; refine (C _).mono ?_; rintro e w' ⟨rfl, rfl⟩))
      all_goals
        go_wp2
        go_roundw
        case rel =>
          obtain ⟨hml, hmw, hlo, hhi⟩ := HM2.out
          refine ⟨j + 1, hh, M.set (i + j) lo, by go_num, rfl, by omega, ⟨hhi, by rw [List.length_set, hml], hmw.set _ hlo, HV.out, HB.out⟩, ?_, ?_, ?_⟩
          · exact (hQ.out.set (i + j) lo).drew
          · exact (hA'.out.far (fun e => hne e.symm) _).drew
          · exact (hF.out.setCell _ (.inl rfl)).drew
        case measure => simp [intOf]; omega
    · obtain rfl : j = 4 := by omega
      obtain ⟨hq, hg, hne, hL, hA, hx⟩ := HG.out
      obtain ⟨hc, hml, hmw, hmv, hmb⟩ := hM.out
      have gl := getD_some (l := M) (i := i + 4) (by omega)
      have cl := hQ.out.cell gl
      have hz := hmb (i + 4) (by omega)
      have hfz := hQ.out.frozen (i + 4)
      have HO : Hid (Rw (i + 1) (M.set (i + 4) c) (V + 18446744073709551616 ^ i * (x * vx A))) := by
        refine ⟨by rw [List.length_set, hml], hmw.set _ hc, ?_, fun k hk => ?_⟩
        · rw [vx_set _ _ _ (by omega), hz, ← show A.take 4 = A from List.take_of_length_le (by omega), ← hmv, Int.sub_zero]
        · rw [getD_set_ne _ _ _ _ (by omega)]
          exact hmb k (by omega)
      have t1 : ((i : Int) + 4).toNat = i + 4 := by omega
      have w1 : IntKind.i64.wrap ((i : Int) + 4) = (i : Int) + 4 := IntWalk.i64_in _ (by omega)
      have s0 : 0 ≤ (i : Int) + 4 := by omega
      have s1 : (i : Int) + 4 < 8 := by omega
      clear gl hz hq hg hL hA hx hc hml hmw hmv hmb hne
      go_wp2
      go_end0
      exact ⟨rfl, ⟨_, HO.out, hQ.out.set (i + 4) c⟩, hF.out.setCell _ (.inl rfl)⟩
end Go.Proofs.Ytbkbodcncjhcmaa
