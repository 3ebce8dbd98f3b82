/- poly.Same, the reference's Same: contracts. Conditions: slices that lie in memory. -/
import Derived.Test.YtbafppdmlhogbaaK
import Derived.Test.YtbafppdmlhogbaaT
namespace Go.Proofs.Ytbafppdmlhogbaa
set_option linter.unusedSimpArgs false
set_option linter.unusedVariables false
open Go.RowKit

theorem i64_or (x y : Nat) (hx : x < 2 ^ 63) (hy : y < 2 ^ 63) : bits .or .i64 (x : Int) (y : Int) = ((x ||| y : Nat) : Int) :=
  (bits_nat .i64 63 (by decide) (fun n h0 h1 => by rw [IntKind.wrap_i64]; omega) x y hx hy).2
theorem i64_xor (x y : Nat) (hx : x < 2 ^ 63) (hy : y < 2 ^ 63) : bits .xor .i64 (x : Int) (y : Int) = ((x ^^^ y : Nat) : Int) := by
  have hq : x ^^^ y < 2 ^ 63 := Nat.xor_lt_two_pow hx hy
  show IntKind.i64.wrap ((BitVec.ofInt 64 (x : Int) ^^^ BitVec.ofInt 64 (y : Int)).toNat : Int) = _
  rw [BitVec.toNat_xor, ofInt_u64 x (by omega), ofInt_u64 y (by omega), IntKind.wrap_i64]
  omega
theorem xor_zero {x y : Nat} : x ^^^ y = 0 ↔ x = y := by
  constructor
  · intro h
    have : x ^^^ y ^^^ y = 0 ^^^ y := by rw [h]
    simpa [Nat.xor_assoc] using this
  · rintro rfl
    simp
theorem or_zero {x y : Nat} : x ||| y = 0 ↔ x = 0 ∧ y = 0 := by
  constructor
  · intro h
    constructor
    · have := Nat.left_le_or (n := x) (m := y); omega
    · have := Nat.right_le_or (n := x) (m := y); omega
  · rintro ⟨rfl, rfl⟩
    rfl
set_option maxRecDepth 100000 in
set_option maxHeartbeats 8000000 in
theorem same_is (g1 g2 : Nat) (A B : Option Addr) (n m c d : Nat) (l k : List Int) (w : World) (h1 : Sl w g1 (.slice A n c) l) (h2 : Sl w g2 (.slice B m d) k) :
    Calls Try.prog 32 #[.slice A n c, .slice B m d] w fun e w' => e = .returned (.bool (decide (l = k))) ∧ ∃ q, w' = w.drewN q := by
  have hn : n < 2 ^ 63 := by
    have hl := h1.len
    obtain ⟨_, A', c', e, h3, h4, _⟩ := h1
    unfold maxLen at h4
    omega
  have hm : m < 2 ^ 63 := by
    have hl := h2.len
    obtain ⟨_, A', c', e, h3, h4, _⟩ := h2
    unfold maxLen at h4
    omega
  have hl := Lib.hid h1.len
  have hk := Lib.hid h2.len
  have bl := Lib.hid h1.1
  have bk := Lib.hid h2.1
  obtain ⟨x0, hx0⟩ : ∃ x, n ^^^ m = x := ⟨_, rfl⟩
  have ex : bits .xor .i64 (n : Int) (m : Int) = (x0 : Int) := by rw [← hx0]; exact i64_xor n m (by omega) (by omega)
  obtain ⟨M, hM⟩ : ∃ M, M = min n m := ⟨_, rfl⟩
  have emin : (if m < n then (m : Int) else n) = (M : Int) := by rw [hM]; split <;> omega
  have HM := Lib.hid hM
  have hxb : Hid (x0 < 2 ^ 63) := by show _ < _; rw [← hx0]; exact Nat.xor_lt_two_pow (by omega) (by omega)
  have hx00 : Hid (x0 = 0 ↔ n = m) := by show _ ↔ _; rw [← hx0]; exact xor_zero
  have H1 := Lib.hid h1
  have H2 := Lib.hid h2
  clear hx0 hM h1 h2
  go_enter Try.func32, Try.ntmps32
  go_upto_region 3 with (fail)
  go_wp2
  go_loopw [5, 6, 17] (fun u5 _ u17 wr => ∃ i x q : Nat, u17 = .int .i64 i ∧ u5 = .int .i64 x ∧ i ≤ M ∧ x < 2 ^ 63 ∧ Hid (x = 0 ↔ (n = m ∧ ∀ j, j < i → l.getD j 0 = k.getD j 0)) ∧ wr = w.drewN q)
    (fun _ _ u17 _ => M - (intOf u17).toNat)
  case atStart =>
    refine ⟨0, x0, 0, rfl, rfl, by omega, hxb.out, ?_, rfl⟩
    show _ ↔ _
    rw [hx00.out]
    exact ⟨fun h => ⟨h, fun j hj => by omega⟩, fun h => h.1⟩
  case round =>
    obtain ⟨i, x, q, rfl, rfl, hi, hx, he, rfl⟩ := hrel
    by_cases hlt : i < M
    · have hin : i < n := by have := HM.out; omega
      have him : i < m := by have := HM.out; omega
      obtain ⟨o1, rfl, hc1⟩ := H1.out.at_ (by omega)
      obtain ⟨o2, rfl, hc2⟩ := H2.out.at_ (by omega)
      have c1 := hc1 i hin
      have c2 := hc2 i him
      obtain ⟨y, hy⟩ : ∃ y, l.getD i 0 = y := ⟨_, rfl⟩
      obtain ⟨z, hz⟩ : ∃ y, k.getD i 0 = y := ⟨_, rfl⟩
      rw [hy] at c1
      rw [hz] at c2
      have by_ : 0 ≤ y ∧ y ≤ 255 := by rw [← hy]; exact bl.out _ (List.mem_of_getElem? (getD_some (by have := hl.out; omega)))
      have bz : 0 ≤ z ∧ z ≤ 255 := by rw [← hz]; exact bk.out _ (List.mem_of_getElem? (getD_some (by have := hk.out; omega)))
      obtain ⟨y', rfl⟩ := Int.eq_ofNat_of_zero_le by_.1
      obtain ⟨z', rfl⟩ := Int.eq_ofNat_of_zero_le bz.1
      obtain ⟨p, hp⟩ : ∃ p, y' ^^^ z' = p := ⟨_, rfl⟩
      have hpb : p < 2 ^ 8 := by rw [← hp]; exact Nat.xor_lt_two_pow (by omega) (by omega)
      have e1 : bits .xor .u8 (y' : Int) (z' : Int) = (p : Int) := by rw [← hp]; exact u8_xor_nat y' z' (by omega) (by omega)
      have e2 : IntKind.i64.wrap (p : Int) = p := by rw [IntKind.wrap_i64]; omega
      obtain ⟨x2, hx2⟩ : ∃ x2, x ||| p = x2 := ⟨_, rfl⟩
      have e3 : bits .or .i64 (x : Int) (p : Int) = (x2 : Int) := by rw [← hx2]; exact i64_or x p hx (by omega)
      have hx2b : x2 < 2 ^ 63 := by rw [← hx2]; exact Nat.or_lt_two_pow hx (by omega)
      have he2 : Hid (x2 = 0 ↔ (n = m ∧ ∀ j, j < i + 1 → l.getD j 0 = k.getD j 0)) := by
        show _ ↔ _
        rw [← hx2, or_zero, he.out, ← hp, xor_zero]
        constructor
        · rintro ⟨⟨h1, h2⟩, h3⟩
          refine ⟨h1, fun j hj => ?_⟩
          rcases Nat.lt_or_ge j i with h | h
          · exact h2 j h
          · have : j = i := by omega
            rw [this, hy, hz, h3]
        · rintro ⟨h1, h2⟩
          refine ⟨⟨h1, fun j hj => h2 j (by omega)⟩, ?_⟩
          have := h2 i (by omega)
          rw [hy, hz] at this
          omega
      clear hc1 hc2 hy hz by_ bz hp hpb hx2 he
      have hd0 : (w.drewN q).cell? ⟨g1, o1 + i, none⟩ = _ := c1
      have hd1 : (w.drewN q).cell? ⟨g2, o2 + i, none⟩ = _ := c2
      go_wp2
      go_quiet (fail)
      go_wp2
      go_roundw
      case rel => exact ⟨i + 1, x2, _, by go_num, rfl, by omega, hx2b, he2, rfl⟩
      case measure => simp [intOf]; omega
    · have hiM : i = M := by omega
      have hres : Hid (decide (x = 0) = decide (l = k)) := by
        show _ = _
        apply decide_eq_decide.2
        rw [he.out]
        constructor
        · rintro ⟨h1, h2⟩
          subst h1
          exact take_eq_of l k n hl.out hk.out (fun j hj => h2 j (by have := HM.out; omega))
        · rintro rfl
          have h1 := hl.out
          have h2 := hk.out
          exact ⟨by omega, fun _ _ => rfl⟩
      clear he
      go_wp2
      go_ret
      refine ⟨?_, q, rfl⟩
      show Ending.returned (.bool ((x : Int) == 0)) = _
      have e : ((x : Int) == 0) = decide (x = 0) := by
        rw [Bool.eq_iff_iff]
        simp
      rw [e, hres.out]
end Go.Proofs.Ytbafppdmlhogbaa
