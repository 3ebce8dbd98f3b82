/- What the reference's EqBytes answers: whether two slices of bytes show the same bytes; it turns no memory. No condition but that both slices lie in memory. -/
import Derived.Test.YtkkicekhkidhjaaLeaf
namespace Go.Proofs.Ytkkicekhkidhjaa
set_option linter.unusedSimpArgs false
set_option linter.unusedVariables false
open Go.RowKit

theorem Sl.len {w : World} {g : Nat} {A : Option Addr} {n c : Nat} {l : List Int} (h : Sl w g (.slice A n c) l) : l.length = n := by
  obtain ⟨_, A', c', e, _⟩ := h; injection e with _ e2; exact e2.symm
theorem Sl.at_ {w : World} {g : Nat} {A : Option Addr} {n c : Nat} {l : List Int} (h : Sl w g (.slice A n c) l) (hn : 0 < n) : ∃ o, A = some ⟨g, o, none⟩ ∧ ∀ k, k < n → w.cell? ⟨g, o + k, none⟩ = some (.int .u8 (l.getD k 0)) := by
  have hl := h.len
  obtain ⟨_, A', c', e, _, _, hx⟩ := h
  injection e with e1 e2 e3
  subst e1
  obtain ⟨o, rfl, _, hcell⟩ := hx (by rintro rfl; simp at hl; omega)
  refine ⟨o, rfl, fun k hk => hcell k _ ?_⟩
  rw [List.getD_eq_getElem?_getD, List.getElem?_eq_getElem (by omega)]
  rfl

set_option maxHeartbeats 800000 in
theorem eqBytes_ne (A B : Option Addr) (n m c d : Nat) (w : World) (h : n ≠ m) (hn : n ≤ maxLen) (hm : m ≤ maxLen) :
    Calls Try.prog 22 #[.slice A n c, .slice B m d] w fun e w' => e = .returned (.bool false) ∧ w = w' := by
  unfold maxLen at hn hm
  have hb : ((n : Int) != (m : Int)) = true := by simp; omega
  go_enter Try.func22, Try.ntmps22
  go_wp2
  go_ret
  exact ⟨rfl, rfl⟩

theorem take_eq_of (l k : List Int) (n : Nat) (hl : l.length = n) (hk : k.length = n) (h : ∀ j, j < n → l.getD j 0 = k.getD j 0) : l = k := by
  apply List.ext_getElem (by omega)
  intro j h1 h2
  have := h j (by omega)
  simpa [List.getD_eq_getElem?_getD, List.getElem?_eq_getElem h1, List.getElem?_eq_getElem h2] using this

set_option maxHeartbeats 800000 in
theorem eqBytes_same (g1 g2 : Nat) (A B : Option Addr) (n c d : Nat) (l k : List Int) (w : World) (h1 : Sl w g1 (.slice A n c) l) (h2 : Sl w g2 (.slice B n d) k) (hn : n ≤ maxLen) :
    Calls Try.prog 22 #[.slice A n c, .slice B n d] w fun e w' => e = .returned (.bool (decide (l = k))) ∧ ∃ q, w' = w.drewN q := by
  unfold maxLen at hn
  have hl := h1.len
  have hk := h2.len
  have hb : ((n : Int) != (n : Int)) = false := by simp
  rcases Nat.eq_zero_or_pos n with h0 | h0
  · subst h0
    have el : l = [] := List.eq_nil_of_length_eq_zero hl
    have ek : k = [] := List.eq_nil_of_length_eq_zero hk
    subst el ek
    clear h1 h2 hl hk
    go_enter Try.func22, Try.ntmps22
    go_wp2
    go_rounds 1
    go_ret
    exact ⟨by simp, 0, rfl⟩
  · obtain ⟨o1, rfl, hc1⟩ := h1.at_ h0
    obtain ⟨o2, rfl, hc2⟩ := h2.at_ h0
    have HL := Lib.hid hl
    have HK := Lib.hid hk
    have H1 := Lib.hid hc1
    have H2 := Lib.hid hc2
    clear hl hk hc1 hc2 h1 h2
    go_enter Try.func22, Try.ntmps22
    go_wp2
    go_loopw [5] (fun i wr => ∃ j q : Nat, j ≤ n ∧ i = .int .i64 j ∧ (∀ t, t < j → l.getD t 0 = k.getD t 0) ∧ wr = w.drewN q) (fun i _ => n - (intOf i).toNat)
    case atStart => exact ⟨0, 0, Nat.zero_le _, rfl, fun t ht => absurd ht (by omega), rfl⟩
    case round =>
      obtain ⟨j, q, hj, rfl, he, rfl⟩ := hrel
      have HE := Lib.hid he
      clear he
      by_cases hlt : j < n
      · have c1 := H1.out j hlt
        have c2 := H2.out j hlt
        go_wp2
        go_quiet (fail)
        go_wp2
        · have hne : (l[j]?.getD 0 != k[j]?.getD 0) = true := by assumption
          go_ret
          refine ⟨?_, q + nq, World.drewN_drewN _ _ _⟩
          have hd : decide (l = k) = false := by
            rw [decide_eq_false_iff_not]
            rintro rfl
            simp at hne
          rw [hd]; rfl
        · have heq : (l[j]?.getD 0 != k[j]?.getD 0) = false := by assumption
          have heq' : l.getD j 0 = k.getD j 0 := by simpa using heq
          refine ⟨⟨j + 1, _, by omega, by go_num, fun t ht => ?_, rfl⟩, by simp [intOf]; omega⟩
          rcases Nat.lt_or_ge t j with h | h
          · exact HE.out t h
          · have e : t = j := by omega
            rw [e]; exact heq'
      · go_wp2
        go_ret
        refine ⟨?_, _, rfl⟩
        have e : l = k := take_eq_of l k n HL.out HK.out (fun t ht => HE.out t (by omega))
        rw [e]; simp

theorem eqBytes_any (g1 g2 : Nat) (A B : Option Addr) (n m c d : Nat) (l k : List Int) (w : World) (h1 : Sl w g1 (.slice A n c) l) (h2 : Sl w g2 (.slice B m d) k) :
    Calls Try.prog 22 #[.slice A n c, .slice B m d] w fun e w' => e = .returned (.bool (decide (l = k))) ∧ ∃ q, w' = w.drewN q := by
  have b1 : n ≤ maxLen := by
    have hl := h1.len
    obtain ⟨_, A', c', e, h3, h4, _⟩ := h1
    omega
  have b2 : m ≤ maxLen := by
    have hl := h2.len
    obtain ⟨_, A', c', e, h3, h4, _⟩ := h2
    omega
  by_cases h : n = m
  · subst h
    exact eqBytes_same g1 g2 A B n c d l k w h1 h2 b1
  · refine (eqBytes_ne A B n m c d w h b1 b2).mono ?_
    rintro e w' ⟨rfl, rfl⟩
    refine ⟨?_, 0, rfl⟩
    have hd : decide (l = k) = false := by
      rw [decide_eq_false_iff_not]
      rintro rfl
      exact h (h1.len.symm.trans h2.len)
    rw [hd]
end Go.Proofs.Ytkkicekhkidhjaa
