/- The laws' split and split2: contracts. Condition: lengths below 2^47. -/
import Derived.Test.YtafpcaoccocpfaaZl
namespace Go.Proofs.Ytafpcaoccocpfaa
set_option linter.unusedSimpArgs false
set_option linter.unusedVariables false
open Go.ChangeShapes Go.WideShapes Go.ChangeAt Go.RowKit

set_option maxRecDepth 100000 in
set_option maxHeartbeats 8000000 in
theorem split_yes (sz : Nat) (g1 : Nat) (A1 : Option Addr) (m1 s1 : Nat) (l1 : List Int) (g2 : Nat) (A2 : Option Addr) (m2 s2 : Nat) (l2 : List Int) (at_ : Nat) (w : World) (hs1 : Sl w g1 (.slice A1 m1 s1) l1) (hn1 : m1 ≤ 140737488351232) (hg1 : l1 ≠ [] → g1 < w.heap.size) (hs2 : Sl w g2 (.slice A2 m2 s2) l2) (hn2 : m2 ≤ 140737488351232) (hg2 : l2 ≠ [] → g2 < w.heap.size) (z0 : 1 ≤ sz) (z1 : sz ≤ 32) (z2 : m1 ≤ 32) (ha : at_ ≤ m2) :
    Calls Try.prog 31 #[.int .i64 (sz : Int), .slice A1 m1 s1, .slice A2 m2 s2, .int .i64 (at_ : Int)] w fun e w' => ∃ v, e = .returned (.tuple #[v, .int .i64 0]) ∧ Nw w w' v (dig sz l1 l2) ∧ Fr (fun _ => False) w w' := by
  have HN : ∀ W, Fr (fun _ => False) w W → Calls Try.prog 18 #[.int .i64 (sz : Int), .slice A1 m1 s1] W fun e w' => ∃ g, W.heap.size ≤ g ∧ e = .returned (.tuple #[.pointer (some ⟨g, 0, none⟩), .int .i64 0]) ∧ HashAt w' g sz l1 [] ∧ Fr (fun _ => False) W w' := fun W hf => new_yes sz g1 A1 m1 s1 l1 W (hs1.fr hf (fun _ x => x)) z0 z1 z2
  have H2 := Lib.hid hs2
  have L2 := Lib.hid hs2.len
  have B2 := Lib.hid hn2
  have HA := Lib.hid ha
  have HC := Lib.hid hs2.cap
  have j1 : (at_ : Int) ≤ s2 := by have := HC.out; omega
  have j2 : 0 ≤ (at_ : Int) := by omega
  have j3 : ((at_ : Int)).toNat = at_ := by omega
  have j4 : (at_ : Int) ≤ m2 := by omega
  obtain ⟨A7, hA7⟩ : ∃ A, A = cutA A2 s2 at_ := ⟨_, rfl⟩
  have HV7 : Hid (Value.slice A7 (m2 - at_) (s2 - at_) = .slice (cutA A2 s2 at_) (m2 - at_) (s2 - at_)) := by show _ = _; rw [hA7]
  have HA7 := Lib.hid hA7
  clear hs1 hs2 hn1 hn2 hg1 hg2 z0 z1 z2 ha hA7
  go_enter Try.func31, Try.ntmps31
  go_upto_region 2 with (go_at_call 18; refine (HN _ (Fr.refl _ _)).mono ?_; rintro e w1 ⟨g, hg, rfl, hp, hf⟩; have HG := Lib.hid hg; have P1 := Lib.hid hp; have F1 := Lib.hid hf; clear hg hp hf)
  obtain ⟨gc, hgc, hsc, _⟩ := (H2.out.fr (Fr.refl (fun _ => False) w) (fun _ x => x)).apart H2.out.lt6 g HG.out
  have SC := Lib.hid (hsc.fr F1.out (fun _ x => x))
  have NC : Hid (gc ≠ g) := hgc
  have ST : Hid (Sl w1 gc (.slice A2 at_ s2) (l2.take at_)) := SC.out.take at_ (by rw [L2.out]; exact HA.out)
  clear hgc hsc HN
  go_upto_region 5 with (go_at_call 19; refine (hwrite_is g sz l1 [] gc A2 at_ s2 (l2.take at_) w1 P1.out ST.out NC.out (by have := HA.out; have := B2.out; simp; omega)).mono ?_; rintro e w2 ⟨rfl, hp, hf⟩; have P2 := Lib.hid hp; have F2 := Lib.hid hf; clear hp hf)
  have S2' := Lib.hid (SC.out.fr F2.out (fun _ e => NC.out e))
  have G2 : Hid (Fr (fun _ => False) w w2) := F1.out.trans' F2.out (fun j hj e => by have := HG.out; omega)
  clear P1 F1 ST SC F2
  go_upto_region 6 with (go_at_call 20; refine (hsum_is g sz l1 _ w2 P2.out).mono ?_; rintro e w3 ⟨v3, rfl, hn, hf⟩; have F3 := Lib.hid hf; clear hf hn)
  have P3 := Lib.hid (P2.out.fr F3.out (fun x => x))
  have S3 := Lib.hid (S2'.out.fr F3.out (fun _ x => x))
  have G3 := Lib.hid (G2.out.trans F3.out)
  have SD : Hid (Sl w3 gc (.slice A7 (m2 - at_) (s2 - at_)) (l2.drop at_)) := by rw [HA7.out]; exact S3.out.from_ at_ HA.out
  clear P2 S2' G2 F3 S3
  go_upto_region 7 with (first
    | refine wpList_plain rfl fun K' hK' => wp_value (.slice A7 (m2 - at_) (s2 - at_)) _ (run_slice_fromV (.tmp 29) (.tmp 30) A2 m2 s2 at_ (at_ : Int) _ rfl HV7.out HA.out HC.out rfl rfl rfl w3) (hK' _ _ ?_)
    | (go_at_call 19; refine (hwrite_is g sz l1 _ gc A7 (m2 - at_) (s2 - at_) (l2.drop at_) w3 P3.out SD.out NC.out (by have := HA.out; have := B2.out; have := L2.out; simp; omega)).mono ?_; rintro e w4 ⟨rfl, hp, hf⟩; have P4 := Lib.hid hp; have F4 := Lib.hid hf; clear hp hf))
  have P5 : Hid (HashAt w4 g sz l1 l2) := by
    have h := P4.out
    rwa [List.nil_append, List.take_append_drop] at h
  have G4 : Hid (Fr (fun _ => False) w w4) := G3.out.trans' F4.out (fun j hj e => by have := HG.out; omega)
  clear P3 P4 SD G3 F4
  go_wp2_with (go_at_call 20; refine (hsum_is g sz l1 l2 w4 P5.out).mono ?_; rintro e w5 ⟨v5, rfl, hn, hf⟩; have N5 := Lib.hid hn; have F5 := Lib.hid hf; clear hf hn)
  go_ret2
  exact ⟨_, rfl, N5.out.of G4.out, G4.out.trans F5.out⟩
set_option maxHeartbeats 8000000 in
theorem split_no (size : Int) (A1 : Option Addr) (m1 s1 : Nat) (A2 : Option Addr) (m2 s2 : Nat) (x : Int) (w : World) (h : size < 1 ∨ 32 < size ∨ 32 < m1) :
    Calls Try.prog 31 #[.int .i64 size, .slice A1 m1 s1, .slice A2 m2 s2, .int .i64 x] w fun e w' => e = .returned (.tuple #[.slice none 0 0, .int .i64 2]) ∧ Fr (fun _ => False) w w' := by
  have HN : ∀ W, Calls Try.prog 18 #[.int .i64 size, .slice A1 m1 s1] W fun e w' => e = .returned (.tuple #[.pointer none, .int .i64 2]) ∧ Fr (fun _ => False) W w' := fun W => new_no size A1 m1 s1 W h
  clear h
  go_enter Try.func31, Try.ntmps31
  go_wp2_with (go_at_call 18; refine (HN _).mono ?_; rintro e w1 ⟨rfl, hf⟩; have F1 := Lib.hid hf; clear hf)
  go_ret2
  exact ⟨rfl, F1.out⟩
theorem split_is (size : Int) (g1 : Nat) (A1 : Option Addr) (m1 s1 : Nat) (l1 : List Int) (g2 : Nat) (A2 : Option Addr) (m2 s2 : Nat) (l2 : List Int) (at_ : Nat) (w : World) (hs1 : Sl w g1 (.slice A1 m1 s1) l1) (hn1 : m1 ≤ 140737488351232) (hg1 : l1 ≠ [] → g1 < w.heap.size) (hs2 : Sl w g2 (.slice A2 m2 s2) l2) (hn2 : m2 ≤ 140737488351232) (hg2 : l2 ≠ [] → g2 < w.heap.size) (ha : at_ ≤ m2) :
    Calls Try.prog 31 #[.int .i64 size, .slice A1 m1 s1, .slice A2 m2 s2, .int .i64 (at_ : Int)] w fun e w' => ∃ v, e = .returned (.tuple #[v, .int .i64 (ofv size l1 l2).2]) ∧ Nw w w' v (ofv size l1 l2).1 ∧ Fr (fun _ => False) w w' := by
  have e1 := hs1.len
  unfold ofv
  by_cases h : size < 1 ∨ 32 < size ∨ 32 < l1.length
  · rw [if_pos h]
    exact (split_no size A1 m1 s1 A2 m2 s2 _ w (by omega)).mono fun e w' ⟨he, hf⟩ => ⟨_, he, Nw.nil _ _, hf⟩
  · rw [if_neg h]
    obtain ⟨sz, rfl⟩ : ∃ sz : Nat, size = sz := ⟨size.toNat, by omega⟩
    rw [Int.toNat_natCast]
    exact split_yes sz g1 A1 m1 s1 l1 g2 A2 m2 s2 l2 at_ w hs1 hn1 hg1 hs2 hn2 hg2 (by omega) (by omega) (by omega) ha
set_option maxRecDepth 100000 in
set_option maxHeartbeats 8000000 in
theorem split2_is (a0 : Int) (g1 : Nat) (A1 : Option Addr) (m1 s1 : Nat) (l1 : List Int) (g2 : Nat) (A2 : Option Addr) (m2 s2 : Nat) (l2 : List Int) (x : Int) (w : World) (ha : -9223372036854775808 ≤ a0 ∧ a0 ≤ 9223372036854775807) (hs1 : Sl w g1 (.slice A1 m1 s1) l1) (hn1 : m1 ≤ 140737488351232) (hg1 : l1 ≠ [] → g1 < w.heap.size) (hs2 : Sl w g2 (.slice A2 m2 s2) l2) (hn2 : m2 ≤ 140737488351232) (hg2 : l2 ≠ [] → g2 < w.heap.size) (hx : -9223372036854775808 ≤ x ∧ x ≤ 9223372036854775807) :
    Calls Try.prog 21 #[.int .i64 a0, .slice A1 m1 s1, .slice A2 m2 s2, .int .i64 x] w fun e w' => e = .returned (.bool true) ∧ Fr (fun _ => False) w w' := by
  obtain ⟨V, hV⟩ : ∃ V, V = (ofv a0 l1 l2).1 := ⟨_, rfl⟩
  obtain ⟨er, hE⟩ : ∃ x, x = (ofv a0 l1 l2).2 := ⟨_, rfl⟩
  have C1 : ∀ W, Fr (fun _ => False) w W → Calls Try.prog 12 #[.int .i64 a0, .slice A1 m1 s1, .slice A2 m2 s2] W fun e w' => ∃ v, e = .returned (.tuple #[v, .int .i64 er]) ∧ Nw W w' v V ∧ Fr (fun _ => False) W w' := fun W hf => by rw [hV, hE]; exact of_is a0 g1 A1 m1 s1 l1 g2 A2 m2 s2 l2 W ha (hs1.fr hf (fun _ x => x)) (hs2.fr hf (fun _ x => x)) hn1 hn2
  have C2 : ∀ W (at_ : Nat), at_ ≤ m2 → Fr (fun _ => False) w W → Calls Try.prog 31 #[.int .i64 a0, .slice A1 m1 s1, .slice A2 m2 s2, .int .i64 (at_ : Int)] W fun e w' => ∃ v, e = .returned (.tuple #[v, .int .i64 er]) ∧ Nw W w' v V ∧ Fr (fun _ => False) W w' := fun W at_ h hf => by
    rw [hV, hE]
    exact split_is a0 g1 A1 m1 s1 l1 g2 A2 m2 s2 l2 at_ W (hs1.fr hf (fun _ x => x)) hn1 (hs1.fr hf (fun _ x => x)).lt6 (hs2.fr hf (fun _ x => x)) hn2 (hs2.fr hf (fun _ x => x)).lt6 h
  have e1 := hs1.len
  have hc : (a0 < 1 ∧ er = 2) ∨ (¬ a0 < 1 ∧ 32 < a0 ∧ er = 2) ∨ (¬ a0 < 1 ∧ ¬ 32 < a0 ∧ (32 : Int) < m1 ∧ er = 2) ∨ (¬ a0 < 1 ∧ ¬ 32 < a0 ∧ ¬ (32 : Int) < m1 ∧ er = 0) := by
    by_cases h : a0 < 1 ∨ 32 < a0 ∨ 32 < l1.length
    · have h1 : er = 2 := by rw [hE, ofv, if_pos h]
      omega
    · have h1 : er = 0 := by rw [hE, ofv, if_neg h]
      omega
  have j0 : IntKind.i64.wrap ((m2 : Int) + 1) = ((m2 + 1 : Nat) : Int) := by rw [IntKind.wrap_i64]; omega
  have CB : ∀ W, Calls Try.prog 22 #[.int .i64 x, .int .i64 ((m2 + 1 : Nat) : Int)] W fun e w' => ∃ r : Nat, r < m2 + 1 ∧ e = .returned (.int .i64 r) ∧ Fr (fun _ => False) W w' := fun W => (bring_ex x (m2 + 1) W hx.1 hx.2 (by omega) (by omega)).mono fun e w' ⟨r, h1, h2, h3⟩ => ⟨r, h1, h2, by rw [← h3]; exact Fr.refl _ _⟩
  clear hV hE hs1 hs2 hn1 hn2 hg1 hg2 ha e1 hx
  rcases hc with ⟨j1, rfl⟩ | ⟨j1, j2, rfl⟩ | ⟨j1, j2, j3, rfl⟩ | ⟨j1, j2, j3, rfl⟩
  · have k1 : ¬ 1 ≤ a0 := by omega


    go_enter Try.func21, Try.ntmps21
    go_upto_region 2 with (first
      | (go_at_call 22; refine (CB _).mono ?_; rintro e w1 ⟨r, hr, rfl, hf⟩; have F1 := Lib.hid hf; have HR : Hid (r ≤ m2) := Nat.le_of_lt_succ hr; clear hf hr)
      | (go_at_call 31; refine (C2 _ r HR.out F1.out).mono ?_; rintro e w2 ⟨v, rfl, hn, hf⟩; have N2 := Lib.hid hn; have F2 := Lib.hid (F1.out.trans hf); clear hf hn))
    go_upto_region 3 with (go_at_call 12; refine (C1 _ F2.out).mono ?_; rintro e w3 ⟨u, rfl, hn, hf⟩; have N3 := Lib.hid hn; have G3 := Lib.hid hf; have F3 := Lib.hid (F2.out.trans hf); clear hf hn)
    obtain ⟨A, c, rfl⟩ := N2.out.shape
    obtain ⟨B, d, rfl⟩ := N3.out.shape
    have S2' := Lib.hid (N2.out.1.sl.fr G3.out (fun _ x => x))
    have S3' := Lib.hid N3.out.1.sl
    go_wp2_with (go_at_call 14; refine (eq_yes _ S2'.out S3'.out rfl).mono ?_; rintro e w4 ⟨rfl, hf⟩; have F4 := Lib.hid (F3.out.trans hf); clear hf)
    go_ret
    exact ⟨by first | rfl | (simp; done) | (simp; omega), F4.out⟩
  · have k1 : 1 ≤ a0 := by omega
    have k2 : ¬ a0 ≤ 32 := by omega

    go_enter Try.func21, Try.ntmps21
    go_upto_region 2 with (first
      | (go_at_call 22; refine (CB _).mono ?_; rintro e w1 ⟨r, hr, rfl, hf⟩; have F1 := Lib.hid hf; have HR : Hid (r ≤ m2) := Nat.le_of_lt_succ hr; clear hf hr)
      | (go_at_call 31; refine (C2 _ r HR.out F1.out).mono ?_; rintro e w2 ⟨v, rfl, hn, hf⟩; have N2 := Lib.hid hn; have F2 := Lib.hid (F1.out.trans hf); clear hf hn))
    go_upto_region 3 with (go_at_call 12; refine (C1 _ F2.out).mono ?_; rintro e w3 ⟨u, rfl, hn, hf⟩; have N3 := Lib.hid hn; have G3 := Lib.hid hf; have F3 := Lib.hid (F2.out.trans hf); clear hf hn)
    obtain ⟨A, c, rfl⟩ := N2.out.shape
    obtain ⟨B, d, rfl⟩ := N3.out.shape
    have S2' := Lib.hid (N2.out.1.sl.fr G3.out (fun _ x => x))
    have S3' := Lib.hid N3.out.1.sl
    go_wp2_with (go_at_call 14; refine (eq_yes _ S2'.out S3'.out rfl).mono ?_; rintro e w4 ⟨rfl, hf⟩; have F4 := Lib.hid (F3.out.trans hf); clear hf)
    go_ret
    exact ⟨by first | rfl | (simp; done) | (simp; omega), F4.out⟩
  · have k1 : 1 ≤ a0 := by omega
    have k2 : a0 ≤ 32 := by omega
    have k3 : ¬ (m1 : Int) ≤ 32 := by omega
    go_enter Try.func21, Try.ntmps21
    go_upto_region 2 with (first
      | (go_at_call 22; refine (CB _).mono ?_; rintro e w1 ⟨r, hr, rfl, hf⟩; have F1 := Lib.hid hf; have HR : Hid (r ≤ m2) := Nat.le_of_lt_succ hr; clear hf hr)
      | (go_at_call 31; refine (C2 _ r HR.out F1.out).mono ?_; rintro e w2 ⟨v, rfl, hn, hf⟩; have N2 := Lib.hid hn; have F2 := Lib.hid (F1.out.trans hf); clear hf hn))
    go_upto_region 3 with (go_at_call 12; refine (C1 _ F2.out).mono ?_; rintro e w3 ⟨u, rfl, hn, hf⟩; have N3 := Lib.hid hn; have G3 := Lib.hid hf; have F3 := Lib.hid (F2.out.trans hf); clear hf hn)
    obtain ⟨A, c, rfl⟩ := N2.out.shape
    obtain ⟨B, d, rfl⟩ := N3.out.shape
    have S2' := Lib.hid (N2.out.1.sl.fr G3.out (fun _ x => x))
    have S3' := Lib.hid N3.out.1.sl
    go_wp2_with (go_at_call 14; refine (eq_yes _ S2'.out S3'.out rfl).mono ?_; rintro e w4 ⟨rfl, hf⟩; have F4 := Lib.hid (F3.out.trans hf); clear hf)
    go_ret
    exact ⟨by first | rfl | (simp; done) | (simp; omega), F4.out⟩
  · have k1 : 1 ≤ a0 := by omega
    have k2 : a0 ≤ 32 := by omega
    have k3 : (m1 : Int) ≤ 32 := by omega
    go_enter Try.func21, Try.ntmps21
    go_upto_region 2 with (first
      | (go_at_call 22; refine (CB _).mono ?_; rintro e w1 ⟨r, hr, rfl, hf⟩; have F1 := Lib.hid hf; have HR : Hid (r ≤ m2) := Nat.le_of_lt_succ hr; clear hf hr)
      | (go_at_call 31; refine (C2 _ r HR.out F1.out).mono ?_; rintro e w2 ⟨v, rfl, hn, hf⟩; have N2 := Lib.hid hn; have F2 := Lib.hid (F1.out.trans hf); clear hf hn))
    go_upto_region 3 with (go_at_call 12; refine (C1 _ F2.out).mono ?_; rintro e w3 ⟨u, rfl, hn, hf⟩; have N3 := Lib.hid hn; have G3 := Lib.hid hf; have F3 := Lib.hid (F2.out.trans hf); clear hf hn)
    obtain ⟨A, c, rfl⟩ := N2.out.shape
    obtain ⟨B, d, rfl⟩ := N3.out.shape
    have S2' := Lib.hid (N2.out.1.sl.fr G3.out (fun _ x => x))
    have S3' := Lib.hid N3.out.1.sl
    go_wp2_with (go_at_call 14; refine (eq_yes _ S2'.out S3'.out rfl).mono ?_; rintro e w4 ⟨rfl, hf⟩; have F4 := Lib.hid (F3.out.trans hf); clear hf)
    go_ret
    exact ⟨by first | rfl | (simp; done) | (simp; omega), F4.out⟩
end Go.Proofs.Ytafpcaoccocpfaa
