/- AeadTexts answers true for all keys, nonces, ads and two texts, and its arguments read behind the call as they did: the given statement AeadTextsSaid. No condition. -/
import Derived.Test.YtbafppdmlhogbaaAw
namespace Go.Proofs.Ytbafppdmlhogbaa
set_option linter.unusedSimpArgs false
set_option linter.unusedVariables false
open Go.ChangeShapes Go.WideShapes Go.ChangeAt Go.RowKit

theorem x8_same {a b k : Int} (ha : 0 ≤ a ∧ a ≤ 255) (hb : 0 ≤ b ∧ b ≤ 255) (hk : 0 ≤ k ∧ k ≤ 255) : x8 (x8 a k) (x8 b k) = x8 a b := by
  obtain ⟨a, rfl⟩ := Int.eq_ofNat_of_zero_le ha.1
  obtain ⟨b, rfl⟩ := Int.eq_ofNat_of_zero_le hb.1
  obtain ⟨k, rfl⟩ := Int.eq_ofNat_of_zero_le hk.1
  have h1 : a ^^^ k < 2 ^ 8 := Nat.xor_lt_two_pow (by omega) (by omega)
  have h2 : b ^^^ k < 2 ^ 8 := Nat.xor_lt_two_pow (by omega) (by omega)
  rw [x8_nat a k (by omega) (by omega), x8_nat b k (by omega) (by omega), x8_nat a b (by omega) (by omega), x8_nat _ _ (by omega) (by omega)]
  congr 1
  rw [Nat.xor_assoc, Nat.xor_comm b k, ← Nat.xor_assoc k k b, Nat.xor_self, Nat.zero_xor]
theorem box_get {k n ad l : List Int} {i : Nat} (h : i < l.length) : (box k n ad l).getD i 0 = x8 (l.getD i 0) (ks k 1 n i) := by
  rw [box, ← xo_getD h]
  simp only [List.getD_eq_getElem?_getD, List.getElem?_append_left (show i < (xo k 1 n l).length by rw [xo_length]; exact h)]
theorem box_xor {k n ad be l m : List Int} {i : Nat} (h : i < l.length) (g : i < m.length) (bl : Bys l) (bm : Bys m) : bits .xor .u8 ((box k n ad l).getD i 0) ((box k n be m).getD i 0) = bits .xor .u8 (l.getD i 0) (m.getD i 0) := by
  rw [box_get h, box_get g]
  exact x8_same (bl _ (List.mem_of_getElem? (getD_some h))) (bm _ (List.mem_of_getElem? (getD_some g))) (ks_by _ _ _ _)
set_option maxRecDepth 100000 in
set_option maxHeartbeats 32000000 in
theorem law_texts_any (k0 n0 : List Int) (A0 : Option Addr) (m0 s0 g0 : Nat) (l0 : List Int) (B0 : Option Addr) (p0 r0 q0 : Nat) (t0 : List Int) (g1 : Nat) (A1 : Option Addr) (m1 s1 : Nat) (l1 : List Int) (w : World) (lk0 : k0.length = 32) (bk0 : Bys k0) (ln0 : n0.length = 12) (bn0 : Bys n0) (hs0 : Sl w g0 (.slice A0 m0 s0) l0) (ht0 : Sl w q0 (.slice B0 p0 r0) t0) (hm0 : m0 ≤ 140737488351232) (hp0 : p0 ≤ 140737488351232) (hs1 : Sl w g1 (.slice A1 m1 s1) l1) (hn1 : m1 ≤ 140737488351232) (hg1 : l1 ≠ [] → g1 < w.heap.size) :
    Calls Try.prog 10 #[.agg (ainn k0 n0 (.slice A0 m0 s0) (.slice B0 p0 r0)), .slice A1 m1 s1] w fun e w' => e = .returned (.bool true) ∧ Fr (fun _ => False) w w' := by
  have e2 := hs0.len
  have e3 := ht0.len
  have e4 := hs1.len
  have HS := Lib.hid hs0
  have HT := Lib.hid ht0
  have LK := Lib.hid lk0
  have LN := Lib.hid ln0
  have sK := Lib.hid (key_sz lk0)
  have sN := Lib.hid (nonce_sz ln0)
  have HS1 := Lib.hid hs1
  by_cases hlim : 4096 < l0.length ∨ 4096 < t0.length
  · have CS : ∀ W g2 A2 m2 c2 g3 A3 m3 c3, Sl W g2 (.slice A2 m2 c2) l0 → Sl W g3 (.slice A3 m3 c3) t0 → Calls Try.prog 16 #[.agg (vs .u8 k0), .agg (vs .u8 n0), .slice A2 m2 c2, .slice A3 m3 c3] W fun e w' => ∃ v, e = .returned (.tuple #[v, .int .i64 5]) ∧ Nw W w' v [] ∧ Fr (fun _ => False) W w' := fun W g2 A2 m2 c2 g3 A3 m3 c3 h2 h3 => by
      have h := seal_is k0 n0 g2 A2 m2 c2 l0 g3 A3 m3 c3 t0 W lk0 bk0 ln0 bn0 h2 h3
      rw [sealv, if_pos hlim] at h
      exact h
    obtain ⟨V2, hV2⟩ : ∃ x, x = (sealv k0 n0 [] l1).1 := ⟨_, rfl⟩
    obtain ⟨er, hE⟩ : ∃ x, x = (sealv k0 n0 [] l1).2 := ⟨_, rfl⟩
    have CT : ∀ W g2 A2 m2 c2 g3 A3 m3 c3, Sl W g2 (.slice A2 m2 c2) [] → Sl W g3 (.slice A3 m3 c3) l1 → Calls Try.prog 16 #[.agg (vs .u8 k0), .agg (vs .u8 n0), .slice A2 m2 c2, .slice A3 m3 c3] W fun e w' => ∃ v, e = .returned (.tuple #[v, .int .i64 er]) ∧ Nw W w' v V2 ∧ Fr (fun _ => False) W w' := fun W g2 A2 m2 c2 g3 A3 m3 c3 h2 h3 => by
      have h := seal_is k0 n0 g2 A2 m2 c2 [] g3 A3 m3 c3 l1 W lk0 bk0 ln0 bn0 h2 h3
      rw [← hV2, ← hE] at h
      exact h
    clear hlim e2 e3 e4 hV2 hE
    clear hs0 ht0 lk0 ln0 bk0 bn0 hm0 hp0 hs1 hn1 hg1
    go_enter Try.func10, Try.ntmps10
    go_upto_region 1 with (fail)
    have X0 : Hid ((w.alloc (.cells (ainn k0 n0 (.slice A0 m0 s0) (.slice B0 p0 r0)) 31)).heap[w.heap.size]? = some (.cells (ainn k0 n0 (.slice A0 m0 s0) (.slice B0 p0 r0)) 31 (0, 0))) := heap_alloc_new w _
    have F0 : Hid (Fr (fun _ => False) w (w.alloc (.cells (ainn k0 n0 (.slice A0 m0 s0) (.slice B0 p0 r0)) 31))) := (Fr.refl _ _).alloc _
    generalize w.alloc (.cells (ainn k0 n0 (.slice A0 m0 s0) (.slice B0 p0 r0)) 31) = W0 at *
    have cA := ainn_ad LK.out LN.out X0.out
    have cB := ainn_b LK.out LN.out X0.out
    go_upto_region 2 with (first
      | refine wpList_mid rfl 28 (.tmp 11) rfl (w.heap.size) 0 rfl .u8 k0 _ (ainn_key LK.out X0.out) Try.underlying28 rfl sK.out ?_
      | refine wpList_mid rfl 22 (.tmp 13) rfl (w.heap.size) 32 rfl .u8 n0 _ (ainn_nonce LK.out X0.out) Try.underlying22 rfl sN.out ?_
      | (go_at_call 16; refine (CS _ _ _ _ _ _ _ _ _ (HS.out.fr F0.out (fun _ x => x)) (HT.out.fr F0.out (fun _ x => x))).mono ?_; rintro e w1 ⟨v1, rfl, hn2, hf⟩; have N_v1 := Lib.hid hn2; have G_w1 := Lib.hid hf; clear hn2 hf))
    replace X0 := Lib.hid (Calm.at X0.out G_w1.out)
    have F1 := Lib.hid (F0.out.trans G_w1.out)
    clear cA cB
    have cA := ainn_ad LK.out LN.out X0.out
    have cB := ainn_b LK.out LN.out X0.out
    clear G_w1 F0
    go_upto_region 3 with (first
      | refine wpList_mid rfl 28 (.tmp 23) rfl (w.heap.size) 0 rfl .u8 k0 _ (ainn_key LK.out X0.out) Try.underlying28 rfl sK.out ?_
      | refine wpList_mid rfl 22 (.tmp 25) rfl (w.heap.size) 32 rfl .u8 n0 _ (ainn_nonce LK.out X0.out) Try.underlying22 rfl sN.out ?_
      | (go_at_call 16; refine (CT _ _ _ _ _ _ _ _ _ (Sl.nil _ 0) (HS1.out.fr F1.out (fun _ x => x))).mono ?_; rintro e w2 ⟨v2, rfl, hn2, hf⟩; have N_v2 := Lib.hid hn2; have G_w2 := Lib.hid hf; clear hn2 hf))
    replace X0 := Lib.hid (Calm.at X0.out G_w2.out)
    have F2 := Lib.hid (F1.out.trans G_w2.out)
    clear cA cB
    have cA := ainn_ad LK.out LN.out X0.out
    have cB := ainn_b LK.out LN.out X0.out
    replace N_v1 := Lib.hid (N_v1.out.fr G_w2.out (fun _ x => x))
    clear G_w2 F1
    go_wp2_with (go_at_call 21; refine (awake_is _).mono ?_; rintro e w5 ⟨rfl, hf⟩; have F5 := Lib.hid (F2.out.trans hf); clear hf)
    go_ret
    exact ⟨rfl, F5.out⟩
  · by_cases hlim1 : 4096 < l1.length
    · have CS : ∀ W g2 A2 m2 c2 g3 A3 m3 c3, Sl W g2 (.slice A2 m2 c2) l0 → Sl W g3 (.slice A3 m3 c3) t0 → Calls Try.prog 16 #[.agg (vs .u8 k0), .agg (vs .u8 n0), .slice A2 m2 c2, .slice A3 m3 c3] W fun e w' => ∃ v, e = .returned (.tuple #[v, .int .i64 0]) ∧ Nw W w' v (box k0 n0 l0 t0) ∧ Fr (fun _ => False) W w' := fun W g2 A2 m2 c2 g3 A3 m3 c3 h2 h3 => by
        have h := seal_is k0 n0 g2 A2 m2 c2 l0 g3 A3 m3 c3 t0 W lk0 bk0 ln0 bn0 h2 h3
        rw [sealv, if_neg hlim] at h
        exact h
      obtain ⟨V1, hV1⟩ : ∃ x, x = box k0 n0 l0 t0 := ⟨_, rfl⟩
      rw [← hV1] at CS
      have CT : ∀ W g2 A2 m2 c2 g3 A3 m3 c3, Sl W g2 (.slice A2 m2 c2) [] → Sl W g3 (.slice A3 m3 c3) l1 → Calls Try.prog 16 #[.agg (vs .u8 k0), .agg (vs .u8 n0), .slice A2 m2 c2, .slice A3 m3 c3] W fun e w' => ∃ v, e = .returned (.tuple #[v, .int .i64 5]) ∧ Nw W w' v [] ∧ Fr (fun _ => False) W w' := fun W g2 A2 m2 c2 g3 A3 m3 c3 h2 h3 => by
        have h := seal_is k0 n0 g2 A2 m2 c2 [] g3 A3 m3 c3 l1 W lk0 bk0 ln0 bn0 h2 h3
        rw [sealv, if_pos (.inr hlim1)] at h
        exact h
      clear hlim hlim1 e2 e3 e4 hV1
      clear hs0 ht0 lk0 ln0 bk0 bn0 hm0 hp0 hs1 hn1 hg1
      go_enter Try.func10, Try.ntmps10
      go_upto_region 1 with (fail)
      have X0 : Hid ((w.alloc (.cells (ainn k0 n0 (.slice A0 m0 s0) (.slice B0 p0 r0)) 31)).heap[w.heap.size]? = some (.cells (ainn k0 n0 (.slice A0 m0 s0) (.slice B0 p0 r0)) 31 (0, 0))) := heap_alloc_new w _
      have F0 : Hid (Fr (fun _ => False) w (w.alloc (.cells (ainn k0 n0 (.slice A0 m0 s0) (.slice B0 p0 r0)) 31))) := (Fr.refl _ _).alloc _
      generalize w.alloc (.cells (ainn k0 n0 (.slice A0 m0 s0) (.slice B0 p0 r0)) 31) = W0 at *
      have cA := ainn_ad LK.out LN.out X0.out
      have cB := ainn_b LK.out LN.out X0.out
      go_upto_region 2 with (first
        | refine wpList_mid rfl 28 (.tmp 11) rfl (w.heap.size) 0 rfl .u8 k0 _ (ainn_key LK.out X0.out) Try.underlying28 rfl sK.out ?_
        | refine wpList_mid rfl 22 (.tmp 13) rfl (w.heap.size) 32 rfl .u8 n0 _ (ainn_nonce LK.out X0.out) Try.underlying22 rfl sN.out ?_
        | (go_at_call 16; refine (CS _ _ _ _ _ _ _ _ _ (HS.out.fr F0.out (fun _ x => x)) (HT.out.fr F0.out (fun _ x => x))).mono ?_; rintro e w1 ⟨v1, rfl, hn2, hf⟩; have N_v1 := Lib.hid hn2; have G_w1 := Lib.hid hf; clear hn2 hf))
      replace X0 := Lib.hid (Calm.at X0.out G_w1.out)
      have F1 := Lib.hid (F0.out.trans G_w1.out)
      clear cA cB
      have cA := ainn_ad LK.out LN.out X0.out
      have cB := ainn_b LK.out LN.out X0.out
      clear G_w1 F0
      go_upto_region 3 with (first
        | refine wpList_mid rfl 28 (.tmp 23) rfl (w.heap.size) 0 rfl .u8 k0 _ (ainn_key LK.out X0.out) Try.underlying28 rfl sK.out ?_
        | refine wpList_mid rfl 22 (.tmp 25) rfl (w.heap.size) 32 rfl .u8 n0 _ (ainn_nonce LK.out X0.out) Try.underlying22 rfl sN.out ?_
        | (go_at_call 16; refine (CT _ _ _ _ _ _ _ _ _ (Sl.nil _ 0) (HS1.out.fr F1.out (fun _ x => x))).mono ?_; rintro e w2 ⟨v2, rfl, hn2, hf⟩; have N_v2 := Lib.hid hn2; have G_w2 := Lib.hid hf; clear hn2 hf))
      replace X0 := Lib.hid (Calm.at X0.out G_w2.out)
      have F2 := Lib.hid (F1.out.trans G_w2.out)
      clear cA cB
      have cA := ainn_ad LK.out LN.out X0.out
      have cB := ainn_b LK.out LN.out X0.out
      replace N_v1 := Lib.hid (N_v1.out.fr G_w2.out (fun _ x => x))
      clear G_w2 F1
      go_wp2_with (go_at_call 21; refine (awake_is _).mono ?_; rintro e w5 ⟨rfl, hf⟩; have F5 := Lib.hid (F2.out.trans hf); clear hf)
      go_ret
      exact ⟨rfl, F5.out⟩
    · have CS : ∀ W g2 A2 m2 c2 g3 A3 m3 c3, Sl W g2 (.slice A2 m2 c2) l0 → Sl W g3 (.slice A3 m3 c3) t0 → Calls Try.prog 16 #[.agg (vs .u8 k0), .agg (vs .u8 n0), .slice A2 m2 c2, .slice A3 m3 c3] W fun e w' => ∃ v, e = .returned (.tuple #[v, .int .i64 0]) ∧ Nw W w' v (box k0 n0 l0 t0) ∧ Fr (fun _ => False) W w' := fun W g2 A2 m2 c2 g3 A3 m3 c3 h2 h3 => by
        have h := seal_is k0 n0 g2 A2 m2 c2 l0 g3 A3 m3 c3 t0 W lk0 bk0 ln0 bn0 h2 h3
        rw [sealv, if_neg hlim] at h
        exact h
      obtain ⟨V1, hV1⟩ : ∃ x, x = box k0 n0 l0 t0 := ⟨_, rfl⟩
      rw [← hV1] at CS
      have CT : ∀ W g2 A2 m2 c2 g3 A3 m3 c3, Sl W g2 (.slice A2 m2 c2) [] → Sl W g3 (.slice A3 m3 c3) l1 → Calls Try.prog 16 #[.agg (vs .u8 k0), .agg (vs .u8 n0), .slice A2 m2 c2, .slice A3 m3 c3] W fun e w' => ∃ v, e = .returned (.tuple #[v, .int .i64 0]) ∧ Nw W w' v (box k0 n0 [] l1) ∧ Fr (fun _ => False) W w' := fun W g2 A2 m2 c2 g3 A3 m3 c3 h2 h3 => by
        have h := seal_is k0 n0 g2 A2 m2 c2 [] g3 A3 m3 c3 l1 W lk0 bk0 ln0 bn0 h2 h3
        rw [sealv, if_neg (by simp; omega)] at h
        exact h
      obtain ⟨V2, hV2⟩ : ∃ x, x = box k0 n0 [] l1 := ⟨_, rfl⟩
      rw [← hV2] at CT
      have lV1 : Hid (V1.length = p0 + 16) := by show _ = _; rw [hV1, box_length, e3]
      have lV2 : Hid (V2.length = m1 + 16) := by show _ = _; rw [hV2, box_length, e4]
      have HX : Unit → ∀ i, i < p0 → i < m1 → bits .xor .u8 (V1.getD i 0) (V2.getD i 0) = bits .xor .u8 (t0.getD i 0) (l1.getD i 0) := fun _ i h1 h2 => by
        rw [hV1, hV2]
        exact box_xor (by omega) (by omega) ht0.1 hs1.1
      have j1 : IntKind.i64.wrap ((p0 : Int) + 16) = (p0 : Int) + 16 := by rw [IntKind.wrap_i64]; omega
      have j2 : IntKind.i64.wrap ((m1 : Int) + 16) = (m1 : Int) + 16 := by rw [IntKind.wrap_i64]; omega
      obtain ⟨M, hM⟩ : ∃ M, M = min p0 m1 := ⟨_, rfl⟩
      have HMM : Hid (M ≤ p0 ∧ M ≤ m1 ∧ (M = p0 ∨ M = m1) ∧ M ≤ 4096) := by show _ ∧ _; omega
      clear hlim hlim1 e2 e3 e4 hV1 hV2 hM
      clear hs0 ht0 lk0 ln0 bk0 bn0 hm0 hp0 hs1 hn1 hg1
      go_enter Try.func10, Try.ntmps10
      go_upto_region 1 with (fail)
      have X0 : Hid ((w.alloc (.cells (ainn k0 n0 (.slice A0 m0 s0) (.slice B0 p0 r0)) 31)).heap[w.heap.size]? = some (.cells (ainn k0 n0 (.slice A0 m0 s0) (.slice B0 p0 r0)) 31 (0, 0))) := heap_alloc_new w _
      have F0 : Hid (Fr (fun _ => False) w (w.alloc (.cells (ainn k0 n0 (.slice A0 m0 s0) (.slice B0 p0 r0)) 31))) := (Fr.refl _ _).alloc _
      generalize w.alloc (.cells (ainn k0 n0 (.slice A0 m0 s0) (.slice B0 p0 r0)) 31) = W0 at *
      have cA := ainn_ad LK.out LN.out X0.out
      have cB := ainn_b LK.out LN.out X0.out
      go_upto_region 2 with (first
        | refine wpList_mid rfl 28 (.tmp 11) rfl (w.heap.size) 0 rfl .u8 k0 _ (ainn_key LK.out X0.out) Try.underlying28 rfl sK.out ?_
        | refine wpList_mid rfl 22 (.tmp 13) rfl (w.heap.size) 32 rfl .u8 n0 _ (ainn_nonce LK.out X0.out) Try.underlying22 rfl sN.out ?_
        | (go_at_call 16; refine (CS _ _ _ _ _ _ _ _ _ (HS.out.fr F0.out (fun _ x => x)) (HT.out.fr F0.out (fun _ x => x))).mono ?_; rintro e w1 ⟨v1, rfl, hn2, hf⟩; have N_v1 := Lib.hid hn2; have G_w1 := Lib.hid hf; clear hn2 hf))
      replace X0 := Lib.hid (Calm.at X0.out G_w1.out)
      have F1 := Lib.hid (F0.out.trans G_w1.out)
      clear cA cB
      have cA := ainn_ad LK.out LN.out X0.out
      have cB := ainn_b LK.out LN.out X0.out
      clear G_w1 F0
      go_upto_region 3 with (first
        | refine wpList_mid rfl 28 (.tmp 23) rfl (w.heap.size) 0 rfl .u8 k0 _ (ainn_key LK.out X0.out) Try.underlying28 rfl sK.out ?_
        | refine wpList_mid rfl 22 (.tmp 25) rfl (w.heap.size) 32 rfl .u8 n0 _ (ainn_nonce LK.out X0.out) Try.underlying22 rfl sN.out ?_
        | (go_at_call 16; refine (CT _ _ _ _ _ _ _ _ _ (Sl.nil _ 0) (HS1.out.fr F1.out (fun _ x => x))).mono ?_; rintro e w2 ⟨v2, rfl, hn2, hf⟩; have N_v2 := Lib.hid hn2; have G_w2 := Lib.hid hf; clear hn2 hf))
      replace X0 := Lib.hid (Calm.at X0.out G_w2.out)
      have F2 := Lib.hid (F1.out.trans G_w2.out)
      clear cA cB
      have cA := ainn_ad LK.out LN.out X0.out
      have cB := ainn_b LK.out LN.out X0.out
      replace N_v1 := Lib.hid (N_v1.out.fr G_w2.out (fun _ x => x))
      clear G_w2 F1
      obtain ⟨ga, ca, rfl, _, hca, hsa⟩ := N_v1.out.open (by have := lV1.out; omega)
      obtain ⟨gb, cb, rfl, _, hcb, hsb⟩ := N_v2.out.open (by have := lV2.out; omega)
      rw [lV1.out] at hsa ⊢
      rw [lV2.out] at hsb ⊢
      have S1 := Lib.hid hsa
      have S2 := Lib.hid hsb
      have QN := Lib.hid (heap_lt X0.out)
      clear hca hcb hsa hsb N_v1 N_v2 CS CT
      go_upto_region 8 with (fail)
      clear cA cB
      go_loopw [9] (fun u9 wr => ∃ i : Nat, u9 = .int .i64 i ∧ i ≤ M ∧ Hid (Fr (fun _ => False) w2 wr)) (fun u9 _ => M - (intOf u9).toNat)
      case atStart => exact ⟨0, rfl, by omega, Fr.refl _ _⟩
      case round =>
      obtain ⟨i, rfl, hi, hG⟩ := hrel
      have XW := Lib.hid (Calm.at X0.out hG.out)
      have FW := Lib.hid (F2.out.trans hG.out)
      have cB := ainn_b LK.out LN.out XW.out
      by_cases hil : i < M
      · have hip : i < p0 := by have := HMM.out; omega
        have him : i < m1 := by have := HMM.out; omega
        have j3 : (i : Int) < p0 := by omega
        have j4 : (i : Int) < m1 := by omega
        have j5 : ((i : Int)).toNat = i := by omega
        have j6 : 0 ≤ (i : Int) := by omega
        have j7 : (i : Int) < (p0 : Int) + 16 := by omega
        have j8 : (i : Int) < (m1 : Int) + 16 := by omega
        have j9 : IntKind.i64.wrap ((i : Int) + 1) = ((i + 1 : Nat) : Int) := by have := HMM.out; rw [IntKind.wrap_i64]; omega
        obtain ⟨oa, hoa, hca⟩ := (S1.out.fr hG.out (fun _ x => x)).at_ (by omega)
        injection hoa with hoa
        injection hoa with _ hoa _
        subst hoa
        obtain ⟨ob, hob, hcb⟩ := (S2.out.fr hG.out (fun _ x => x)).at_ (by omega)
        injection hob with hob
        injection hob with _ hob _
        subst hob
        obtain ⟨ot, rfl, hct⟩ := (HT.out.fr FW.out (fun _ x => x)).at_ (by omega)
        obtain ⟨ol, rfl, hcl⟩ := (HS1.out.fr FW.out (fun _ x => x)).at_ (by omega)
        have ca1 := hca i (by omega)
        have cb1 := hcb i (by omega)
        have ct1 := hct i hip
        have cl1 := hcl i him
        rw [Nat.zero_add] at ca1 cb1
        have hxx := HX () i hip him
        obtain ⟨xa, hxa⟩ : ∃ x, x = V1.getD i 0 := ⟨_, rfl⟩
        obtain ⟨xb, hxb⟩ : ∃ x, x = V2.getD i 0 := ⟨_, rfl⟩
        obtain ⟨xt, hxt⟩ : ∃ x, x = t0.getD i 0 := ⟨_, rfl⟩
        obtain ⟨xl, hxl⟩ : ∃ x, x = l1.getD i 0 := ⟨_, rfl⟩
        rw [← hxa] at ca1 hxx
        rw [← hxb] at cb1 hxx
        rw [← hxt] at ct1 hxx
        rw [← hxl] at cl1 hxx
        obtain ⟨z, hz2⟩ : ∃ z, bits .xor .u8 xt xl = z := ⟨_, rfl⟩
        rw [hz2] at hxx
        have CA1 := Lib.hid ca1
        have CB1 := Lib.hid cb1
        have CT1 := Lib.hid ct1
        have CL1 := Lib.hid cl1
        clear hca hcb hct hcl hxa hxb hxt hxl ca1 cb1 ct1 cl1
        go_upto_region 10 with (fail)
        refine wp_region_quiet (C := Calm wr) (by kernel_rfl) (by kernel_rfl) (Calm.start _ _ (Fr.refl _ _)) ?_
        refine BigFrame.wpQuiet_want rfl fun K hK => ?_
        try simp only [Act.put, List.setIfInBounds_toArray, List.set_cons_succ, List.set_cons_zero]
        go_big_quiet_op
        refine hK _ ?_
        refine BigFrame.wpQuiet_want rfl fun K hK => ?_
        try simp only [Act.put, List.setIfInBounds_toArray, List.set_cons_succ, List.set_cons_zero]
        go_big_quiet_op
        refine hK _ ?_
        refine BigFrame.wpQuiet_want rfl fun K hK => ?_
        try simp only [Act.put, List.setIfInBounds_toArray, List.set_cons_succ, List.set_cons_zero]
        go_big_quiet_op
        first
          | refine ⟨_, fun _ _ => rfl, hK _ ?_⟩
          | refine hK _ ?_
        refine BigFrame.wpQuiet_want rfl fun K hK => quiet_one 5 .u8 (.tmp 68) rfl (ga) (i) rfl (xa) Try.underlying5 (fun _ h => (World.cell?_of_block (w := wr) (Fr.block h _ (World.block_lt_of_cell? _ _ CA1.out) (fun x => x))).trans CA1.out) (hK _ ?_)
        refine BigFrame.wpQuiet_want rfl fun K hK => ?_
        try simp only [Act.put, List.setIfInBounds_toArray, List.set_cons_succ, List.set_cons_zero]
        go_big_quiet_op
        refine hK _ ?_
        refine BigFrame.wpQuiet_want rfl fun K hK => ?_
        try simp only [Act.put, List.setIfInBounds_toArray, List.set_cons_succ, List.set_cons_zero]
        go_big_quiet_op
        refine hK _ ?_
        refine BigFrame.wpQuiet_want rfl fun K hK => ?_
        try simp only [Act.put, List.setIfInBounds_toArray, List.set_cons_succ, List.set_cons_zero]
        go_big_quiet_op
        first
          | refine ⟨_, fun _ _ => rfl, hK _ ?_⟩
          | refine hK _ ?_
        refine BigFrame.wpQuiet_want rfl fun K hK => quiet_one 5 .u8 (.tmp 72) rfl (gb) (i) rfl (xb) Try.underlying5 (fun _ h => (World.cell?_of_block (w := wr) (Fr.block h _ (World.block_lt_of_cell? _ _ CB1.out) (fun x => x))).trans CB1.out) (hK _ ?_)
        refine BigFrame.wpQuiet_want rfl fun K hK => ?_
        try simp only [Act.put, List.setIfInBounds_toArray, List.set_cons_succ, List.set_cons_zero]
        go_big_quiet_op
        first
          | refine ⟨_, fun _ _ => rfl, hK _ ?_⟩
          | refine hK _ ?_
        refine BigFrame.wpQuiet_want rfl fun K hK => ?_
        try simp only [Act.put, List.setIfInBounds_toArray, List.set_cons_succ, List.set_cons_zero]
        go_big_quiet_op
        first
          | refine ⟨_, fun _ _ => rfl, hK _ ?_⟩
          | refine hK _ ?_
        refine BigFrame.wpQuiet_want rfl fun K hK => quiet_sl (.tmp 75) rfl (w.heap.size) 45 rfl _ p0 r0 (fun _ h => ainn_b LK.out LN.out (Calm.at XW.out h)) (hK _ ?_)
        refine BigFrame.wpQuiet_want rfl fun K hK => ?_
        try simp only [Act.put, List.setIfInBounds_toArray, List.set_cons_succ, List.set_cons_zero]
        go_big_quiet_op
        refine hK _ ?_
        refine BigFrame.wpQuiet_want rfl fun K hK => ?_
        try simp only [Act.put, List.setIfInBounds_toArray, List.set_cons_succ, List.set_cons_zero]
        go_big_quiet_op
        first
          | refine ⟨_, fun _ _ => rfl, hK _ ?_⟩
          | refine hK _ ?_
        refine BigFrame.wpQuiet_want rfl fun K hK => quiet_one 5 .u8 (.tmp 78) rfl (q0) (ot + i) rfl (xt) Try.underlying5 (fun _ h => (World.cell?_of_block (w := wr) (Fr.block h _ (World.block_lt_of_cell? _ _ CT1.out) (fun x => x))).trans CT1.out) (hK _ ?_)
        refine BigFrame.wpQuiet_want rfl fun K hK => ?_
        try simp only [Act.put, List.setIfInBounds_toArray, List.set_cons_succ, List.set_cons_zero]
        go_big_quiet_op
        refine hK _ ?_
        refine BigFrame.wpQuiet_want rfl fun K hK => ?_
        try simp only [Act.put, List.setIfInBounds_toArray, List.set_cons_succ, List.set_cons_zero]
        go_big_quiet_op
        refine hK _ ?_
        refine BigFrame.wpQuiet_want rfl fun K hK => ?_
        try simp only [Act.put, List.setIfInBounds_toArray, List.set_cons_succ, List.set_cons_zero]
        go_big_quiet_op
        first
          | refine ⟨_, fun _ _ => rfl, hK _ ?_⟩
          | refine hK _ ?_
        refine BigFrame.wpQuiet_want rfl fun K hK => quiet_one 5 .u8 (.tmp 82) rfl (g1) (ol + i) rfl (xl) Try.underlying5 (fun _ h => (World.cell?_of_block (w := wr) (Fr.block h _ (World.block_lt_of_cell? _ _ CL1.out) (fun x => x))).trans CL1.out) (hK _ ?_)
        refine BigFrame.wpQuiet_want rfl fun K hK => ?_
        try simp only [Act.put, List.setIfInBounds_toArray, List.set_cons_succ, List.set_cons_zero]
        go_big_quiet_op
        first
          | refine ⟨_, fun _ _ => rfl, hK _ ?_⟩
          | refine hK _ ?_
        refine BigFrame.wpQuiet_want rfl fun K hK => ?_
        try simp only [Act.put, List.setIfInBounds_toArray, List.set_cons_succ, List.set_cons_zero]
        go_big_quiet_op
        first
          | refine ⟨_, fun _ _ => rfl, hK _ ?_⟩
          | refine hK _ ?_
        refine wpQuiet_nil ?_
        intro w9 hw9
        have F9 : Hid (Fr (fun _ => False) w w9) := FW.out.trans hw9
        have G9 := Lib.hid hw9
        clear hw9
        try simp only [Act.put, List.setIfInBounds_toArray, List.set_cons_succ, List.set_cons_zero]
        clear hz2 hxx cB
        try simp only [ne_eq, not_true_eq_false, decide_false, decide_true, Bool.not_true]
        go_wp2
        go_roundw
        case rel => exact ⟨i + 1, by first | rfl | go_num, by omega, hG.out.trans G9.out⟩
        case measure => simp [intOf]; omega
      have hcase : ¬ (i : Int) < p0 ∨ ((i : Int) < p0 ∧ ¬ (i : Int) < m1) := by have := HMM.out; omega
      clear HX HMM
      rcases hcase with j3 | ⟨j3, j4⟩
      all_goals
        go_wp2_with (go_at_call 21; refine (awake_is _).mono ?_; rintro e w5 ⟨rfl, hf⟩; have F5 := Lib.hid (FW.out.trans hf); clear hf)
        go_ret
        exact ⟨rfl, F5.out⟩

set_option maxRecDepth 100000 in
theorem law_texts_lifted (os : Os) (started : os.Started) (H : Type) (enc : TypeId × Value → H) :
    ReturnsInHanded {} Try.checked os 10 .any (Rows.aeadTextsSpec.pre6 enc Try.prog Try.f10 Rows.aeadTextsRow.domain false) (Rows.aeadTextsSpec.post enc Try.prog Try.f10 false true false false) := by
  refine returnsInHanded_of_change_sized (C := Try.checked) own started (by kernel_rfl) Try.func10
    (ChangeSpec.witness6 (enc := enc) (C := Try.checked) false ⟨#[], #[.agg (ainn (List.replicate 32 0) (List.replicate 12 0) (.slice none 0 0) (.slice none 0 0)), .slice none 0 0], []⟩ 8 (by kernel_rfl) (by kernel_rfl) (by kernel_rfl) (by kernel_rfl)) ?_
  intro W base args ds gs before hval0 hW hcnd hsz0 _
  have hsz : (DataW.weightsEach Try.prog (Try.f10.params.toList ++ Rows.aeadTextsSpec.plain.varTypes Try.prog) (ds ++ gs)).all (· ≤ reachBytes) = true := hsz0
  clear hsz0
  have hval : ∀ (j : Nat) t v, Try.f10.params[j]? = some t → args[j]? = some v → Value.okWide Try.prog W .any base t v := hval0
  have hW' := hW
  obtain ⟨p, q, hA0, hV, rfl, hfz, hnd⟩ := hW
  have hA : DataW.TrodAll enc Try.prog W 0 (fun _ => true) true Try.f10.params.toList args.toList ds p := hA0
  rw [Try.params10] at hA hval hsz
  obtain ⟨v0, vs0, d0, ds0, p0, q0, hargs, rfl, rfl, h0, r0⟩ := trodAll_cons hA
  obtain ⟨v1, vs1, d1, ds1, p1, q1, rfl, rfl, rfl, h1, r1⟩ := trodAll_cons r0
  obtain ⟨rfl, rfl, rfl⟩ := trodAll_nil r1
  obtain rfl : args = #[v0, v1] := by cases args; simp_all
  obtain ⟨rfl, rfl⟩ := trodVars_none hV
  have hlt0 : ∀ x ∈ p0, x.block < W.heap.size := fun x hx => hW'.lt x (by simp [hx])
  have hlt1 : ∀ x ∈ p1, x.block < W.heap.size := fun x hx => hW'.lt x (by simp [hx])
  obtain ⟨k0, n0, A0, m0, s0, g0, l0, B0, pz0, rz0, qz0, t0, x0, x1, x2, x3, rfl, rfl, lk0, bk0, ln0, bn0, hs0, ht0, y2, y3⟩ := open_in (hval 0 31 v0 rfl rfl) h0 hlt0
  have hm0 : m0 ≤ 140737488351232 := by
    rcases y2 with e | ⟨el, sp, rfl, hle⟩
    · omega
    · obtain ⟨f0, f1, f2, f3, hu, t0, o0, t1, o1, t2, o2, t3, o3⟩ := under_in
      have := sized_field hsz (j := 0) (m := 2) (s := 29) (e := 5) rfl rfl hu (by simp [t0, t1, t2, t3]) rfl Try.underlying29
      rw [Try.bytes5] at this
      simp only [reachBytes] at this
      omega
  have hpz0 : pz0 ≤ 140737488351232 := by
    rcases y3 with e | ⟨el, sp, rfl, hle⟩
    · omega
    · obtain ⟨f0, f1, f2, f3, hu, t0, o0, t1, o1, t2, o2, t3, o3⟩ := under_in
      have := sized_field hsz (j := 0) (m := 3) (s := 29) (e := 5) rfl rfl hu (by simp [t0, t1, t2, t3]) rfl Try.underlying29
      rw [Try.bytes5] at this
      simp only [reachBytes] at this
      omega
  obtain ⟨A1, m1, s1, g1, l1, rfl, hs1, hg1⟩ := open_sl (hval 1 29 v1 rfl rfl) h1 hlt1
  have hn1 : m1 ≤ 140737488351232 := by
    rcases open_len h1 with e | ⟨el, sp, rfl, hle⟩
    · omega
    · have := sized_slice hsz (j := 1) (t := 29) (e := 5) rfl rfl Try.underlying29
      rw [Try.bytes5] at this
      simp only [reachBytes] at this
      omega
  clear hA0 hval0
  refine (law_texts_any k0 n0 A0 m0 s0 g0 l0 B0 pz0 rz0 qz0 t0 g1 A1 m1 s1 l1 W lk0 bk0 ln0 bn0 hs0 ht0 hm0 hpz0 hs1 hn1 hg1).mono fun e W' ⟨he, hg⟩ => ?_
  subst he
  exact ⟨_, rfl, post_true rfl hW' (by kernel_rfl) rfl rfl hg⟩

theorem aeadTexts_holds : Rows.AeadTextsSaid :=
  OpenClaim.holds_of_wide 10 Try.f10 rfl rfl rfl rfl rfl rfl rfl ⟨rfl, rfl, rfl, rfl, rfl⟩ rfl rfl rfl rfl rfl (by kernel_rfl) Try.func10 (by kernel_rfl)
    (of_decide_eq_true (by kernel_rfl)) (by unfold Func.isWrapper; first | (rw [if_pos (by decide +kernel)]; kernel_rfl) | (rw [if_neg (by decide +kernel)]; exact ⟨rfl, rfl⟩))
    (fun os started H enc _ => law_texts_lifted os started H enc)
#print axioms aeadTexts_holds
end Go.Proofs.Ytbafppdmlhogbaa
