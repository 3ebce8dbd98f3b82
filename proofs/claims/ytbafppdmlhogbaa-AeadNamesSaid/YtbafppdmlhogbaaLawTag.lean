/- AeadTag answers true for all keys, nonces, ads and texts, and tags, and its arguments read behind the call as they did: the given statement AeadTagSaid. No condition. -/
import Derived.Test.YtbafppdmlhogbaaAw
import Derived.Test.YtbafppdmlhogbaaSp
namespace Go.Proofs.Ytbafppdmlhogbaa
set_option linter.unusedSimpArgs false
set_option linter.unusedVariables false
open Go.ChangeShapes Go.WideShapes Go.ChangeAt Go.RowKit

theorem Nw.row {W0 w : World} {v : Value} {l : List Int} (h : Nw W0 w v l) (h0 : 0 < l.length) : ∃ g c cur, v = .slice (some ⟨g, 0, none⟩) l.length c ∧ W0.heap.size ≤ g ∧ l.length ≤ c ∧ c ≤ maxLen ∧ w.heap[g]? = some (.cells cur 5 (0, 0)) ∧ cur.size = c ∧ cur.toList.take l.length = bs l := by
  rcases h.1.1.2 with ⟨_, e⟩ | ⟨g, cap, cur, hv, _, hh, hn, hm, hs, ht⟩
  · omega
  · rw [Nat.mul_one] at hs ht
    exact ⟨g, cap, cur, hv, h.2 g (by rw [hv]; rfl), hn, hm, hh, by omega, ht⟩
/-- A row whose end was written anew. -/
theorem sl_end {w : World} {g c p : Nat} {cur : Array Value} {V k : List Int} (hh : w.heap[g]? = some (.cells cur 5 (0, 0))) (hV : V.length = p + k.length) (hc : p + k.length ≤ c) (hm : c ≤ maxLen) (ht : cur.toList.take V.length = bs V) (bV : Bys V) (bk : Bys k) :
    Sl (w.setRow g (cur.toList.take p ++ bs k ++ cur.toList.drop (p + (bs k).length)).toArray) g (.slice (some ⟨g, 0, none⟩) (p + k.length) c) (V.take p ++ k) := by
  have hl : (V.take p ++ k).length = p + k.length := by rw [List.length_append, List.length_take]; omega
  have e : cur.toList.take p = bs (V.take p) := by
    have : cur.toList.take p = (cur.toList.take V.length).take p := by rw [List.take_take, Nat.min_eq_left (by omega)]
    rw [this, ht]
    simp [bs, List.map_take]
  have h := Sl.block (c := c) (l := V.take p ++ k) (Bys.append (bV.take p) bk) (setRow_heap w g cur (cur.toList.take p ++ bs k ++ cur.toList.drop (p + (bs k).length)).toArray 5 (0, 0) hh) (fun j hj => by
    rw [e, List.getElem?_toArray, bs_append, List.getElem?_append_left (by simpa [bs] using hj)]) (by rw [hl]; exact hc) hm
  rwa [hl] at h
theorem openv_end {k n ad X t : List Int} (ha : ad.length ≤ 4096) (hX : X.length ≤ 4096) (ht : t.length = 16) :
    openv k n ad (X ++ t) = if atag k n ad X = t then (xo k 1 n X, 0) else ([], 60) := by
  unfold openv
  have e : (X ++ t).length - 16 = X.length := by simp [ht]
  rw [if_neg (by simp [ht]; omega), if_neg (by simp [ht]), e, List.take_left', List.drop_left']
  · rfl
  · rfl
set_option maxRecDepth 100000 in
set_option maxHeartbeats 32000000 in
theorem law_tag_any (k0 n0 : List Int) (A0 : Option Addr) (m0 s0 g0 : Nat) (l0 : List Int) (B0 : Option Addr) (p0 r0 q0 : Nat) (t0 : List Int) (k1 : List Int) (w : World) (lk0 : k0.length = 32) (bk0 : Bys k0) (ln0 : n0.length = 12) (bn0 : Bys n0) (hs0 : Sl w g0 (.slice A0 m0 s0) l0) (ht0 : Sl w q0 (.slice B0 p0 r0) t0) (hm0 : m0 ≤ 140737488351232) (hp0 : p0 ≤ 140737488351232) (lk1 : k1.length = 16) (bk1 : Bys k1) :
    Calls Try.prog 8 #[.agg (ainn k0 n0 (.slice A0 m0 s0) (.slice B0 p0 r0)), .agg (vs .u8 k1)] w fun e w' => e = .returned (.bool true) ∧ Fr (fun _ => False) w w' := by
  have e2 := hs0.len
  have e3 := ht0.len
  have HS := Lib.hid hs0
  have HT := Lib.hid ht0
  have LK := Lib.hid lk0
  have LN := Lib.hid ln0
  have sK := Lib.hid (key_sz lk0)
  have sN := Lib.hid (nonce_sz ln0)
  by_cases hlim : 4096 < l0.length ∨ 4096 < t0.length
  · have CS : ∀ W g2 A2 m2 c2 g3 A3 m3 c3, Sl W g2 (.slice A2 m2 c2) l0 → Sl W g3 (.slice A3 m3 c3) t0 → Calls Try.prog 16 #[.agg (vs .u8 k0), .agg (vs .u8 n0), .slice A2 m2 c2, .slice A3 m3 c3] W fun e w' => ∃ v, e = .returned (.tuple #[v, .int .i64 5]) ∧ Nw W w' v [] ∧ Fr (fun _ => False) W w' := fun W g2 A2 m2 c2 g3 A3 m3 c3 h2 h3 => by
      have h := seal_is k0 n0 g2 A2 m2 c2 l0 g3 A3 m3 c3 t0 W lk0 bk0 ln0 bn0 h2 h3
      rw [sealv, if_pos hlim] at h
      exact h
    clear hlim e2 e3
    clear hs0 ht0 lk0 ln0 bk0 bn0 hm0 hp0 lk1 bk1
    go_enter Try.func8, Try.ntmps8
    go_upto_region 1 with (fail)
    have X0 : Hid (((w.alloc (.cells (ainn k0 n0 (.slice A0 m0 s0) (.slice B0 p0 r0)) 31)).alloc (.cells (vs .u8 k1) 38)).heap[w.heap.size]? = some (.cells (ainn k0 n0 (.slice A0 m0 s0) (.slice B0 p0 r0)) 31 (0, 0))) := heap_alloc2_old w _ _
    have T0 : Hid (Ar ((w.alloc (.cells (ainn k0 n0 (.slice A0 m0 s0) (.slice B0 p0 r0)) 31)).alloc (.cells (vs .u8 k1) 38)) (w.heap.size + 1) 38 .u8 k1) := heap_alloc2_new w _ _
    have F0 : Hid (Fr (fun _ => False) w ((w.alloc (.cells (ainn k0 n0 (.slice A0 m0 s0) (.slice B0 p0 r0)) 31)).alloc (.cells (vs .u8 k1) 38))) := ((Fr.refl _ _).alloc _).alloc _
    generalize (w.alloc (.cells (ainn k0 n0 (.slice A0 m0 s0) (.slice B0 p0 r0)) 31)).alloc (.cells (vs .u8 k1) 38) = W0 at *
    have cA := ainn_ad LK.out LN.out X0.out
    have cB := ainn_b LK.out LN.out X0.out
    go_upto_region 2 with (first
      | refine wpList_mid rfl 28 (.tmp 12) rfl (w.heap.size) 0 rfl .u8 k0 _ (ainn_key LK.out X0.out) Try.underlying28 rfl sK.out ?_
      | refine wpList_mid rfl 22 (.tmp 14) rfl (w.heap.size) 32 rfl .u8 n0 _ (ainn_nonce LK.out X0.out) Try.underlying22 rfl sN.out ?_
      | (go_at_call 16; refine (CS _ _ _ _ _ _ _ _ _ (HS.out.fr F0.out (fun _ x => x)) (HT.out.fr F0.out (fun _ x => x))).mono ?_; rintro e w1 ⟨v1, rfl, hn2, hf⟩; have N_v1 := Lib.hid hn2; have G_w1 := Lib.hid hf; clear hn2 hf))
    replace X0 := Lib.hid (Calm.at X0.out G_w1.out)
    have F1 := Lib.hid (F0.out.trans G_w1.out)
    clear cA cB
    have cA := ainn_ad LK.out LN.out X0.out
    have cB := ainn_b LK.out LN.out X0.out
    clear G_w1 F0
    go_wp2_with (go_at_call 21; refine (awake_is _).mono ?_; rintro e w5 ⟨rfl, hf⟩; have F5 := Lib.hid (F1.out.trans hf); clear hf)
    go_ret
    exact ⟨rfl, F5.out⟩
  · obtain ⟨V, hV⟩ : ∃ x, x = box k0 n0 l0 t0 := ⟨_, rfl⟩
    have CS : ∀ W g2 A2 m2 c2 g3 A3 m3 c3, Sl W g2 (.slice A2 m2 c2) l0 → Sl W g3 (.slice A3 m3 c3) t0 → Calls Try.prog 16 #[.agg (vs .u8 k0), .agg (vs .u8 n0), .slice A2 m2 c2, .slice A3 m3 c3] W fun e w' => ∃ v, e = .returned (.tuple #[v, .int .i64 0]) ∧ Nw W w' v V ∧ Fr (fun _ => False) W w' := fun W g2 A2 m2 c2 g3 A3 m3 c3 h2 h3 => by
      have h := seal_is k0 n0 g2 A2 m2 c2 l0 g3 A3 m3 c3 t0 W lk0 bk0 ln0 bn0 h2 h3
      rw [sealv, if_neg hlim, ← hV] at h
      exact h
    obtain ⟨O, hO⟩ : ∃ x, x = V.take p0 ++ k1 := ⟨_, rfl⟩
    have hO2 : O = xo k0 1 n0 t0 ++ k1 := by rw [hO, hV, ← e3, box_take]
    have hcase : ∃ R er, openv k0 n0 l0 O = (R, er) ∧ ((O = V ∧ R = t0 ∧ er = 0) ∨ (O ≠ V ∧ R = [] ∧ er = 60)) := by
      have h := openv_end (k := k0) (n := n0) (ad := l0) (X := xo k0 1 n0 t0) (t := k1) (by omega) (by rw [xo_length]; omega) lk1
      rw [hO2, h]
      by_cases hk : atag k0 n0 l0 (xo k0 1 n0 t0) = k1
      · rw [if_pos hk, xo_xo ht0.1]
        exact ⟨_, _, rfl, .inl ⟨by rw [hV, box, hk], rfl, rfl⟩⟩
      · rw [if_neg hk]
        refine ⟨_, _, rfl, .inr ⟨fun e => hk ?_, rfl, rfl⟩⟩
        rw [hV, box] at e
        exact (List.append_cancel_left e).symm
    obtain ⟨R, er, hop, hcase⟩ := hcase
    have CO : ∀ W g2 A2 m2 c2 g3 A3 m3 c3, Sl W g2 (.slice A2 m2 c2) l0 → Sl W g3 (.slice A3 m3 c3) O → Calls Try.prog 19 #[.agg (vs .u8 k0), .agg (vs .u8 n0), .slice A2 m2 c2, .slice A3 m3 c3] W fun e w' => ∃ v, e = .returned (.tuple #[v, .int .i64 er]) ∧ Nw W w' v R ∧ Fr (fun _ => False) W w' := fun W g2 A2 m2 c2 g3 A3 m3 c3 h2 h3 => by
      have h := open_is k0 n0 g2 A2 m2 c2 l0 g3 A3 m3 c3 O W lk0 bk0 ln0 bn0 h2 h3
      rw [hop] at h
      exact h
    have HC := Lib.hid hcase
    have lV : Hid (V.length = p0 + 16) := by show _ = _; rw [hV, box_length, e3]
    have bV : Hid (Bys V) := by rw [hV]; exact box_bys ht0.1
    have HO : Unit → V.take p0 ++ k1 = O := fun _ => hO.symm
    have L1 := Lib.hid lk1
    have B1 := Lib.hid bk1
    have hp4 : p0 ≤ 4096 := by omega
    have j1 : IntKind.i64.wrap ((p0 : Int) + 16 - 16) = (p0 : Int) := by rw [IntKind.wrap_i64]; omega
    have j2 : IntKind.i64.wrap (p0 : Int) = (p0 : Int) := by rw [IntKind.wrap_i64]; omega
    have j3 : ¬ (p0 : Int) + 16 < 16 := by omega
    have j4 : 0 ≤ (p0 : Int) := by omega
    have j5 : ((p0 : Int)).toNat = p0 := by omega
    have j6 : (p0 : Int) ≤ (p0 : Int) + 16 := by omega
    clear hlim e2 e3 hV hO hO2 hop hcase
    clear hs0 ht0 lk0 ln0 bk0 bn0 hm0 hp0 lk1 bk1
    go_enter Try.func8, Try.ntmps8
    go_upto_region 1 with (fail)
    have X0 : Hid (((w.alloc (.cells (ainn k0 n0 (.slice A0 m0 s0) (.slice B0 p0 r0)) 31)).alloc (.cells (vs .u8 k1) 38)).heap[w.heap.size]? = some (.cells (ainn k0 n0 (.slice A0 m0 s0) (.slice B0 p0 r0)) 31 (0, 0))) := heap_alloc2_old w _ _
    have T0 : Hid (Ar ((w.alloc (.cells (ainn k0 n0 (.slice A0 m0 s0) (.slice B0 p0 r0)) 31)).alloc (.cells (vs .u8 k1) 38)) (w.heap.size + 1) 38 .u8 k1) := heap_alloc2_new w _ _
    have F0 : Hid (Fr (fun _ => False) w ((w.alloc (.cells (ainn k0 n0 (.slice A0 m0 s0) (.slice B0 p0 r0)) 31)).alloc (.cells (vs .u8 k1) 38))) := ((Fr.refl _ _).alloc _).alloc _
    generalize (w.alloc (.cells (ainn k0 n0 (.slice A0 m0 s0) (.slice B0 p0 r0)) 31)).alloc (.cells (vs .u8 k1) 38) = W0 at *
    have cA := ainn_ad LK.out LN.out X0.out
    have cB := ainn_b LK.out LN.out X0.out
    go_upto_region 2 with (first
      | refine wpList_mid rfl 28 (.tmp 12) rfl (w.heap.size) 0 rfl .u8 k0 _ (ainn_key LK.out X0.out) Try.underlying28 rfl sK.out ?_
      | refine wpList_mid rfl 22 (.tmp 14) rfl (w.heap.size) 32 rfl .u8 n0 _ (ainn_nonce LK.out X0.out) Try.underlying22 rfl sN.out ?_
      | (go_at_call 16; refine (CS _ _ _ _ _ _ _ _ _ (HS.out.fr F0.out (fun _ x => x)) (HT.out.fr F0.out (fun _ x => x))).mono ?_; rintro e w1 ⟨v1, rfl, hn2, hf⟩; have N_v1 := Lib.hid hn2; have G_w1 := Lib.hid hf; clear hn2 hf))
    replace X0 := Lib.hid (Calm.at X0.out G_w1.out)
    have F1 := Lib.hid (F0.out.trans G_w1.out)
    clear cA cB
    have cA := ainn_ad LK.out LN.out X0.out
    have cB := ainn_b LK.out LN.out X0.out
    replace T0 := Lib.hid (T0.out.fr G_w1.out (fun x => x))
    clear G_w1 F0
    obtain ⟨ga, ca, rfl, _, hca, hsa⟩ := N_v1.out.open (by have := lV.out; omega)
    rw [lV.out] at hsa ⊢
    have S1 := Lib.hid hsa
    clear hca hsa N_v1 CS
    go_upto_region 7 with (fail)
    go_upto_region 8 with (go_at_call 15; refine (copy_new w1 w1 S1.out (by omega) (Fr.refl _ _)).mono ?_; rintro e w2 ⟨v2, rfl, hn2, hf⟩; have N_v2 := Lib.hid hn2; have G_w2 := Lib.hid hf; clear hn2 hf)
    have SZ1 : Hid (w.heap.size + 1 < w1.heap.size ∧ ga < w1.heap.size) := ⟨T0.out.lt, S1.out.lt6 (fun e => by have := lV.out; rw [e] at this; simp at this)⟩
    replace X0 := Lib.hid (Calm.at X0.out G_w2.out)
    have F2 := Lib.hid (F1.out.trans G_w2.out)
    clear cA cB
    have cA := ainn_ad LK.out LN.out X0.out
    have cB := ainn_b LK.out LN.out X0.out
    replace T0 := Lib.hid (T0.out.fr G_w2.out (fun x => x))
    replace S1 := Lib.hid (S1.out.fr G_w2.out (fun _ x => x))
    have SZ2 := Lib.hid G_w2.out.size
    clear G_w2 F1
    obtain ⟨g2, c2, cur, rfl, hg2, hc2, hm2, hh2, hs2, ht2⟩ := N_v2.out.row (by have := lV.out; omega)
    have HR := Lib.hid (And.intro hh2 ht2)
    rw [lV.out] at hc2 ⊢
    have j7 : ¬ c2 = p0 := by omega
    have j8 : (p0 : Int) ≤ c2 := by omega
    have j9 : (p0 : Int) + 16 ≤ c2 := by omega
    have HM2 := Lib.hid (And.intro hm2 (And.intro hc2 (And.intro hg2 hs2)))
    clear hh2 hs2 ht2 hc2 hm2 hg2 N_v2 cA cB
    refine wp_region_quiet_tail (C := Calm w2) 4 (by kernel_rfl) (by kernel_rfl) (Calm.start _ _ (Fr.refl _ _)) ?_
    simp only [List.take_succ_cons, List.take_zero, List.drop_succ_cons, List.drop_zero]
    refine BigFrame.wpQuiet_want rfl fun K hK => ?_
    try simp only [Act.put, List.setIfInBounds_toArray, List.set_cons_succ, List.set_cons_zero]
    go_big_quiet_op
    refine hK _ ?_
    refine BigFrame.wpQuiet_want rfl fun K hK => ?_
    try simp only [Act.put, List.setIfInBounds_toArray, List.set_cons_succ, List.set_cons_zero]
    go_big_quiet_op
    refine hK _ ?_
    refine BigFrame.wpQuiet_want rfl fun K hK => ?_
    try simp only [Act.put, List.setIfInBounds_toArray, List.set_cons_succ, List.set_cons_zero]
    go_big_quiet_op
    first
      | refine ⟨_, fun _ _ => rfl, hK _ ?_⟩
      | refine hK _ ?_
    refine BigFrame.wpQuiet_want rfl fun K hK => ?_
    try simp only [Act.put, List.setIfInBounds_toArray, List.set_cons_succ, List.set_cons_zero]
    go_big_quiet_op
    first
      | refine ⟨_, fun _ _ => rfl, hK _ ?_⟩
      | refine hK _ ?_
    refine wpQuiet_nil ?_
    intro w9 hw9
    have F9 : Hid (Fr (fun _ => False) w w9) := F2.out.trans hw9
    have G9 := Lib.hid hw9
    clear hw9
    try simp only [Act.put, List.setIfInBounds_toArray, List.set_cons_succ, List.set_cons_zero]
    have HR9 := Lib.hid (Calm.at HR.out.1 G9.out)
    have T9 := Lib.hid (T0.out.fr G9.out (fun x => x))
    refine wpList_plain rfl fun K hK => wp_value (.int .i64 (k1.length : Int)) _ (run_op_copy (.tmp 43) (.tmp 44) rfl w9 g2 p0 16 (c2 - p0) rfl ⟨w.heap.size + 1, 0, none⟩ 16 16 rfl cur 5 k1 HR9.out (by rw [L1.out]; rfl) (fun j b hj => ?_) (by have := L1.out; have := HM2.out; omega)) (hK _ _ ?_)
    · have h := T9.out.cell hj
      rwa [Addr_add_none, Nat.zero_add]
    have S3 : Hid (Sl (w9.setRow g2 (cur.toList.take p0 ++ bs k1 ++ cur.toList.drop (p0 + (bs k1).length)).toArray) g2 (.slice (some ⟨g2, 0, none⟩) (p0 + 16) c2) O) := by
      have h := sl_end (p := p0) (V := V) (k := k1) HR9.out (by rw [lV.out, L1.out]) (by rw [L1.out]; exact HM2.out.2.1) HM2.out.1 (by rw [lV.out]; have h2 := HR.out.2; rwa [lV.out] at h2) bV.out B1.out
      rwa [L1.out, HO ()] at h
    have FQ : Fr (fun k => k = g2) w9 (w9.setRow g2 (cur.toList.take p0 ++ bs k1 ++ cur.toList.drop (p0 + (bs k1).length)).toArray) := (Fr.refl _ _).setRow _ (.inl rfl)
    have HG2 : Hid (ga ≠ g2 ∧ w.heap.size ≠ g2 ∧ w.heap.size ≤ g2) := by have := SZ1.out; have := HM2.out; show _ ∧ _; omega
    have F3 : Hid (Fr (fun _ => False) w (w9.setRow g2 (cur.toList.take p0 ++ bs k1 ++ cur.toList.drop (p0 + (bs k1).length)).toArray)) := F9.out.setRow _ (.inr HG2.out.2.2)
    replace X0 := Lib.hid ((FQ.block _ (heap_lt (Calm.at X0.out G9.out)) (fun e => HG2.out.2.1 e)).trans (Calm.at X0.out G9.out))
    replace S1 := Lib.hid ((S1.out.fr G9.out (fun _ x => x)).fr FQ (fun _ e => HG2.out.1 e))
    generalize w9.setRow g2 (cur.toList.take p0 ++ bs k1 ++ cur.toList.drop (p0 + (bs k1).length)).toArray = W3 at *
    clear FQ F9 HR9 HR T9 T0 G9 F2 HM2 HO bV B1 L1 SZ1 SZ2 j7 j8 j9
    try simp only [Act.put, List.setIfInBounds_toArray, List.set_cons_succ, List.set_cons_zero]
    have cA := ainn_ad LK.out LN.out X0.out
    have cB := ainn_b LK.out LN.out X0.out
    go_upto_region 10 with (first
      | refine wpList_mid rfl 28 (.tmp 47) rfl (w.heap.size) 0 rfl .u8 k0 _ (ainn_key LK.out X0.out) Try.underlying28 rfl sK.out ?_
      | refine wpList_mid rfl 22 (.tmp 49) rfl (w.heap.size) 32 rfl .u8 n0 _ (ainn_nonce LK.out X0.out) Try.underlying22 rfl sN.out ?_
      | (go_at_call 19; refine (CO _ _ _ _ _ _ _ _ _ (HS.out.fr F3.out (fun _ x => x)) (S3.out)).mono ?_; rintro e w4 ⟨v3, rfl, hn2, hf⟩; have N_v3 := Lib.hid hn2; have G_w4 := Lib.hid hf; clear hn2 hf))
    replace X0 := Lib.hid (Calm.at X0.out G_w4.out)
    have F4 := Lib.hid (F3.out.trans G_w4.out)
    clear cA cB
    have cA := ainn_ad LK.out LN.out X0.out
    have cB := ainn_b LK.out LN.out X0.out
    replace S1 := Lib.hid (S1.out.fr G_w4.out (fun _ x => x))
    replace S3 := Lib.hid (S3.out.fr G_w4.out (fun _ x => x))
    clear G_w4 F3
    obtain ⟨A4, n4, c4, rfl, hn4⟩ := N_v3.out.1.shape
    have S4 := Lib.hid N_v3.out.1.sl
    clear N_v3 CO
    rcases HC.out with ⟨d1, d2, d3⟩ | ⟨d1, d2, d3⟩
    · have HD1 := Lib.hid d1
      have HD2 := Lib.hid d2
      subst d3
      clear d1 d2 HC hn4
      have tk1 : True := trivial
      go_upto_region 11 with (go_at_call 18; refine (eq_yes _ S3.out S1.out HD1.out).mono ?_; rintro e w5 ⟨rfl, hf⟩; have G_w5 := Lib.hid hf; clear hf)
      replace X0 := Lib.hid (Calm.at X0.out G_w5.out)
      have F5 := Lib.hid (F4.out.trans G_w5.out)
      clear cA cB
      have cA := ainn_ad LK.out LN.out X0.out
      have cB := ainn_b LK.out LN.out X0.out
      have S6 := Lib.hid (S4.out.fr G_w5.out (fun _ x => x))
      clear G_w5 F4
      clear S3 S1 tk1
      go_wp2_with (first
        | (go_at_call 18; refine (eq_yes _ S6.out (HT.out.fr F5.out (fun _ x => x)) HD2.out).mono ?_; rintro e w6 ⟨rfl, hf⟩; have F6 := Lib.hid (F5.out.trans hf); clear hf)
        | (go_at_call 21; refine (awake_is _).mono ?_; rintro e w7 ⟨rfl, hf⟩; have F7 := Lib.hid (F6.out.trans hf); clear hf))
      go_ret
      exact ⟨rfl, F7.out⟩
    · have HD1 := Lib.hid d1
      rw [d2] at hn4
      obtain rfl : n4 = 0 := hn4
      subst d3
      clear d1 d2 HC
      go_upto_region 11 with (go_at_call 18; refine (eq_no _ S3.out S1.out HD1.out).mono ?_; rintro e w5 ⟨rfl, hf⟩; have G_w5 := Lib.hid hf; clear hf)
      replace X0 := Lib.hid (Calm.at X0.out G_w5.out)
      have F5 := Lib.hid (F4.out.trans G_w5.out)
      clear cA cB
      have cA := ainn_ad LK.out LN.out X0.out
      have cB := ainn_b LK.out LN.out X0.out
      clear G_w5 F4
      clear S3 S1
      go_wp2_with (go_at_call 21; refine (awake_is _).mono ?_; rintro e w7 ⟨rfl, hf⟩; have F7 := Lib.hid (F5.out.trans hf); clear hf)
      go_ret
      exact ⟨rfl, F7.out⟩

set_option maxRecDepth 100000 in
theorem law_tag_lifted (os : Os) (started : os.Started) (H : Type) (enc : TypeId × Value → H) :
    ReturnsInHanded {} Try.checked os 8 .any (Rows.aeadTagSpec.pre6 enc Try.prog Try.f8 Rows.aeadTagRow.domain false) (Rows.aeadTagSpec.post enc Try.prog Try.f8 false true false false) := by
  refine returnsInHanded_of_change_sized (C := Try.checked) own started (by kernel_rfl) Try.func8
    (ChangeSpec.witness6 (enc := enc) (C := Try.checked) false ⟨#[], #[.agg (ainn (List.replicate 32 0) (List.replicate 12 0) (.slice none 0 0) (.slice none 0 0)), .agg (vs .u8 (List.replicate 16 0))], []⟩ 8 (by kernel_rfl) (by kernel_rfl) (by kernel_rfl) (by kernel_rfl)) ?_
  intro W base args ds gs before hval0 hW hcnd hsz0 _
  have hsz : (DataW.weightsEach Try.prog (Try.f8.params.toList ++ Rows.aeadTagSpec.plain.varTypes Try.prog) (ds ++ gs)).all (· ≤ reachBytes) = true := hsz0
  clear hsz0
  have hval : ∀ (j : Nat) t v, Try.f8.params[j]? = some t → args[j]? = some v → Value.okWide Try.prog W .any base t v := hval0
  have hW' := hW
  obtain ⟨p, q, hA0, hV, rfl, hfz, hnd⟩ := hW
  have hA : DataW.TrodAll enc Try.prog W 0 (fun _ => true) true Try.f8.params.toList args.toList ds p := hA0
  rw [Try.params8] at hA hval hsz
  obtain ⟨v0, vs0, d0, ds0, p0, q0, hargs, rfl, rfl, h0, r0⟩ := trodAll_cons hA
  obtain ⟨v1, vs1, d1, ds1, p1, q1, rfl, rfl, rfl, h1, r1⟩ := trodAll_cons r0
  obtain ⟨rfl, rfl, rfl⟩ := trodAll_nil r1
  obtain rfl : args = #[v0, v1] := by cases args; simp_all
  obtain ⟨rfl, rfl⟩ := trodVars_none hV
  have hlt0 : ∀ x ∈ p0, x.block < W.heap.size := fun x hx => hW'.lt x (by simp [hx])
  obtain ⟨k0, n0, A0, m0, s0, g0, l0, B0, pz0, rz0, qz0, t0, x0, x1, x2, x3, rfl, rfl, lk0, bk0, ln0, bn0, hs0, ht0, y2, y3⟩ := open_in (hval 0 31 v0 rfl rfl) h0 hlt0
  have hm0 : m0 ≤ 140737488351232 := by
    rcases y2 with e | ⟨el, sp, rfl, hle⟩
    · omega
    · obtain ⟨f0, f1, f2, f3, hu, t0, o0, t1, o1, t2, o2, t3, o3⟩ := under_in
      have := sized_field hsz (j := 0) (m := 2) (s := 29) (e := 5) rfl rfl hu (by simp [t0, t1, t2, t3]) rfl Try.underlying29
      rw [Try.bytes5] at this
      simp only [reachBytes] at this
      omega
  have hpz0 : pz0 ≤ 140737488351232 := by
    rcases y3 with e | ⟨el, sp, rfl, hle⟩
    · omega
    · obtain ⟨f0, f1, f2, f3, hu, t0, o0, t1, o1, t2, o2, t3, o3⟩ := under_in
      have := sized_field hsz (j := 0) (m := 3) (s := 29) (e := 5) rfl rfl hu (by simp [t0, t1, t2, t3]) rfl Try.underlying29
      rw [Try.bytes5] at this
      simp only [reachBytes] at this
      omega
  obtain ⟨k1, rfl, lk1, bk1⟩ := open_a16 (hval 1 38 v1 rfl rfl) h1
  clear hA0 hval0
  refine (law_tag_any k0 n0 A0 m0 s0 g0 l0 B0 pz0 rz0 qz0 t0 k1 W lk0 bk0 ln0 bn0 hs0 ht0 hm0 hpz0 lk1 bk1).mono fun e W' ⟨he, hg⟩ => ?_
  subst he
  exact ⟨_, rfl, post_true rfl hW' (by kernel_rfl) rfl rfl hg⟩

theorem aeadTag_holds : Rows.AeadTagSaid :=
  OpenClaim.holds_of_wide 8 Try.f8 rfl rfl rfl rfl rfl rfl rfl ⟨rfl, rfl, rfl, rfl, rfl⟩ rfl rfl rfl rfl rfl (by kernel_rfl) Try.func8 (by kernel_rfl)
    (of_decide_eq_true (by kernel_rfl)) (by unfold Func.isWrapper; first | (rw [if_pos (by decide +kernel)]; kernel_rfl) | (rw [if_neg (by decide +kernel)]; exact ⟨rfl, rfl⟩))
    (fun os started H enc _ => law_tag_lifted os started H enc)
#print axioms aeadTag_holds
end Go.Proofs.Ytbafppdmlhogbaa
