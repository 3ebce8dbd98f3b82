/- AeadParts answers true for all keys, nonces, ads and texts, and its arguments read behind the call as they did: the given statement AeadPartsSaid. No condition. -/
import Derived.Test.YtbafppdmlhogbaaAw
import Derived.Test.YtbafppdmlhogbaaSu
import Derived.Test.YtbafppdmlhogbaaNn
namespace Go.Proofs.Ytbafppdmlhogbaa
set_option linter.unusedSimpArgs false
set_option linter.unusedVariables false
open Go.ChangeShapes Go.WideShapes Go.ChangeAt Go.RowKit

theorem les_small (x : Nat) (h : x ≤ 4096) : les 8 (x : Int) = [(x : Int) % 256, (x : Int) / 256, 0, 0, 0, 0, 0, 0] := by
  have e : (x : Int) / 256 / 256 = 0 := by omega
  have e2 : (x : Int) / 256 % 256 = (x : Int) / 256 := by omega
  simp only [les, e, e2]
  rfl
theorem mac_is (ad X : List Int) (a b : Nat) (ha : ad.length = a) (hb : X.length = b) : (((([] ++ ad) ++ List.replicate (gap a) 0) ++ X) ++ List.replicate (gap b) 0) ++ (les 8 (a : Int) ++ les 8 (b : Int)) = mac ad X := by
  simp only [mac, pad, ha, hb, List.nil_append, List.append_assoc]
set_option maxRecDepth 100000 in
set_option maxHeartbeats 32000000 in
theorem law_parts_any (k0 n0 : List Int) (A0 : Option Addr) (m0 s0 g0 : Nat) (l0 : List Int) (B0 : Option Addr) (p0 r0 q0 : Nat) (t0 : List Int) (w : World) (lk0 : k0.length = 32) (bk0 : Bys k0) (ln0 : n0.length = 12) (bn0 : Bys n0) (hs0 : Sl w g0 (.slice A0 m0 s0) l0) (ht0 : Sl w q0 (.slice B0 p0 r0) t0) (hm0 : m0 ≤ 140737488351232) (hp0 : p0 ≤ 140737488351232) :
    Calls Try.prog 9 #[.agg (ainn k0 n0 (.slice A0 m0 s0) (.slice B0 p0 r0))] w fun e w' => e = .returned (.bool true) ∧ Fr (fun _ => False) w w' := by
  have e2 := hs0.len
  have e3 := ht0.len
  have HS := Lib.hid hs0
  have HT := Lib.hid ht0
  have LK := Lib.hid lk0
  have LN := Lib.hid ln0
  have sK := Lib.hid (key_sz lk0)
  have sN := Lib.hid (nonce_sz ln0)
  by_cases hlim : 4096 < l0.length ∨ 4096 < t0.length
  · have CS : ∀ W g2 A2 m2 c2 g3 A3 m3 c3, Sl W g2 (.slice A2 m2 c2) l0 → Sl W g3 (.slice A3 m3 c3) t0 → Calls Try.prog 16 #[.agg (vs .u8 k0), .agg (vs .u8 n0), .slice A2 m2 c2, .slice A3 m3 c3] W fun e w' => ∃ v, e = .returned (.tuple #[v, .int .i64 5]) ∧ Nw W w' v [] ∧ Fr (fun _ => False) W w' := fun W g2 A2 m2 c2 g3 A3 m3 c3 h2 h3 => by
      have h := seal_is k0 n0 g2 A2 m2 c2 l0 g3 A3 m3 c3 t0 W lk0 bk0 ln0 bn0 h2 h3
      rw [sealv, if_pos hlim] at h
      exact h
    clear hlim e2 e3
    clear hs0 ht0 lk0 ln0 bk0 bn0 hm0 hp0
    go_enter Try.func9, Try.ntmps9
    go_upto_region 1 with (fail)
    have X0 : Hid ((w.alloc (.cells (ainn k0 n0 (.slice A0 m0 s0) (.slice B0 p0 r0)) 31)).heap[w.heap.size]? = some (.cells (ainn k0 n0 (.slice A0 m0 s0) (.slice B0 p0 r0)) 31 (0, 0))) := heap_alloc_new w _
    have F0 : Hid (Fr (fun _ => False) w (w.alloc (.cells (ainn k0 n0 (.slice A0 m0 s0) (.slice B0 p0 r0)) 31))) := (Fr.refl _ _).alloc _
    generalize w.alloc (.cells (ainn k0 n0 (.slice A0 m0 s0) (.slice B0 p0 r0)) 31) = W0 at *
    have cA := ainn_ad LK.out LN.out X0.out
    have cB := ainn_b LK.out LN.out X0.out
    go_upto_region 2 with (first
      | refine wpList_mid rfl 28 (.tmp 14) rfl (w.heap.size) 0 rfl .u8 k0 _ (ainn_key LK.out X0.out) Try.underlying28 rfl sK.out ?_
      | refine wpList_mid rfl 22 (.tmp 16) rfl (w.heap.size) 32 rfl .u8 n0 _ (ainn_nonce LK.out X0.out) Try.underlying22 rfl sN.out ?_
      | (go_at_call 16; refine (CS _ _ _ _ _ _ _ _ _ (HS.out.fr F0.out (fun _ x => x)) (HT.out.fr F0.out (fun _ x => x))).mono ?_; rintro e w1 ⟨v1, rfl, hn2, hf⟩; have N_v1 := Lib.hid hn2; have G_w1 := Lib.hid hf; clear hn2 hf))
    replace X0 := Lib.hid (Calm.at X0.out G_w1.out)
    have F1 := Lib.hid (F0.out.trans G_w1.out)
    clear cA cB
    have cA := ainn_ad LK.out LN.out X0.out
    have cB := ainn_b LK.out LN.out X0.out
    clear G_w1 F0
    go_wp2_with (go_at_call 21; refine (awake_is _).mono ?_; rintro e w5 ⟨rfl, hf⟩; have F5 := Lib.hid (F1.out.trans hf); clear hf)
    go_ret
    exact ⟨rfl, F5.out⟩
  · obtain ⟨V, hV⟩ : ∃ x, x = box k0 n0 l0 t0 := ⟨_, rfl⟩
    have CS : ∀ W g2 A2 m2 c2 g3 A3 m3 c3, Sl W g2 (.slice A2 m2 c2) l0 → Sl W g3 (.slice A3 m3 c3) t0 → Calls Try.prog 16 #[.agg (vs .u8 k0), .agg (vs .u8 n0), .slice A2 m2 c2, .slice A3 m3 c3] W fun e w' => ∃ v, e = .returned (.tuple #[v, .int .i64 0]) ∧ Nw W w' v V ∧ Fr (fun _ => False) W w' := fun W g2 A2 m2 c2 g3 A3 m3 c3 h2 h3 => by
      have h := seal_is k0 n0 g2 A2 m2 c2 l0 g3 A3 m3 c3 t0 W lk0 bk0 ln0 bn0 h2 h3
      rw [sealv, if_neg hlim, ← hV] at h
      exact h
    obtain ⟨X, hX⟩ : ∃ x, x = xo k0 1 n0 t0 := ⟨_, rfl⟩
    obtain ⟨t, ht⟩ : ∃ x, x = atag k0 n0 l0 X := ⟨_, rfl⟩
    obtain ⟨O, hO⟩ : ∃ x, x = otk k0 n0 := ⟨_, rfl⟩
    obtain ⟨KB, hK⟩ : ∃ x, x = bk64 k0 0 n0 := ⟨_, rfl⟩
    have VT : Hid (V.take p0 = X) := by show _ = _; rw [hV, hX, ← e3, box_take]
    have VD : Hid (V.drop p0 = t) := by show _ = _; rw [hV, ht, hX, ← e3, box_drop]
    have lV : Hid (V.length = p0 + 16) := by show _ = _; rw [hV, box_length, e3]
    have lX : Hid (X.length = p0) := by show _ = _; rw [hX, xo_length, e3]
    have lK : Hid (KB.length = 64 ∧ Bys KB) := by rw [hK]; exact ⟨bk64_length lk0 bk0 wd0 ln0 bn0, bk64_bys _ _ _⟩
    have lO : Hid (O.length = 32 ∧ Bys O) := by rw [hO]; exact ⟨otk_length lk0 bk0 ln0 bn0, otk_bys _ _⟩
    have lt : Hid (t.length = 16 ∧ Bys t) := by rw [ht]; exact ⟨atag_length _ _ _ _, atag_bys _ _ _ _⟩
    have KO : Hid (∀ (j : Nat) (b : Int), O[j]? = some b → KB[j]? = some b) := by
      show ∀ _, _
      intro j b h
      rw [hO, otk, ← hK, List.getElem?_take] at h
      split at h
      · exact h
      · cases h
    have TG : Unit → ∀ D, D = mac l0 X → tag O D = t := fun _ D h => by rw [h, hO, ht, atag]
    have CX : ∀ W, Sl W q0 (.slice B0 p0 r0) t0 → Calls Try.prog 22 #[.agg (vs .u8 k0), .int .u32 1, .agg (vs .u8 n0), .slice B0 p0 r0] W fun e w' => ∃ g, W.heap.size ≤ g ∧ e = .returned (.tuple #[.slice (some ⟨g, 0, none⟩) p0 p0, .int .i64 0]) ∧ Ar w' g 5 .u8 X ∧ Fr (fun _ => False) W w' := fun W h => by
      rw [hX]
      exact xor_ex k0 1 n0 q0 B0 p0 r0 t0 W lk0 bk0 wd1 ln0 bn0 h (by omega) (by omega) (fun h0 => h.lt6 (fun e => by have := h.len; rw [e] at this; simp at this; omega))
    have CB : ∀ W, Calls Try.prog 23 #[.agg (vs .u8 k0), .int .u32 0, .agg (vs .u8 n0)] W fun e w' => e = .returned (.agg (vs .u8 KB)) ∧ Fr (fun _ => False) W w' := fun W => by rw [hK]; exact blockK_is k0 0 n0 W lk0 bk0 wd0 ln0 bn0
    have bX : Hid (Bys X) := by rw [hX]; exact xo_bys' ht0.1
    have hp4 : p0 ≤ 4096 := by omega
    have hm4 : m0 ≤ 4096 := by omega
    have HL0 := Lib.hid e2
    obtain ⟨ha, hha⟩ : ∃ x, x = gap m0 := ⟨_, rfl⟩
    obtain ⟨hb, hhb⟩ : ∃ x, x = gap p0 := ⟨_, rfl⟩
    obtain ⟨qa, hqa⟩ : ∃ x, x = m0 % 16 := ⟨_, rfl⟩
    obtain ⟨qb, hqb⟩ : ∃ x, x = p0 % 16 := ⟨_, rfl⟩
    have ta1 : (m0 : Int).tmod 16 = (qa : Int) := by rw [Int.tmod_eq_emod_of_nonneg (by omega)]; omega
    have ta2 : IntKind.i64.wrap (16 - (qa : Int)) = 16 - (qa : Int) := by rw [IntKind.wrap_i64]; omega
    have ta3 : (16 - (qa : Int)).tmod 16 = (ha : Int) := by rw [Int.tmod_eq_emod_of_nonneg (by omega), hha, gap]; omega
    have ta4 : 0 ≤ (ha : Int) := by omega
    have ta5 : (ha : Int) ≤ 16 := by have := gap_lt m0; omega
    have ta6 : ((ha : Int)).toNat = ha := by omega
    have tb1 : (p0 : Int).tmod 16 = (qb : Int) := by rw [Int.tmod_eq_emod_of_nonneg (by omega)]; omega
    have tb2 : IntKind.i64.wrap (16 - (qb : Int)) = 16 - (qb : Int) := by rw [IntKind.wrap_i64]; omega
    have tb3 : (16 - (qb : Int)).tmod 16 = (hb : Int) := by rw [Int.tmod_eq_emod_of_nonneg (by omega), hhb, gap]; omega
    have tb4 : 0 ≤ (hb : Int) := by omega
    have tb5 : (hb : Int) ≤ 16 := by have := gap_lt p0; omega
    have tb6 : ((hb : Int)).toNat = hb := by omega
    have HH : Hid (ha = gap m0 ∧ hb = gap p0) := ⟨hha, hhb⟩
    have j1 : IntKind.i64.wrap ((p0 : Int) + 16) = (p0 : Int) + 16 := by rw [IntKind.wrap_i64]; omega
    have j4 : 0 ≤ (p0 : Int) := by omega
    have j5 : ((p0 : Int)).toNat = p0 := by omega
    have j6 : (p0 : Int) ≤ (p0 : Int) + 16 := by omega
    have sK := Lib.hid (key_sz lk0)
    have sO : Hid ((Try.prog.info? 28).map (·.size) = some (vs .u8 O).size) := keys_info lO.out.1
    have sB : Hid ((Try.prog.info? 42).map (·.size) = some (vs .u8 KB).size) := by show _ = _; rw [size64, vs_size, lK.out.1]
    have st : Hid ((Try.prog.info? 38).map (·.size) = some (vs .u8 t).size) := tags_info lt.out.1
    obtain ⟨Y, hY⟩ : ∃ Y, Y = List.replicate 64 (0 : Int) := ⟨_, rfl⟩
    obtain ⟨Z, hZ⟩ : ∃ Z, Z = List.replicate 16 (0 : Int) := ⟨_, rfl⟩
    obtain ⟨Z2, hZ2⟩ : ∃ Z, Z = List.replicate 32 (0 : Int) := ⟨_, rfl⟩
    have hz1 : ∀ W : World, (zeroValue 42).run Try.prog W = .ok (.agg (vs .u8 Y)) W := fun W => by rw [hY]; exact zero64 W
    have hz2 : ∀ W : World, (zeroValue 38).run Try.prog W = .ok (.agg (vs .u8 Z)) W := fun W => by rw [hZ]; exact zero26 W
    have hz3 : ∀ W : World, (zeroValue 28).run Try.prog W = .ok (.agg (vs .u8 Z2)) W := fun W => by rw [hZ2]; exact zero6 W
    have lY : Hid ((vs .u8 Y).size = (vs .u8 KB).size) := by show _ = _; rw [vs_size, vs_size, hY, lK.out.1]; rfl
    have lZ : Hid ((vs .u8 Z).size = (vs .u8 t).size) := by show _ = _; rw [vs_size, vs_size, hZ, lt.out.1]; rfl
    have lZ2 : Hid (Z2.length = 32) := by show _ = _; rw [hZ2]; rfl
    clear hlim e2 e3 hV hX ht hO hK hha hhb hqa hqb hY hZ hZ2
    clear hs0 ht0 lk0 ln0 bk0 bn0 hm0 hp0
    go_enter Try.func9, Try.ntmps9
    go_upto_region 1 with (fail)
    have X0 : Hid ((w.alloc (.cells (ainn k0 n0 (.slice A0 m0 s0) (.slice B0 p0 r0)) 31)).heap[w.heap.size]? = some (.cells (ainn k0 n0 (.slice A0 m0 s0) (.slice B0 p0 r0)) 31 (0, 0))) := heap_alloc_new w _
    have F0 : Hid (Fr (fun _ => False) w (w.alloc (.cells (ainn k0 n0 (.slice A0 m0 s0) (.slice B0 p0 r0)) 31))) := (Fr.refl _ _).alloc _
    generalize w.alloc (.cells (ainn k0 n0 (.slice A0 m0 s0) (.slice B0 p0 r0)) 31) = W0 at *
    have cA := ainn_ad LK.out LN.out X0.out
    have cB := ainn_b LK.out LN.out X0.out
    go_upto_region 2 with (first
      | refine wpList_mid rfl 28 (.tmp 14) rfl (w.heap.size) 0 rfl .u8 k0 _ (ainn_key LK.out X0.out) Try.underlying28 rfl sK.out ?_
      | refine wpList_mid rfl 22 (.tmp 16) rfl (w.heap.size) 32 rfl .u8 n0 _ (ainn_nonce LK.out X0.out) Try.underlying22 rfl sN.out ?_
      | (go_at_call 16; refine (CS _ _ _ _ _ _ _ _ _ (HS.out.fr F0.out (fun _ x => x)) (HT.out.fr F0.out (fun _ x => x))).mono ?_; rintro e w1 ⟨v1, rfl, hn2, hf⟩; have N_v1 := Lib.hid hn2; have G_w1 := Lib.hid hf; clear hn2 hf))
    replace X0 := Lib.hid (Calm.at X0.out G_w1.out)
    have F1 := Lib.hid (F0.out.trans G_w1.out)
    clear cA cB
    have cA := ainn_ad LK.out LN.out X0.out
    have cB := ainn_b LK.out LN.out X0.out
    clear G_w1 F0
    obtain ⟨ga, ca, rfl, _, hca, hsa⟩ := N_v1.out.open (by have := lV.out; omega)
    rw [lV.out] at hsa hca ⊢
    have S1 := Lib.hid hsa
    have j7 : (p0 : Int) ≤ ca := by omega
    have j8 : ¬ ca = p0 := by omega
    clear hca hsa N_v1 CS
    go_upto_region 5 with (fail)
    go_upto_region 6 with (first
      | refine wpList_mid rfl 28 (.tmp 32) rfl (w.heap.size) 0 rfl .u8 k0 _ (ainn_key LK.out X0.out) Try.underlying28 rfl sK.out ?_
      | refine wpList_mid rfl 22 (.tmp 34) rfl (w.heap.size) 32 rfl .u8 n0 _ (ainn_nonce LK.out X0.out) Try.underlying22 rfl sN.out ?_
      | (go_at_call 22; refine (CX _ (HT.out.fr F1.out (fun _ x => x))).mono ?_; rintro e w2 ⟨gx, hgx, rfl, hax, hf⟩; have AX := Lib.hid hax; have G_w2 := Lib.hid hf; clear hax hf hgx))
    replace X0 := Lib.hid (Calm.at X0.out G_w2.out)
    have F2 := Lib.hid (F1.out.trans G_w2.out)
    clear cA cB
    have cA := ainn_ad LK.out LN.out X0.out
    have cB := ainn_b LK.out LN.out X0.out
    replace S1 := Lib.hid (S1.out.fr G_w2.out (fun _ x => x))
    clear G_w2 F1
    have SX : Hid (Sl w2 gx (.slice (some ⟨gx, 0, none⟩) p0 p0) X) := AX.out.slt bX.out lX.out (by show p0 ≤ 9223372036854775807; omega)
    have ST : Hid (Sl w2 ga (.slice (some ⟨ga, 0, none⟩) p0 ca) X) := by
      have h := S1.out.take p0 (by have := lV.out; omega)
      rwa [VT.out] at h
    go_upto_region 8 with (go_at_call 18; refine (eq_yes _ SX.out ST.out rfl).mono ?_; rintro e w3 ⟨rfl, hf⟩; have G_w3 := Lib.hid hf; clear hf)
    clear SX AX CX
    replace X0 := Lib.hid (Calm.at X0.out G_w3.out)
    have F3 := Lib.hid (F2.out.trans G_w3.out)
    clear cA cB
    have cA := ainn_ad LK.out LN.out X0.out
    have cB := ainn_b LK.out LN.out X0.out
    replace S1 := Lib.hid (S1.out.fr G_w3.out (fun _ x => x))
    replace ST := Lib.hid (ST.out.fr G_w3.out (fun _ x => x))
    clear G_w3 F2
    have X3 := X0
    have S3g : Hid (ga < w3.heap.size) := S1.out.lt6 (fun e => by have := lV.out; rw [e] at this; simp at this)
    go_upto_region 9 with (fail)
    have q8e : ∃ q8, q8 = w3.heap.size := ⟨_, rfl⟩
    obtain ⟨q8, hq8⟩ := q8e
    have F4 : Hid (Fr (fun _ => False) w (w3.alloc (.cells (vs .u8 Z2) 28))) := F3.out.alloc _
    have F34 : Fr (fun _ => False) w3 (w3.alloc (.cells (vs .u8 Z2) 28)) := (Fr.refl _ _).alloc _
    have A4 : Hid (Ar (w3.alloc (.cells (vs .u8 Z2) 28)) q8 28 .u8 Z2) := by rw [hq8]; exact Ar.new w3 28 .u8 Z2
    replace X0 := Lib.hid (Calm.at X0.out F34)
    replace S1 := Lib.hid (S1.out.fr F34 (fun _ x => x))
    replace ST := Lib.hid (ST.out.fr F34 (fun _ x => x))
    have W80 : Hid (w.heap.size ≤ q8 ∧ w.heap.size ≠ q8 ∧ ga ≠ q8) := by
      have h1 := F3.out.size
      have h2 := heap_lt X3.out
      have h3 := S3g.out
      show _ ∧ _ ∧ _
      omega
    rw [← hq8]
    generalize w3.alloc (.cells (vs .u8 Z2) 28) = W4 at *
    clear F34 hq8 F3 cA cB X3 S3g
    have cA := ainn_ad LK.out LN.out X0.out
    have cB := ainn_b LK.out LN.out X0.out
    go_upto_region 10 with (first
      | refine wpList_mid rfl 28 (.tmp 58) rfl (w.heap.size) 0 rfl .u8 k0 _ (ainn_key LK.out X0.out) Try.underlying28 rfl sK.out ?_
      | refine wpList_mid rfl 22 (.tmp 60) rfl (w.heap.size) 32 rfl .u8 n0 _ (ainn_nonce LK.out X0.out) Try.underlying22 rfl sN.out ?_
      | (go_at_call 23; refine (CB _).mono ?_; rintro e w5 ⟨rfl, hf⟩; have G_w5 := Lib.hid hf; clear hf)
      | refine wpList_store_row rfl 42 (.tmp 9) (.tmp 62) rfl w5.heap.size (vs .u8 KB) rfl rfl 42 (vs .u8 Y) (heap_alloc_new w5 _) sB.out lY.out (vs_all _ _) ?_)
    obtain ⟨q9, hq9⟩ : ∃ q, q = w5.heap.size := ⟨_, rfl⟩
    have FQ : Fr (fun _ => False) W4 ((w5.alloc (.cells (vs .u8 Y) 42)).setRow w5.heap.size (vs .u8 KB)) := (G_w5.out.alloc _).setRow _ (.inr G_w5.out.size)
    have A5 : Hid (Ar ((w5.alloc (.cells (vs .u8 Y) 42)).setRow w5.heap.size (vs .u8 KB)) q9 42 .u8 KB) := by rw [hq9]; exact (Ar.new w5 42 .u8 Y).row KB
    have h89 : q8 ≠ q9 := by
      have h1 := A4.out.lt
      have h2 := G_w5.out.size
      omega
    have H89 := Lib.hid h89
    have F5 := Lib.hid (F4.out.trans FQ)
    replace A4 := Lib.hid (A4.out.fr FQ (fun x => x))
    replace X0 := Lib.hid (Calm.at X0.out FQ)
    replace S1 := Lib.hid (S1.out.fr FQ (fun _ x => x))
    replace ST := Lib.hid (ST.out.fr FQ (fun _ x => x))
    have W8 : Hid (w.heap.size ≤ q8 ∧ w.heap.size ≠ q8 ∧ ga ≠ q8) := W80
    rw [← hq9] at A4 A5 X0 S1 ST F5 ⊢
    generalize (w5.alloc (.cells (vs .u8 Y) 42)).setRow q9 (vs .u8 KB) = W5 at *
    clear FQ hq9 h89 F4 G_w5 CB
    try simp only [Act.put, List.setIfInBounds_toArray, List.set_cons_succ, List.set_cons_zero]
    refine wp_region_quiet_tail (C := Calm W5) 2 (by kernel_rfl) (by kernel_rfl) (Calm.start _ _ (Fr.refl _ _)) ?_
    simp only [List.take_succ_cons, List.take_zero, List.drop_succ_cons, List.drop_zero]
    refine BigFrame.wpQuiet_want rfl fun K hK => ?_
    try simp only [Act.put, List.setIfInBounds_toArray, List.set_cons_succ, List.set_cons_zero]
    go_big_quiet_op
    first
      | refine ⟨_, fun _ _ => rfl, hK _ ?_⟩
      | refine hK _ ?_
    refine BigFrame.wpQuiet_want rfl fun K hK => ?_
    try simp only [Act.put, List.setIfInBounds_toArray, List.set_cons_succ, List.set_cons_zero]
    go_big_quiet_op
    first
      | refine ⟨_, fun _ _ => rfl, hK _ ?_⟩
      | refine hK _ ?_
    refine wpQuiet_nil ?_
    intro w9 hw9
    have F9 : Hid (Fr (fun _ => False) w w9) := F5.out.trans hw9
    have G9 := Lib.hid hw9
    clear hw9
    try simp only [Act.put, List.setIfInBounds_toArray, List.set_cons_succ, List.set_cons_zero]
    have A4' := Lib.hid (A4.out.fr G9.out (fun x => x))
    have A5' := Lib.hid (A5.out.fr G9.out (fun x => x))
    refine wpList_plain rfl fun K' hK' => wp_value (.int .i64 (O.length : Int)) _ (run_op_copy (.tmp 63) (.tmp 64) rfl w9 q8 0 32 32 rfl ⟨q9, 0, none⟩ 32 64 rfl (vs .u8 Z2) 28 O A4'.out (by rw [lO.out.1]; rfl) (fun j b hj => ?_) (by rw [lO.out.1, vs_size, lZ2.out]; exact Nat.le_refl 32)) (hK' _ _ ?_)
    · have h := A5'.out.cell (KO.out j b hj)
      rwa [Addr_add_none, Nat.zero_add]
    have eO : ((vs .u8 Z2).toList.take 0 ++ bs O ++ (vs .u8 Z2).toList.drop (0 + (bs O).length)).toArray = vs .u8 O := by
      rw [List.take_zero, List.nil_append, List.drop_of_length_le (by simp [vs, lZ2.out, bs, lO.out.1]), List.append_nil]
      rfl
    rw [eO]
    have AO : Hid (Ar (w9.setRow q8 (vs .u8 O)) q8 28 .u8 O) := A4'.out.row O
    have FQ : Fr (fun k => k = q8) w9 (w9.setRow q8 (vs .u8 O)) := (Fr.refl _ _).setRow _ (.inl rfl)
    have F6 : Hid (Fr (fun _ => False) w (w9.setRow q8 (vs .u8 O))) := F9.out.setRow _ (.inr W8.out.1)
    replace X0 := Lib.hid ((FQ.block _ (heap_lt (Calm.at X0.out G9.out)) (fun e => W8.out.2.1 e)).trans (Calm.at X0.out G9.out))
    replace S1 := Lib.hid ((S1.out.fr G9.out (fun _ x => x)).fr FQ (fun _ e => W8.out.2.2 e))
    replace ST := Lib.hid ((ST.out.fr G9.out (fun _ x => x)).fr FQ (fun _ e => W8.out.2.2 e))
    generalize w9.setRow q8 (vs .u8 O) = W6 at *
    clear FQ eO A4 A5 A4' A5' F9 G9 F5 W8 W80 H89 KO cA cB
    try simp only [Act.put, List.setIfInBounds_toArray, List.set_cons_succ, List.set_cons_zero]
    go_upto_region 12 with (first
      | refine wpList_load_row rfl 28 (.tmp 8) rfl q8 rfl 28 (vs .u8 O) (0, 0) _ AO.out Try.underlying28 rfl sO.out ?_
      | (go_at_call 24; refine (new_is O W6 lO.out.1 lO.out.2).mono ?_; rintro e w7 ⟨gp, hgp, rfl, hp7, hf⟩; have P7 := Lib.hid hp7; have G7 := Lib.hid hf; have HGP := Lib.hid hgp; clear hp7 hf hgp))
    obtain ⟨gc, hgc, hsc, _⟩ := (HS.out.fr F6.out (fun _ x => x)).apart (HS.out.fr F6.out (fun _ x => x)).lt6 gp HGP.out
    have SA7 := Lib.hid (hsc.fr G7.out (fun _ x => x))
    have NE : Hid (gc ≠ gp ∧ ga ≠ gp ∧ w.heap.size ≠ gp ∧ w.heap.size ≤ gp) := by
      have h1 := heap_lt X0.out
      have h2 := S1.out.lt6 (fun e => by have := lV.out; rw [e] at this; simp at this)
      have h3 := HGP.out
      show _ ∧ _
      omega
    have F7 := Lib.hid (F6.out.trans G7.out)
    replace X0 := Lib.hid (Calm.at X0.out G7.out)
    replace S1 := Lib.hid (S1.out.fr G7.out (fun _ x => x))
    replace ST := Lib.hid (ST.out.fr G7.out (fun _ x => x))
    clear hgc hsc F6 G7 HGP AO
    refine wp_region_list ?_
    refine wpList_plain rfl fun K' hK' => wp_value _ _ (ms_run (n := 16) (by decide) rfl rfl rfl) (hK' _ _ ?_)
    obtain ⟨gn, hgn⟩ : ∃ g, g = w7.heap.size := ⟨_, rfl⟩
    have SN : Hid (Sl (w7.alloc (.cells (vs .u8 (List.replicate 16 0)) 5)) gn (.slice (some ⟨gn, 0, none⟩) 16 16) (List.replicate 16 0)) := by rw [hgn]; exact (Ar.new w7 5 .u8 _).slt (noughts6 16) rfl (by decide)
    have FN : Fr (fun _ => False) w7 (w7.alloc (.cells (vs .u8 (List.replicate 16 0)) 5)) := (Fr.refl _ _).alloc _
    have NE2 : Hid (gn ≠ gp) := by have := P7.out.lt; show _ ≠ _; omega
    replace X0 := Lib.hid (Calm.at X0.out FN)
    replace S1 := Lib.hid (S1.out.fr FN (fun _ x => x))
    replace ST := Lib.hid (ST.out.fr FN (fun _ x => x))
    replace SA7 := Lib.hid (SA7.out.fr FN (fun _ x => x))
    replace P7 := Lib.hid (P7.out.fr FN (fun x => x))
    have F8 := Lib.hid (F7.out.trans FN)
    rw [← hgn]
    generalize w7.alloc (.cells (vs .u8 (List.replicate 16 0)) 5) = W8 at *
    clear FN hgn F7
    try simp only [Act.put, List.setIfInBounds_toArray, List.set_cons_succ, List.set_cons_zero]
    have cA := ainn_ad LK.out LN.out X0.out
    have cB := ainn_b LK.out LN.out X0.out
    have SH : Hid (∀ W h, h ≤ 16 → Sl W gn (.slice (some ⟨gn, 0, none⟩) 16 16) (List.replicate 16 0) → Sl W gn (.slice (some ⟨gn, 0, none⟩) h 16) (List.replicate h 0)) := by
      show ∀ _, _
      intro W h hh hs
      have h2 := hs.take h (by simpa using hh)
      rwa [List.take_replicate, Nat.min_eq_left hh] at h2
    go_upto_region 14 with (go_at_call 25; refine (write_is O [] gp gc A0 m0 s0 l0 W8 lO.out.1 lO.out.2 P7.out SA7.out NE.out.1 SA7.out.lt6).mono ?_; rintro e wb ⟨rfl, hp, hf⟩; have PB := Lib.hid hp; have GB := Lib.hid hf; clear hp hf)
    replace X0 := Lib.hid ((GB.out.block _ (heap_lt X0.out) (fun e => NE.out.2.2.1 e)).trans X0.out)
    replace S1 := Lib.hid (S1.out.fr GB.out (fun _ e => NE.out.2.1 e))
    replace ST := Lib.hid (ST.out.fr GB.out (fun _ e => NE.out.2.1 e))
    replace SN := Lib.hid (SN.out.fr GB.out (fun _ e => NE2.out e))
    have F9b : Hid (Fr (fun _ => False) w wb) := F8.out.trans' GB.out (fun i hi e => absurd e (by have := NE.out.2.2.2; omega))
    clear cA cB GB F8 P7
    have cA := ainn_ad LK.out LN.out X0.out
    have cB := ainn_b LK.out LN.out X0.out
    go_upto_region 15 with (go_at_call 25; refine (write_is O ([] ++ l0) gp gn (some ⟨gn, 0, none⟩) ha 16 (List.replicate ha 0) wb lO.out.1 lO.out.2 PB.out (SH.out _ ha (by omega) SN.out) NE2.out (SH.out _ ha (by omega) SN.out).lt6).mono ?_; rintro e wc ⟨rfl, hp, hf⟩; have PC := Lib.hid hp; have GB := Lib.hid hf; clear hp hf)
    replace X0 := Lib.hid ((GB.out.block _ (heap_lt X0.out) (fun e => NE.out.2.2.1 e)).trans X0.out)
    replace S1 := Lib.hid (S1.out.fr GB.out (fun _ e => NE.out.2.1 e))
    replace ST := Lib.hid (ST.out.fr GB.out (fun _ e => NE.out.2.1 e))
    replace SN := Lib.hid (SN.out.fr GB.out (fun _ e => NE2.out e))
    have F9c : Hid (Fr (fun _ => False) w wc) := F9b.out.trans' GB.out (fun i hi e => absurd e (by have := NE.out.2.2.2; omega))
    clear cA cB GB F9b PB
    have cA := ainn_ad LK.out LN.out X0.out
    have cB := ainn_b LK.out LN.out X0.out
    go_upto_region 16 with (go_at_call 25; refine (write_is O (([] ++ l0) ++ List.replicate ha 0) gp ga (some ⟨ga, 0, none⟩) p0 ca X wc lO.out.1 lO.out.2 PC.out ST.out NE.out.2.1 ST.out.lt6).mono ?_; rintro e wd ⟨rfl, hp, hf⟩; have PD := Lib.hid hp; have GB := Lib.hid hf; clear hp hf)
    replace X0 := Lib.hid ((GB.out.block _ (heap_lt X0.out) (fun e => NE.out.2.2.1 e)).trans X0.out)
    replace S1 := Lib.hid (S1.out.fr GB.out (fun _ e => NE.out.2.1 e))
    replace ST := Lib.hid (ST.out.fr GB.out (fun _ e => NE.out.2.1 e))
    replace SN := Lib.hid (SN.out.fr GB.out (fun _ e => NE2.out e))
    have F9d : Hid (Fr (fun _ => False) w wd) := F9c.out.trans' GB.out (fun i hi e => absurd e (by have := NE.out.2.2.2; omega))
    clear cA cB GB F9c PC
    have cA := ainn_ad LK.out LN.out X0.out
    have cB := ainn_b LK.out LN.out X0.out
    go_upto_region 17 with (go_at_call 25; refine (write_is O ((([] ++ l0) ++ List.replicate ha 0) ++ X) gp gn (some ⟨gn, 0, none⟩) hb 16 (List.replicate hb 0) wd lO.out.1 lO.out.2 PD.out (SH.out _ hb (by omega) SN.out) NE2.out (SH.out _ hb (by omega) SN.out).lt6).mono ?_; rintro e we ⟨rfl, hp, hf⟩; have PE := Lib.hid hp; have GB := Lib.hid hf; clear hp hf)
    replace X0 := Lib.hid ((GB.out.block _ (heap_lt X0.out) (fun e => NE.out.2.2.1 e)).trans X0.out)
    replace S1 := Lib.hid (S1.out.fr GB.out (fun _ e => NE.out.2.1 e))
    replace ST := Lib.hid (ST.out.fr GB.out (fun _ e => NE.out.2.1 e))
    replace SN := Lib.hid (SN.out.fr GB.out (fun _ e => NE2.out e))
    have F9e : Hid (Fr (fun _ => False) w we) := F9d.out.trans' GB.out (fun i hi e => absurd e (by have := NE.out.2.2.2; omega))
    clear cA cB GB F9d PD
    have cA := ainn_ad LK.out LN.out X0.out
    have cB := ainn_b LK.out LN.out X0.out
    obtain ⟨c0, hc0⟩ : ∃ x : Int, (m0 : Int) % 256 = x := ⟨_, rfl⟩
    obtain ⟨c1, hc1⟩ : ∃ x : Int, (m0 : Int) / 256 = x := ⟨_, rfl⟩
    obtain ⟨d0, hd0⟩ : ∃ x : Int, (p0 : Int) % 256 = x := ⟨_, rfl⟩
    obtain ⟨d1, hd1⟩ : ∃ x : Int, (p0 : Int) / 256 = x := ⟨_, rfl⟩
    have LE : Hid ([c0, c1, 0, 0, 0, 0, 0, 0, d0, d1, 0, 0, 0, 0, 0, 0] = les 8 (m0 : Int) ++ les 8 (p0 : Int)) := by
      show _ = _
      rw [les_small m0 hm4, les_small p0 hp4, hc0, hc1, hd0, hd1]
      rfl
    have BL : Hid (Bys [c0, c1, 0, 0, 0, 0, 0, 0, d0, d1, 0, 0, 0, 0, 0, 0]) := by rw [LE.out]; exact (les_bys _ _).append (les_bys _ _)
    have SL : ∀ W : World, Sl (W.alloc (.cells #[.int .u8 c0, .int .u8 c1, .int .u8 0, .int .u8 0, .int .u8 0, .int .u8 0, .int .u8 0, .int .u8 0, .int .u8 d0, .int .u8 d1, .int .u8 0, .int .u8 0, .int .u8 0, .int .u8 0, .int .u8 0, .int .u8 0] 5)) W.heap.size (.slice (some ⟨W.heap.size, 0, none⟩) 16 16) [c0, c1, 0, 0, 0, 0, 0, 0, d0, d1, 0, 0, 0, 0, 0, 0] := fun W => Sl.block BL.out (heap_alloc_new W _) (fun j _ => by rw [show (#[.int .u8 c0, .int .u8 c1, .int .u8 0, .int .u8 0, .int .u8 0, .int .u8 0, .int .u8 0, .int .u8 0, .int .u8 d0, .int .u8 d1, .int .u8 0, .int .u8 0, .int .u8 0, .int .u8 0, .int .u8 0, .int .u8 0] : Array Value) = (bs [c0, c1, 0, 0, 0, 0, 0, 0, d0, d1, 0, 0, 0, 0, 0, 0]).toArray from rfl]; simp) (by simp) (by decide)
    have CW : ∀ W : World, PolyAt W gp O (((([] ++ l0) ++ List.replicate ha 0) ++ X) ++ List.replicate hb 0) → Calls Try.prog 25 #[.pointer (some ⟨gp, 0, none⟩), .slice (some ⟨W.heap.size, 0, none⟩) 16 16] (W.alloc (.cells #[.int .u8 c0, .int .u8 c1, .int .u8 0, .int .u8 0, .int .u8 0, .int .u8 0, .int .u8 0, .int .u8 0, .int .u8 d0, .int .u8 d1, .int .u8 0, .int .u8 0, .int .u8 0, .int .u8 0, .int .u8 0, .int .u8 0] 5)) fun e w' => e = .returned (.tuple #[]) ∧ PolyAt w' gp O ((((([] ++ l0) ++ List.replicate ha 0) ++ X) ++ List.replicate hb 0) ++ [c0, c1, 0, 0, 0, 0, 0, 0, d0, d1, 0, 0, 0, 0, 0, 0]) ∧ Fr (fun i => i = gp) W w' := fun W hp =>
      (write_is O _ gp W.heap.size _ 16 16 _ _ lO.out.1 lO.out.2 (hp.fr ((Fr.refl (fun _ => False) W).alloc _) (fun x => x)) (SL W) (by have := hp.lt; omega) (SL W).lt6).mono fun e w' ⟨h1, h2, h3⟩ => ⟨h1, h2, ((Fr.refl _ W).alloc _).trans h3⟩
    have HCW := Lib.hid CW
    clear CW SL BL
    go_upto_region 18 with (go_at_call 25; refine (HCW.out we PE.out).mono ?_; rintro e wf ⟨rfl, hp, hf⟩; have PF := Lib.hid hp; have GB := Lib.hid hf; clear hp hf)
    replace X0 := Lib.hid ((GB.out.block _ (heap_lt X0.out) (fun e => NE.out.2.2.1 e)).trans X0.out)
    replace S1 := Lib.hid (S1.out.fr GB.out (fun _ e => NE.out.2.1 e))
    replace ST := Lib.hid (ST.out.fr GB.out (fun _ e => NE.out.2.1 e))
    replace SN := Lib.hid (SN.out.fr GB.out (fun _ e => NE2.out e))
    have F9f : Hid (Fr (fun _ => False) w wf) := F9e.out.trans' GB.out (fun i hi e => absurd e (by have := NE.out.2.2.2; omega))
    clear cA cB GB F9e PE
    have cA := ainn_ad LK.out LN.out X0.out
    have cB := ainn_b LK.out LN.out X0.out
    have HD : Hid (tag O (((((([] ++ l0) ++ List.replicate ha 0) ++ X) ++ List.replicate hb 0) ++ [c0, c1, 0, 0, 0, 0, 0, 0, d0, d1, 0, 0, 0, 0, 0, 0])) = t) := by
      refine TG () _ ?_
      rw [LE.out, HH.out.1, HH.out.2]
      exact mac_is l0 X m0 p0 HL0.out lX.out
    clear HCW LE hc0 hc1 hd0 hd1 TG SH SN
    go_upto_region 19 with (first
      | (go_at_call 26; refine (sum_is O _ gp wf lO.out.1 lO.out.2 PF.out).mono ?_; rw [HD.out]; rintro e wg ⟨rfl, hf⟩; have GG := Lib.hid hf; clear hf)
      | refine wpList_store_row rfl 38 (.tmp 12) (.tmp 114) rfl wg.heap.size (vs .u8 t) rfl rfl 38 (vs .u8 Z) (heap_alloc_new wg _) st.out lZ.out (vs_all _ _) ?_)
    obtain ⟨qt, hqt⟩ : ∃ q, q = wg.heap.size := ⟨_, rfl⟩
    have FQ : Fr (fun _ => False) wf ((wg.alloc (.cells (vs .u8 Z) 38)).setRow wg.heap.size (vs .u8 t)) := (GG.out.alloc _).setRow _ (.inr GG.out.size)
    have AT : Hid (Ar ((wg.alloc (.cells (vs .u8 Z) 38)).setRow wg.heap.size (vs .u8 t)) qt 38 .u8 t) := by rw [hqt]; exact (Ar.new wg 38 .u8 Z).row t
    replace S1 := Lib.hid (S1.out.fr FQ (fun _ x => x))
    have FG := Lib.hid (F9f.out.trans FQ)
    rw [← hqt] at AT S1 FG ⊢
    generalize (wg.alloc (.cells (vs .u8 Z) 38)).setRow qt (vs .u8 t) = WG at *
    clear FQ hqt F9f GG PF HD cA cB X0 ST
    try simp only [Act.put, List.setIfInBounds_toArray, List.set_cons_succ, List.set_cons_zero]
    have CE : ∀ V' : World, Calm WG V' → Calls Try.prog 18 #[.slice (some ⟨qt, 0, none⟩) 16 16, .slice (some ⟨ga, p0, none⟩) 16 (ca - p0)] V' fun e w' => e = .returned (.bool true) ∧ Calm WG w' := fun V' hv => by
      have h1 : Sl V' qt (.slice (some ⟨qt, 0, none⟩) 16 16) t := (AT.out.fr hv (fun x => x)).slt lt.out.2 lt.out.1 (by decide)
      have h2 := (S1.out.fr hv (fun _ x => x)).drop p0 (by have := lV.out; omega)
      rw [VD.out, lV.out, if_neg j8, Option.map_some, Addr_add_none, Nat.zero_add, Nat.add_sub_cancel_left] at h2
      exact (eq_yes V' h1 h2 rfl).mono fun _ _ ⟨he, hf⟩ => ⟨he, Fr.trans hv hf⟩
    have CAW : ∀ V' : World, Calm WG V' → Calls Try.prog 21 #[] V' fun e w' => e = .returned (.bool true) ∧ Calm WG w' := fun V' hv => (awake_is V').mono fun _ _ ⟨he, hf⟩ => ⟨he, Fr.trans hv hf⟩
    refine wp_region_quiet (C := Calm WG) (by kernel_rfl) (by kernel_rfl) (Calm.start _ _ (Fr.refl _ _)) ?_
    refine BigFrame.wpQuiet_want rfl fun K hK => ?_
    try simp only [Act.put, List.setIfInBounds_toArray, List.set_cons_succ, List.set_cons_zero]
    go_big_quiet_op
    first
      | refine ⟨_, fun _ _ => rfl, hK _ ?_⟩
      | refine hK _ ?_
    refine BigFrame.wpQuiet_want rfl fun K hK => ?_
    try simp only [Act.put, List.setIfInBounds_toArray, List.set_cons_succ, List.set_cons_zero]
    go_big_quiet_op
    refine hK _ ?_
    refine BigFrame.wpQuiet_want rfl fun K hK => ?_
    try simp only [Act.put, List.setIfInBounds_toArray, List.set_cons_succ, List.set_cons_zero]
    go_big_quiet_op
    refine hK _ ?_
    refine BigFrame.wpQuiet_want rfl fun K hK => ?_
    try simp only [Act.put, List.setIfInBounds_toArray, List.set_cons_succ, List.set_cons_zero]
    go_big_quiet_op
    first
      | refine ⟨_, fun _ _ => rfl, hK _ ?_⟩
      | refine hK _ ?_
    refine BigFrame.wpQuiet_want rfl fun K hK => ?_
    try simp only [Act.put, List.setIfInBounds_toArray, List.set_cons_succ, List.set_cons_zero]
    go_big_quiet_op
    refine ⟨_, CE, hK _ ?_⟩
    refine BigFrame.wpQuiet_want rfl fun K hK => ?_
    try simp only [Act.put, List.setIfInBounds_toArray, List.set_cons_succ, List.set_cons_zero]
    go_big_quiet_op
    refine hK _ ?_
    refine BigFrame.wpQuiet_want rfl fun K hK => ?_
    try simp only [Act.put, List.setIfInBounds_toArray, List.set_cons_succ, List.set_cons_zero]
    go_big_quiet_op
    refine ⟨_, CAW, hK _ ?_⟩
    refine BigFrame.wpQuiet_want rfl fun K hK => ?_
    try simp only [Act.put, List.setIfInBounds_toArray, List.set_cons_succ, List.set_cons_zero]
    go_big_quiet_op
    first
      | refine ⟨_, fun _ _ => rfl, hK _ ?_⟩
      | refine hK _ ?_
    refine BigFrame.wpQuiet_want rfl fun K hK => ?_
    try simp only [Act.put, List.setIfInBounds_toArray, List.set_cons_succ, List.set_cons_zero]
    go_big_quiet_op
    refine hK _ ?_
    refine wpQuiet_nil ?_
    intro wz hwz
    have Fz : Hid (Fr (fun _ => False) w wz) := FG.out.trans hwz
    have Gz := Lib.hid hwz
    clear hwz
    try simp only [Act.put, List.setIfInBounds_toArray, List.set_cons_succ, List.set_cons_zero]
    go_wp2
    go_ret
    exact ⟨rfl, Fz.out⟩

set_option maxRecDepth 100000 in
theorem law_parts_lifted (os : Os) (started : os.Started) (H : Type) (enc : TypeId × Value → H) :
    ReturnsInHanded {} Try.checked os 9 .any (Rows.aeadPartsSpec.pre6 enc Try.prog Try.f9 Rows.aeadPartsRow.domain false) (Rows.aeadPartsSpec.post enc Try.prog Try.f9 false true false false) := by
  refine returnsInHanded_of_change_sized (C := Try.checked) own started (by kernel_rfl) Try.func9
    (ChangeSpec.witness6 (enc := enc) (C := Try.checked) false ⟨#[], #[.agg (ainn (List.replicate 32 0) (List.replicate 12 0) (.slice none 0 0) (.slice none 0 0))], []⟩ 8 (by kernel_rfl) (by kernel_rfl) (by kernel_rfl) (by kernel_rfl)) ?_
  intro W base args ds gs before hval0 hW hcnd hsz0 _
  have hsz : (DataW.weightsEach Try.prog (Try.f9.params.toList ++ Rows.aeadPartsSpec.plain.varTypes Try.prog) (ds ++ gs)).all (· ≤ reachBytes) = true := hsz0
  clear hsz0
  have hval : ∀ (j : Nat) t v, Try.f9.params[j]? = some t → args[j]? = some v → Value.okWide Try.prog W .any base t v := hval0
  have hW' := hW
  obtain ⟨p, q, hA0, hV, rfl, hfz, hnd⟩ := hW
  have hA : DataW.TrodAll enc Try.prog W 0 (fun _ => true) true Try.f9.params.toList args.toList ds p := hA0
  rw [Try.params9] at hA hval hsz
  obtain ⟨v0, vs0, d0, ds0, p0, q0, hargs, rfl, rfl, h0, r0⟩ := trodAll_cons hA
  obtain ⟨rfl, rfl, rfl⟩ := trodAll_nil r0
  obtain rfl : args = #[v0] := by cases args; simp_all
  obtain ⟨rfl, rfl⟩ := trodVars_none hV
  have hlt0 : ∀ x ∈ p0, x.block < W.heap.size := fun x hx => hW'.lt x (by simp [hx])
  obtain ⟨k0, n0, A0, m0, s0, g0, l0, B0, pz0, rz0, qz0, t0, x0, x1, x2, x3, rfl, rfl, lk0, bk0, ln0, bn0, hs0, ht0, y2, y3⟩ := open_in (hval 0 31 v0 rfl rfl) h0 hlt0
  have hm0 : m0 ≤ 140737488351232 := by
    rcases y2 with e | ⟨el, sp, rfl, hle⟩
    · omega
    · obtain ⟨f0, f1, f2, f3, hu, t0, o0, t1, o1, t2, o2, t3, o3⟩ := under_in
      have := sized_field hsz (j := 0) (m := 2) (s := 29) (e := 5) rfl rfl hu (by simp [t0, t1, t2, t3]) rfl Try.underlying29
      rw [Try.bytes5] at this
      simp only [reachBytes] at this
      omega
  have hpz0 : pz0 ≤ 140737488351232 := by
    rcases y3 with e | ⟨el, sp, rfl, hle⟩
    · omega
    · obtain ⟨f0, f1, f2, f3, hu, t0, o0, t1, o1, t2, o2, t3, o3⟩ := under_in
      have := sized_field hsz (j := 0) (m := 3) (s := 29) (e := 5) rfl rfl hu (by simp [t0, t1, t2, t3]) rfl Try.underlying29
      rw [Try.bytes5] at this
      simp only [reachBytes] at this
      omega
  clear hA0 hval0
  refine (law_parts_any k0 n0 A0 m0 s0 g0 l0 B0 pz0 rz0 qz0 t0 W lk0 bk0 ln0 bn0 hs0 ht0 hm0 hpz0).mono fun e W' ⟨he, hg⟩ => ?_
  subst he
  exact ⟨_, rfl, post_true rfl hW' (by kernel_rfl) rfl rfl hg⟩

theorem aeadParts_holds : Rows.AeadPartsSaid :=
  OpenClaim.holds_of_wide 9 Try.f9 rfl rfl rfl rfl rfl rfl rfl ⟨rfl, rfl, rfl, rfl, rfl⟩ rfl rfl rfl rfl rfl (by kernel_rfl) Try.func9 (by kernel_rfl)
    (of_decide_eq_true (by kernel_rfl)) (by unfold Func.isWrapper; first | (rw [if_pos (by decide +kernel)]; kernel_rfl) | (rw [if_neg (by decide +kernel)]; exact ⟨rfl, rfl⟩))
    (fun os started H enc _ => law_parts_lifted os started H enc)
#print axioms aeadParts_holds
end Go.Proofs.Ytbafppdmlhogbaa
