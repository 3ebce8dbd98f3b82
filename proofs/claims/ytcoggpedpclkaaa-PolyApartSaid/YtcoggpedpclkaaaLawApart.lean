/- PolyApart answers true for all keys, numbers and bytes, and its arguments read behind the call as they did: the given statement PolyApartSaid. No condition. -/
import Derived.Test.YtcoggpedpclkaaaLi
namespace Go.Proofs.Ytcoggpedpclkaaa
set_option linter.unusedSimpArgs false
set_option linter.unusedVariables false
open Go.ChangeShapes Go.WideShapes Go.ChangeAt Go.RowKit

/-- A key with another s, as far as a place. -/
def ks (k s : List Int) (i : Nat) : List Int := k.take 16 ++ (s.take i ++ (k.drop 16).drop i)
theorem ks_zero (k s : List Int) : ks k s 0 = k := by simp [ks]
theorem ks_all (k s : List Int) (hk : k.length = 32) (hs : s.length = 16) : ks k s 16 = k.take 16 ++ s := by
  unfold ks
  rw [List.take_of_length_le (by omega : s.length ≤ 16), List.drop_eq_nil_of_le (by rw [List.length_drop]; omega), List.append_nil]
theorem ks_length (k s : List Int) (hk : k.length = 32) (hs : s.length = 16) (i : Nat) (hi : i ≤ 16) : (ks k s i).length = 32 := by
  unfold ks
  simp only [List.length_append, List.length_take, List.length_drop]
  omega
theorem ks_set (k s : List Int) (hk : k.length = 32) (hs : s.length = 16) (i : Nat) (hi : i < 16) (y : Int) (hy : s[i]? = some y) : (ks k s i).set (16 + i) y = ks k s (i + 1) := by
  unfold ks
  have l1 : (k.take 16).length = 16 := by rw [List.length_take]; omega
  have l2 : (s.take i).length = i := by rw [List.length_take]; omega
  have l3 : i < (k.drop 16).length := by rw [List.length_drop]; omega
  have hlt : i < s.length := by omega
  have e : s[i] = y := by rw [List.getElem?_eq_getElem hlt] at hy; injection hy
  rw [List.set_append_right _ _ (by omega), l1, Nat.add_sub_cancel_left, List.set_append_right _ _ (by omega), l2, Nat.sub_self, List.drop_eq_getElem_cons l3, List.set_cons_zero, List.take_succ_eq_append_getElem hlt, e, List.append_assoc]
  rfl
theorem apart_eq (k s l : List Int) (hk : k.length = 32) (hs : s.length = 16) : les 16 (vl (tag k l) - vl (tag (k.take 16 ++ s) l)) = les 16 (vl (k.drop 16) - vl s) := by
  have lt : (k.take 16).length = 16 := by rw [List.length_take]; omega
  have e1 : (k.take 16 ++ s).take 16 = k.take 16 := by rw [List.take_append_of_le_length (by omega), List.take_of_length_le (by omega)]
  have e2 : (k.take 16 ++ s).drop 16 = s := by rw [List.drop_append_of_le_length (by omega), List.drop_eq_nil_of_le (by omega), List.nil_append]
  have er : rr (k.take 16 ++ s) = rr k := by unfold rr; rw [e1]
  rw [tag, tag, er, e2, vl_les, vl_les]
  obtain ⟨h, hh⟩ : ∃ h, h = hsh (rr k) l := ⟨_, rfl⟩
  rw [← hh]
  obtain ⟨a, ha⟩ : ∃ a, a = vl (k.drop 16) := ⟨_, rfl⟩
  obtain ⟨b, hb⟩ : ∃ a, a = vl s := ⟨_, rfl⟩
  rw [← ha, ← hb]
  have e := les_add 16 ((h + b) / 256 ^ 16 - (h + a) / 256 ^ 16) (a - b)
  rw [← e]
  congr 1
  simp only [Int.reducePow]
  omega
set_option maxRecDepth 100000 in
set_option maxHeartbeats 16000000 in
theorem law_apart_any (k0 : List Int) (k1 : List Int) (g2 : Nat) (A2 : Option Addr) (m2 s2 : Nat) (l2 : List Int) (w : World) (lk0 : k0.length = 32) (bk0 : Bys k0) (lk1 : k1.length = 16) (bk1 : Bys k1) (hs2 : Sl w g2 (.slice A2 m2 s2) l2) (hn2 : m2 ≤ 140737488351232) (hg2 : l2 ≠ [] → g2 < w.heap.size) :
    Calls Try.prog 10 #[.agg (vs .u8 k0), .agg (vs .u8 k1), .slice A2 m2 s2] w fun e w' => e = .returned (.bool true) ∧ Fr (fun _ => False) w w' := by
  obtain ⟨K, hK⟩ : ∃ K, K = k0.take 16 ++ k1 := ⟨_, rfl⟩
  have lK : K.length = 32 := by rw [hK, List.length_append, List.length_take, lk0, lk1]; rfl
  have bK : Bys K := by rw [hK]; exact (bk0.take 16).append bk1
  obtain ⟨t0, ht0⟩ : ∃ t, t = tag k0 l2 := ⟨_, rfl⟩
  obtain ⟨t1, ht1⟩ : ∃ t, t = tag K l2 := ⟨_, rfl⟩
  obtain ⟨t2, ht2⟩ : ∃ t, t = k0.drop 16 := ⟨_, rfl⟩
  obtain ⟨d, hd⟩ : ∃ d, d = les 16 (vl t0 - vl t1) := ⟨_, rfl⟩
  have l0 : t0.length = 16 := by rw [ht0]; exact tag_length _ _
  have l1 : t1.length = 16 := by rw [ht1]; exact tag_length _ _
  have lt2 : t2.length = 16 := by rw [ht2, List.length_drop, lk0]
  have ld : d.length = 16 := by rw [hd]; exact les_length _ _
  have b0 : Bys t0 := by rw [ht0]; exact tag_bys _ _
  have b1 : Bys t1 := by rw [ht1]; exact tag_bys _ _
  have b2 : Bys t2 := by rw [ht2]; exact bk0.drop 16
  have hd2 : les 16 (vl t2 - vl k1) = d := by rw [hd, ht0, ht1, ht2, hK]; exact (apart_eq k0 k1 l2 lk0 lk1).symm
  have HE : ∀ W, (Op.equalIn 10000 26 (.agg (vs .u8 d)) (.agg (vs .u8 d))).run Try.prog W = .ok true W := fun W => (eq26 d d ld ld W).trans (by rw [decide_eq_true rfl])
  have C15 : ∀ V, Calm w V → ∀ U, Calm U V → Calls Try.prog 15 #[.agg (vs .u8 k0), .slice A2 m2 s2] V fun e w' => e = .returned (.agg (vs .u8 t0)) ∧ Calm U w' := fun V h U hU => by
    rw [ht0]
    exact (tag_is k0 g2 A2 m2 s2 l2 V lk0 bk0 (hs2.fr h (fun _ x => x)) (fun e => Nat.lt_of_lt_of_le (hg2 e) h.size)).mono fun _ _ ⟨he, hf⟩ => ⟨he, Fr.trans hU hf⟩
  have C15b : ∀ V, Calm w V → ∀ U, Calm U V → Calls Try.prog 15 #[.agg (vs .u8 K), .slice A2 m2 s2] V fun e w' => e = .returned (.agg (vs .u8 t1)) ∧ Calm U w' := fun V h U hU => by
    rw [ht1]
    exact (tag_is K g2 A2 m2 s2 l2 V lK bK (hs2.fr h (fun _ x => x)) (fun e => Nat.lt_of_lt_of_le (hg2 e) h.size)).mono fun _ _ ⟨he, hf⟩ => ⟨he, Fr.trans hU hf⟩
  have C25 : ∀ V, Calls Try.prog 25 #[.agg (vs .u8 t0), .agg (vs .u8 t1)] V fun e w' => e = .returned (.agg (vs .u8 d)) ∧ Fr (fun _ => False) V w' := fun V => by rw [hd]; exact less_is t0 t1 V l0 l1 b0 b1
  have C25b : ∀ V, Calls Try.prog 25 #[.agg (vs .u8 t2), .agg (vs .u8 k1)] V fun e w' => e = .returned (.agg (vs .u8 d)) ∧ Fr (fun _ => False) V w' := fun V => by rw [← hd2]; exact less_is t2 k1 V lt2 lk1 b2 bk1
  have C24 : ∀ V, Calls Try.prog 24 #[.agg (vs .u8 k0)] V fun e w' => e = .returned (.agg (vs .u8 t2)) ∧ Fr (fun _ => False) V w' := fun V => by rw [ht2]; exact tail_is k0 V lk0 bk0
  obtain ⟨Z, hZ⟩ : ∃ Z, Z = List.replicate 32 (0 : Int) := ⟨_, rfl⟩
  have hz : ∀ W : World, (zeroValue 23).run Try.prog W = .ok (.agg (vs .u8 Z)) W := fun W => by rw [hZ]; kernel_rfl
  have lZ : Hid (Z.length = 32) := by show _ = _; rw [hZ]; rfl
  have s0 := Lib.hid (keys_info lk0)
  have s1 := Lib.hid (keys_info lK)
  have sk := Lib.hid (tags_info lk1)
  have lk := Lib.hid (And.intro lk0 lk1)
  obtain ⟨KS, hKS⟩ : ∃ f : Nat → List Int, f = ks k0 k1 := ⟨_, rfl⟩
  have N0 : Hid (KS 0 = k0) := by show _ = _; rw [hKS, ks_zero]
  have N1 : Hid (∀ i y, i < 16 → k1[i]? = some y → (KS i).set (16 + i) y = KS (i + 1)) := by show ∀ _ _, _; intro i y hi hy; rw [hKS]; exact ks_set k0 k1 lk0 lk1 i hi y hy
  have N2 : Hid (∀ i, i ≤ 16 → (KS i).length = 32) := by show ∀ _, _; intro i hi; rw [hKS]; exact ks_length k0 k1 lk0 lk1 i hi
  have N3 : Hid (KS 16 = K) := by show _ = _; rw [hKS, hK]; exact ks_all k0 k1 lk0 lk1
  clear hKS hK lK bK ht0 ht1 ht2 hd hd2 l0 l1 lt2 ld b0 b1 b2 hZ lk0 lk1 bk0 bk1 hs2 hn2 hg2
  go_enter Try.func10, Try.ntmps10
  go_upto_region 1 with (fail)
  generalize hW0 : (w.alloc (.cells (vs .u8 k0) 23)).alloc (.cells (vs .u8 k1) 26) = W0
  have HW := Lib.hid (calm2 hW0)
  have X0 : Hid (Ar W0 w.heap.size 23 .u8 k0) := HW.out.1
  have X1 : Hid (Ar W0 (w.heap.size + 1) 26 .u8 k1) := HW.out.2.1
  have F0 : Hid (Fr (fun _ => False) w W0) := HW.out.2.2
  clear hW0 HW
  go_upto_region 3 with (go_at_call 18; refine (works_is _).mono ?_; rintro e w1 ⟨rfl, hf⟩)
  replace X0 := Lib.hid (Ar.fr X0.out hf (fun x => x))
  replace X1 := Lib.hid (Ar.fr X1.out hf (fun x => x))
  replace F0 := Lib.hid (F0.out.trans hf)
  clear hf
  go_upto_region 4 with (first
    | refine wpList_load_row rfl 23 (.tmp 3) rfl (w.heap.size) rfl 23 (vs .u8 k0) (0, 0) _ X0.out Try.underlying23 rfl s0.out ?_
    | refine wpList_store_row rfl 23 (.tmp 7) (.tmp 11) rfl w1.heap.size (vs .u8 k0) rfl rfl 23 (vs .u8 Z) (heap_alloc_new w1 (.cells (vs .u8 Z) 23)) s0.out (by rw [vs_size, vs_size, lZ.out, lk.out.1]) (vs_all _ _) ?_)
  obtain ⟨q, hq⟩ : ∃ q, q = w1.heap.size := ⟨_, rfl⟩
  have hq0 : w.heap.size + 1 < q := by rw [hq]; exact X1.out.lt
  have Y0 : Hid (Ar ((w1.alloc (.cells (vs .u8 Z) 23)).setRow w1.heap.size (vs .u8 k0)) q 23 .u8 (KS 0)) := by rw [hq, N0.out]; exact (Ar.new w1 23 .u8 Z).row k0
  have hff : Fr (fun _ => False) w1 ((w1.alloc (.cells (vs .u8 Z) 23)).setRow w1.heap.size (vs .u8 k0)) := ((Fr.refl _ _).alloc _).setRow _ (.inr (Nat.le_refl _))
  replace X0 := Lib.hid (Ar.fr X0.out hff (fun x => x))
  replace X1 := Lib.hid (Ar.fr X1.out hff (fun x => x))
  replace F0 := Lib.hid (F0.out.trans hff)
  rw [← hq] at X0 X1 Y0 F0 ⊢
  clear hff hq hz
  generalize (w1.alloc (.cells (vs .u8 Z) 23)).setRow q (vs .u8 k0) = W2 at *
  go_wp2
  go_loopw [8] (fun u8 wr => ∃ i : Nat, u8 = .int .i64 i ∧ i ≤ 16 ∧ Hid (Ar wr q 23 .u8 (KS i)) ∧ Hid (Ar wr w.heap.size 23 .u8 k0) ∧ Hid (Ar wr (w.heap.size + 1) 26 .u8 k1) ∧ Hid (Fr (fun _ => False) w wr))
    (fun u8 _ => 16 - (intOf u8).toNat)
  case atStart => exact ⟨0, rfl, by omega, Y0, X0, X1, F0⟩
  case round =>
    clear X0 X1 F0 Y0
    obtain ⟨i, rfl, hi, hA, h0, h1, hF⟩ := hrel
    by_cases hil : i < 16
    · have gy := getD_some (l := k1) (i := i) (by rw [lk.out.2]; exact hil)
      obtain ⟨y, hy⟩ : ∃ y, k1.getD i 0 = y := ⟨_, rfl⟩
      rw [hy] at gy
      have k1c := h1.out.cell gy
      have ck := hA.out.cell (getD_some (l := KS i) (i := 16 + i) (by rw [N2.out i hi]; omega))
      have fk := hA.out.frozen (16 + i)
      have A9 := Lib.hid (hA.out.set (16 + i) y)
      rw [N1.out i y hil gy] at A9
      obtain ⟨z, hz⟩ : ∃ z, (KS i).getD (16 + i) 0 = z := ⟨_, rfl⟩
      rw [hz] at ck
      have v0 : IntKind.i64.wrap (16 + (i : Int)) = 16 + i := by rw [IntKind.wrap_i64]; omega
      have j1 : ((i : Int)).toNat = i := by omega
      have j2 : 0 ≤ (i : Int) := by omega
      have j3 : (i : Int) < 16 := by omega
      have j4 : (16 + (i : Int)).toNat = 16 + i := by omega
      have j5 : 0 ≤ 16 + (i : Int) := by omega
      have j6 : 16 + (i : Int) < 32 := by omega
      clear gy hy hA hz
      go_wp2
      go_roundw
      case rel => exact ⟨i + 1, by go_num, by omega, A9, h0.out.far (by simp <;> omega) _, h1.out.far (by simp <;> omega) _, hF.out.setCell _ (.inr (by simp <;> omega))⟩
      case measure => simp [intOf]; omega
    · have hi16 : i = 16 := by omega
      have A9 : Hid (Ar wr q 23 .u8 K) := by rw [← N3.out, ← hi16]; exact hA.out
      have CU : ∀ V, Calm wr V → Calls Try.prog 15 #[.agg (vs .u8 k0), .slice A2 m2 s2] V fun e w' => e = .returned (.agg (vs .u8 t0)) ∧ Calm wr w' := fun V h => C15 V (Fr.trans hF.out h) wr h
      have CT : ∀ V, Calm wr V → Calls Try.prog 15 #[.agg (vs .u8 K), .slice A2 m2 s2] V fun e w' => e = .returned (.agg (vs .u8 t1)) ∧ Calm wr w' := fun V h => C15b V (Fr.trans hF.out h) wr h
      clear hA
      go_upto_region 8 with (fail)
      refine wp_region_quiet (C := Calm wr) (by kernel_rfl) (by kernel_rfl) (Calm.start _ _ (Fr.refl _ _)) ?_
      refine BigFrame.wpQuiet_want rfl fun K hK => quiet_load 23 (.tmp 3) rfl (w.heap.size) rfl 23 _ (0, 0) _ (fun _ h => Calm.at h0.out h) Try.underlying23 rfl s0.out (hK _ ?_)
      refine BigFrame.wpQuiet_want rfl fun K hK => ?_
      try simp only [Act.put, List.setIfInBounds_toArray, List.set_cons_succ, List.set_cons_zero]
      go_big_quiet_op
      refine hK _ ?_
      refine BigFrame.wpQuiet_want rfl fun K hK => ?_
      try simp only [Act.put, List.setIfInBounds_toArray, List.set_cons_succ, List.set_cons_zero]
      go_big_quiet_op
      refine ⟨_, CU, hK _ ?_⟩
      refine BigFrame.wpQuiet_want rfl fun K hK => quiet_load 23 (.tmp 7) rfl (q) rfl 23 _ (0, 0) _ (fun _ h => Calm.at A9.out h) Try.underlying23 rfl s1.out (hK _ ?_)
      refine BigFrame.wpQuiet_want rfl fun K hK => ?_
      try simp only [Act.put, List.setIfInBounds_toArray, List.set_cons_succ, List.set_cons_zero]
      go_big_quiet_op
      refine hK _ ?_
      refine BigFrame.wpQuiet_want rfl fun K hK => ?_
      try simp only [Act.put, List.setIfInBounds_toArray, List.set_cons_succ, List.set_cons_zero]
      go_big_quiet_op
      refine ⟨_, CT, hK _ ?_⟩
      refine BigFrame.wpQuiet_want rfl fun K hK => ?_
      try simp only [Act.put, List.setIfInBounds_toArray, List.set_cons_succ, List.set_cons_zero]
      go_big_quiet_op
      refine ⟨_, Calm.calls C25, hK _ ?_⟩
      refine BigFrame.wpQuiet_want rfl fun K hK => quiet_load 23 (.tmp 3) rfl (w.heap.size) rfl 23 _ (0, 0) _ (fun _ h => Calm.at h0.out h) Try.underlying23 rfl s0.out (hK _ ?_)
      refine BigFrame.wpQuiet_want rfl fun K hK => ?_
      try simp only [Act.put, List.setIfInBounds_toArray, List.set_cons_succ, List.set_cons_zero]
      go_big_quiet_op
      refine ⟨_, Calm.calls C24, hK _ ?_⟩
      refine BigFrame.wpQuiet_want rfl fun K hK => quiet_load 26 (.tmp 4) rfl (w.heap.size + 1) rfl 26 _ (0, 0) _ (fun _ h => Calm.at h1.out h) Try.underlying26 rfl sk.out (hK _ ?_)
      refine BigFrame.wpQuiet_want rfl fun K hK => ?_
      try simp only [Act.put, List.setIfInBounds_toArray, List.set_cons_succ, List.set_cons_zero]
      go_big_quiet_op
      refine ⟨_, Calm.calls C25b, hK _ ?_⟩
      refine BigFrame.wpQuiet_want rfl fun K hK => ?_
      try simp only [Act.put, List.setIfInBounds_toArray, List.set_cons_succ, List.set_cons_zero]
      go_big_quiet_op
      first
        | refine ⟨_, fun _ _ => rfl, hK _ ?_⟩
        | refine hK _ ?_
      refine BigFrame.wpQuiet_want rfl fun K hK => ?_
      try simp only [Act.put, List.setIfInBounds_toArray, List.set_cons_succ, List.set_cons_zero]
      go_big_quiet_op
      refine hK _ ?_
      refine wpQuiet_nil ?_
      intro w9 hw9
      have F9 : Hid (Fr (fun _ => False) w w9) := hF.out.trans hw9
      have G9 := Lib.hid hw9
      clear hw9
      try simp only [Act.put, List.setIfInBounds_toArray, List.set_cons_succ, List.set_cons_zero]
      go_wp2
      go_ret
      exact ⟨rfl, F9.out⟩

set_option maxRecDepth 100000 in
theorem law_apart_lifted (os : Os) (started : os.Started) (H : Type) (enc : TypeId × Value → H) :
    ReturnsInHanded {} Try.checked os 10 .any (Rows.polyApartSpec.pre6 enc Try.prog Try.f10 Rows.polyApartRow.domain false) (Rows.polyApartSpec.post enc Try.prog Try.f10 false true false false) := by
  refine returnsInHanded_of_change_sized (C := Try.checked) own started (by kernel_rfl) Try.func10
    (ChangeSpec.witness6 (enc := enc) (C := Try.checked) false ⟨#[], #[.agg (vs .u8 (List.replicate 32 0)), .agg (vs .u8 (List.replicate 16 0)), .slice none 0 0], []⟩ 8 (by kernel_rfl) (by kernel_rfl) (by kernel_rfl) (by kernel_rfl)) ?_
  intro W base args ds gs before hval0 hW hcnd hsz0 _
  have hsz : (DataW.weightsEach Try.prog (Try.f10.params.toList ++ Rows.polyApartSpec.plain.varTypes Try.prog) (ds ++ gs)).all (· ≤ reachBytes) = true := hsz0
  clear hsz0
  have hval : ∀ (j : Nat) t v, Try.f10.params[j]? = some t → args[j]? = some v → Value.okWide Try.prog W .any base t v := hval0
  have hW' := hW
  obtain ⟨p, q, hA0, hV, rfl, hfz, hnd⟩ := hW
  have hA : DataW.TrodAll enc Try.prog W 0 (fun _ => true) true Try.f10.params.toList args.toList ds p := hA0
  rw [Try.params10] at hA hval hsz
  obtain ⟨v0, vs0, d0, ds0, p0, q0, hargs, rfl, rfl, h0, r0⟩ := trodAll_cons hA
  obtain ⟨v1, vs1, d1, ds1, p1, q1, rfl, rfl, rfl, h1, r1⟩ := trodAll_cons r0
  obtain ⟨v2, vs2, d2, ds2, p2, q2, rfl, rfl, rfl, h2, r2⟩ := trodAll_cons r1
  obtain ⟨rfl, rfl, rfl⟩ := trodAll_nil r2
  obtain rfl : args = #[v0, v1, v2] := by cases args; simp_all
  obtain ⟨rfl, rfl⟩ := trodVars_none hV
  have hlt2 : ∀ x ∈ p2, x.block < W.heap.size := fun x hx => hW'.lt x (by simp [hx])
  obtain ⟨k0, rfl, lk0, bk0⟩ := open_key (hval 0 23 v0 rfl rfl) h0
  obtain ⟨k1, rfl, lk1, bk1⟩ := open_a16 (hval 1 26 v1 rfl rfl) h1
  obtain ⟨A2, m2, s2, g2, l2, rfl, hs2, hg2⟩ := open_sl (hval 2 24 v2 rfl rfl) h2 hlt2
  have hn2 : m2 ≤ 140737488351232 := by
    rcases open_len h2 with e | ⟨el, sp, rfl, hle⟩
    · omega
    · have := sized_slice hsz (j := 2) (t := 24) (e := 5) rfl rfl Try.underlying24
      rw [Try.bytes5] at this
      simp only [reachBytes] at this
      omega
  clear hA0 hval0
  refine (law_apart_any k0 k1 g2 A2 m2 s2 l2 W lk0 bk0 lk1 bk1 hs2 hn2 hg2).mono fun e W' ⟨he, hg⟩ => ?_
  subst he
  exact ⟨_, rfl, post_true rfl hW' (by kernel_rfl) rfl rfl hg⟩

theorem polyApart_holds : Rows.PolyApartSaid :=
  OpenClaim.holds_of_wide 10 Try.f10 rfl rfl rfl rfl rfl rfl rfl ⟨rfl, rfl, rfl, rfl, rfl⟩ rfl rfl rfl rfl rfl (by kernel_rfl) Try.func10 (by kernel_rfl)
    (of_decide_eq_true (by kernel_rfl)) (by unfold Func.isWrapper; first | (rw [if_pos (by decide +kernel)]; kernel_rfl) | (rw [if_neg (by decide +kernel)]; exact ⟨rfl, rfl⟩))
    (fun os started H enc _ => law_apart_lifted os started H enc)
#print axioms polyApart_holds
end Go.Proofs.Ytcoggpedpclkaaa
