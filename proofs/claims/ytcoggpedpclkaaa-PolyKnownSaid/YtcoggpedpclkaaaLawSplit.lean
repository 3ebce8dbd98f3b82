/- PolySplit answers true for all keys, bytes and places, and its arguments read behind the call as they did: the given statement PolySplitSaid. No condition. -/
import Derived.Test.YtcoggpedpclkaaaLi
namespace Go.Proofs.Ytcoggpedpclkaaa
set_option linter.unusedSimpArgs false
set_option linter.unusedVariables false
open Go.ChangeShapes Go.WideShapes Go.ChangeAt Go.RowKit

set_option maxRecDepth 100000 in
set_option maxHeartbeats 16000000 in
theorem law_split_any (k0 : List Int) (g1 : Nat) (A1 : Option Addr) (m1 s1 : Nat) (l1 : List Int) (a2 : Int) (w : World) (lk0 : k0.length = 32) (bk0 : Bys k0) (hs1 : Sl w g1 (.slice A1 m1 s1) l1) (hn1 : m1 ≤ 140737488351232) (hg1 : l1 ≠ [] → g1 < w.heap.size) (hi2 : -9223372036854775808 ≤ a2 ∧ a2 ≤ 9223372036854775807) :
    Calls Try.prog 6 #[.agg (vs .u8 k0), .slice A1 m1 s1, .int .i64 a2] w fun e w' => e = .returned (.bool true) ∧ Fr (fun _ => False) w w' := by
  obtain ⟨mx, hmx⟩ : ∃ x, (if a2 < 0 then 0 else a2) = x := ⟨_, rfl⟩
  have hmx0 : 0 ≤ mx := by rw [← hmx]; split <;> omega
  obtain ⟨d, hd⟩ : ∃ d : Nat, (if (m1 : Int) < mx then (m1 : Int) else mx) = (d : Int) := ⟨(if (m1 : Int) < mx then (m1 : Int) else mx).toNat, by split <;> omega⟩
  have hdm : d ≤ m1 := by split at hd <;> omega
  have hl1 := hs1.len
  obtain ⟨t0, ht0⟩ : ∃ t, t = tag k0 (l1.take d) := ⟨_, rfl⟩
  obtain ⟨t1, ht1⟩ : ∃ t, t = tag k0 l1 := ⟨_, rfl⟩
  have lt0 : t0.length = 16 := by rw [ht0]; exact tag_length _ _
  have lt1 : t1.length = 16 := by rw [ht1]; exact tag_length _ _
  have HE0 : ∀ W, (Op.equalIn 10000 26 (.agg (vs .u8 t0)) (.agg (vs .u8 t0))).run Try.prog W = .ok true W := fun W => (eq26 t0 t0 lt0 lt0 W).trans (by rw [decide_eq_true rfl])
  have HE1 : ∀ W, (Op.equalIn 10000 26 (.agg (vs .u8 t1)) (.agg (vs .u8 t1))).run Try.prog W = .ok true W := fun W => (eq26 t1 t1 lt1 lt1 W).trans (by rw [decide_eq_true rfl])
  have HK := Lib.hid (And.intro lk0 bk0)
  have HS := Lib.hid (And.intro hs1 hg1)
  have HT := Lib.hid (And.intro ht0 ht1)
  have HL := Lib.hid (And.intro lt0 lt1)
  have s23 := Lib.hid (keys_info lk0)
  have s0 := Lib.hid (tags_info lt0)
  have s1' := Lib.hid (tags_info lt1)
  obtain ⟨Z, hZ⟩ : ∃ Z, Z = List.replicate 16 (0 : Int) := ⟨_, rfl⟩
  have lZ : Hid (Z.length = 16) := by show _ = _; rw [hZ]; rfl
  have hz2 : ∀ W : World, (zeroValue 26).run Try.prog W = .ok (.agg (vs .u8 Z)) W := fun W => by rw [hZ]; exact zero26 W
  have hms : m1 ≤ s1 := by
    obtain ⟨_, A', c', e, h3, _⟩ := hs1
    injection e with _ e2 e3
    omega
  have hml : Hid (l1.length = m1) := hl1
  have jd1 : ((d : Int)).toNat = d := by omega
  have jd2 : 0 ≤ (d : Int) := by omega
  have jd3 : (d : Int) ≤ m1 := by omega
  have jd4 : (d : Int) ≤ s1 := by omega
  clear hmx0 hl1 ht0 ht1 lt0 lt1 lk0 bk0 hs1 hg1 hn1 hZ
  go_enter Try.func6, Try.ntmps6
  go_upto_region 1 with (fail)
  have X0 : Hid (Ar (w.alloc (.cells (vs .u8 k0) 23)) w.heap.size 23 .u8 k0) := heap_alloc_new w _
  have F0 : Hid (Fr (fun _ => False) w (w.alloc (.cells (vs .u8 k0) 23))) := (Fr.refl _ _).alloc _
  generalize w.alloc (.cells (vs .u8 k0) 23) = W0 at *
  go_upto_region 3 with (go_at_call 18; refine (works_is _).mono ?_; rintro e w1 ⟨rfl, hf⟩)
  replace X0 := Lib.hid (Ar.fr X0.out hf (fun x => x))
  replace F0 := Lib.hid (F0.out.trans hf)
  clear hf
  go_upto_region 4 with (fail)
  clear hmx hd
  go_upto_region 5 with (first
    | refine wpList_load_row rfl 23 (.tmp 3) rfl (w.heap.size) rfl 23 (vs .u8 k0) (0, 0) _ X0.out Try.underlying23 rfl s23.out ?_
    | (go_at_call 19; refine (new_is k0 _ HK.out.1 HK.out.2).mono ?_; rintro e w2 ⟨g, hg, rfl, hp, hf⟩))
  have hg0 : w.heap.size < g := Nat.lt_of_lt_of_le X0.out.lt hg
  obtain ⟨gc, hgc, hsc, hgc2⟩ := (HS.out.1.fr F0.out (fun _ x => x)).apart (fun h => Nat.lt_of_lt_of_le (HS.out.2 h) F0.out.size) g hg
  have HC := Lib.hid (And.intro hgc (And.intro (hsc.fr hf (fun _ x => x)) (fun h => Nat.lt_of_lt_of_le (hgc2 h) hf.size)))
  replace X0 := Lib.hid (Ar.fr X0.out hf (fun x => x))
  replace F0 := Lib.hid (F0.out.trans hf)
  have HP := Lib.hid hp
  clear hg hp hf hgc hsc hgc2
  have W1 := write_is k0 [] g gc A1 d s1 (l1.take d) w2 HK.out.1 HK.out.2 HP.out (HC.out.2.1.take d (by rw [hml.out]; exact hdm)) HC.out.1 (fun e => HC.out.2.2 (fun e2 => e (by rw [e2]; simp)))
  rw [List.nil_append] at W1
  go_upto_region 6 with (go_at_call 20; refine W1.mono ?_; rintro e w3 ⟨rfl, hp3, hf3⟩)
  have P3 := Lib.hid hp3
  have S3 := Lib.hid (HC.out.2.1.fr hf3 (fun _ => HC.out.1))
  have G3 := Lib.hid (fun h => Nat.lt_of_lt_of_le (HC.out.2.2 h) hf3.size)
  replace X0 := Lib.hid (Ar.fr X0.out hf3 (show ¬ _ = g by omega))
  replace F0 : Hid (Fr (fun _ => False) w w3) := F0.out.trans' hf3 (fun i hi e => absurd e (by omega))
  clear hp3 hf3 HP W1
  go_upto_region 7 with (first
    | (go_at_call 21; refine (sum_is k0 (l1.take d) g w3 HK.out.1 HK.out.2 P3.out).mono ?_; rw [← HT.out.1]; rintro e w4 ⟨rfl, hf4⟩)
    | refine wpList_store_row rfl 26 (.tmp 8) (.tmp 25) rfl w4.heap.size (vs .u8 t0) rfl rfl 26 (vs .u8 Z) (heap_alloc_new w4 (.cells (vs .u8 Z) 26)) s0.out (by rw [vs_size, vs_size, lZ.out, HL.out.1]) (vs_all _ _) ?_)
  obtain ⟨q8, hq8⟩ : ∃ q, q = w4.heap.size := ⟨_, rfl⟩
  have hgq : g < q8 := by rw [hq8]; exact Nat.lt_of_lt_of_le P3.out.lt hf4.size
  have Y8 : Hid (Ar ((w4.alloc (.cells (vs .u8 Z) 26)).setRow w4.heap.size (vs .u8 t0)) q8 26 .u8 t0) := by rw [hq8]; exact (Ar.new w4 26 .u8 Z).row t0
  have hff : Fr (fun _ => False) w3 ((w4.alloc (.cells (vs .u8 Z) 26)).setRow w4.heap.size (vs .u8 t0)) := (hf4.alloc _).setRow _ (.inr hf4.size)
  replace X0 := Lib.hid (Ar.fr X0.out hff (fun x => x))
  replace P3 := Lib.hid (P3.out.fr hff (fun x => x))
  replace S3 := Lib.hid (S3.out.fr hff (fun _ x => x))
  replace G3 := Lib.hid (fun h => Nat.lt_of_lt_of_le (G3.out h) hff.size)
  replace F0 := Lib.hid (F0.out.trans hff)
  rw [← hq8] at X0 P3 S3 G3 F0 Y8 ⊢
  clear hff hf4 hq8
  generalize (w4.alloc (.cells (vs .u8 Z) 26)).setRow q8 (vs .u8 t0) = W5 at *
  try simp only [Act.put, List.setIfInBounds_toArray, List.set_cons_succ, List.set_cons_zero]
  have W2 := write_is k0 (l1.take d) g (g + 1) none 0 0 [] W5 HK.out.1 HK.out.2 P3.out (Sl.nil _ _) (by omega) (fun e => absurd rfl e)
  rw [List.append_nil] at W2
  go_upto_region 8 with (go_at_call 20; refine W2.mono ?_; rintro e w6 ⟨rfl, hp6, hf6⟩)
  have P6 := Lib.hid hp6
  replace S3 := Lib.hid (S3.out.fr hf6 (fun _ => HC.out.1))
  replace G3 := Lib.hid (fun h => Nat.lt_of_lt_of_le (G3.out h) hf6.size)
  replace X0 := Lib.hid (Ar.fr X0.out hf6 (show ¬ _ = g by omega))
  replace Y8 := Lib.hid (Ar.fr Y8.out hf6 (show ¬ _ = g by omega))
  replace F0 : Hid (Fr (fun _ => False) w w6) := F0.out.trans' hf6 (fun i hi e => absurd e (by omega))
  clear hp6 hf6 P3 W2
  have W3 := write_is k0 (l1.take d) g gc (if s1 = d then A1 else A1.map (·.add d)) (m1 - d) (s1 - d) (l1.drop d) w6 HK.out.1 HK.out.2 P6.out (by have h := S3.out.drop d (by rw [hml.out]; exact hdm); rwa [hml.out] at h) HC.out.1 (fun e => G3.out (fun e2 => e (by rw [e2]; simp)))
  rw [List.take_append_drop] at W3
  go_upto_region 9 with (go_at_call 20; refine W3.mono ?_; rintro e w7 ⟨rfl, hp7, hf7⟩)
  have P7 := Lib.hid hp7
  replace S3 := Lib.hid (S3.out.fr hf7 (fun _ => HC.out.1))
  replace G3 := Lib.hid (fun h => Nat.lt_of_lt_of_le (G3.out h) hf7.size)
  replace X0 := Lib.hid (Ar.fr X0.out hf7 (show ¬ _ = g by omega))
  replace Y8 := Lib.hid (Ar.fr Y8.out hf7 (show ¬ _ = g by omega))
  replace F0 : Hid (Fr (fun _ => False) w w7) := F0.out.trans' hf7 (fun i hi e => absurd e (by omega))
  clear hp7 hf7 P6 W3
  go_upto_region 10 with (first
    | (go_at_call 21; refine (sum_is k0 l1 g w7 HK.out.1 HK.out.2 P7.out).mono ?_; rw [← HT.out.2]; rintro e w8 ⟨rfl, hf8⟩)
    | refine wpList_store_row rfl 26 (.tmp 9) (.tmp 34) rfl w8.heap.size (vs .u8 t1) rfl rfl 26 (vs .u8 Z) (heap_alloc_new w8 (.cells (vs .u8 Z) 26)) s1'.out (by rw [vs_size, vs_size, lZ.out, HL.out.2]) (vs_all _ _) ?_)
  obtain ⟨q9, hq9⟩ : ∃ q, q = w8.heap.size := ⟨_, rfl⟩
  have Y9 : Hid (Ar ((w8.alloc (.cells (vs .u8 Z) 26)).setRow w8.heap.size (vs .u8 t1)) q9 26 .u8 t1) := by rw [hq9]; exact (Ar.new w8 26 .u8 Z).row t1
  have hff : Fr (fun _ => False) w7 ((w8.alloc (.cells (vs .u8 Z) 26)).setRow w8.heap.size (vs .u8 t1)) := (hf8.alloc _).setRow _ (.inr hf8.size)
  replace X0 := Lib.hid (Ar.fr X0.out hff (fun x => x))
  replace Y8 := Lib.hid (Ar.fr Y8.out hff (fun x => x))
  replace P7 := Lib.hid (P7.out.fr hff (fun x => x))
  replace S3 := Lib.hid (S3.out.fr hff (fun _ x => x))
  replace G3 := Lib.hid (fun h => Nat.lt_of_lt_of_le (G3.out h) hff.size)
  replace F0 := Lib.hid (F0.out.trans hff)
  rw [← hq9] at X0 Y8 P7 S3 G3 F0 Y9 ⊢
  clear hff hf8 hq9 hz2
  generalize (w8.alloc (.cells (vs .u8 Z) 26)).setRow q9 (vs .u8 t1) = W9 at *
  try simp only [Act.put, List.setIfInBounds_toArray, List.set_cons_succ, List.set_cons_zero]
  have CA : ∀ V, Calm W9 V → Calls Try.prog 15 #[.agg (vs .u8 k0), .slice A1 d s1] V fun e w' => e = .returned (.agg (vs .u8 t0)) ∧ Calm W9 w' := fun V h => by
    rw [HT.out.1]
    exact (tag_is k0 gc A1 d s1 (l1.take d) V HK.out.1 HK.out.2 ((S3.out.fr h (fun _ x => x)).take d (by rw [hml.out]; exact hdm)) (fun e => Nat.lt_of_lt_of_le (G3.out (fun e2 => e (by rw [e2]; simp))) h.size)).mono fun _ _ ⟨he, hf⟩ => ⟨he, Fr.trans h hf⟩
  have CB : ∀ V, Calm W9 V → Calls Try.prog 15 #[.agg (vs .u8 k0), .slice A1 m1 s1] V fun e w' => e = .returned (.agg (vs .u8 t1)) ∧ Calm W9 w' := fun V h => by
    rw [HT.out.2]
    exact (tag_is k0 gc A1 m1 s1 l1 V HK.out.1 HK.out.2 (S3.out.fr h (fun _ x => x)) (fun e => Nat.lt_of_lt_of_le (G3.out e) h.size)).mono fun _ _ ⟨he, hf⟩ => ⟨he, Fr.trans h hf⟩
  have CC : ∀ V, Calm W9 V → Calls Try.prog 21 #[.pointer (some ⟨g, 0, none⟩)] V fun e w' => e = .returned (.agg (vs .u8 t1)) ∧ Calm W9 w' := fun V h => by
    rw [HT.out.2]
    exact (sum_is k0 l1 g V HK.out.1 HK.out.2 (P7.out.fr h (fun x => x))).mono fun _ _ ⟨he, hf⟩ => ⟨he, Fr.trans h hf⟩
  refine wp_region_quiet (C := Calm W9) (by kernel_rfl) (by kernel_rfl) (Calm.start _ _ (Fr.refl _ _)) ?_
  refine BigFrame.wpQuiet_want rfl fun K hK => quiet_load 26 (.tmp 8) rfl (q8) rfl 26 _ (0, 0) _ (fun _ h => Calm.at Y8.out h) Try.underlying26 rfl s0.out (hK _ ?_)
  refine BigFrame.wpQuiet_want rfl fun K hK => quiet_load 23 (.tmp 3) rfl (w.heap.size) rfl 23 _ (0, 0) _ (fun _ h => Calm.at X0.out h) Try.underlying23 rfl s23.out (hK _ ?_)
  refine BigFrame.wpQuiet_want rfl fun K hK => ?_
  try simp only [Act.put, List.setIfInBounds_toArray, List.set_cons_succ, List.set_cons_zero]
  go_big_quiet_op
  refine hK _ ?_
  refine BigFrame.wpQuiet_want rfl fun K hK => ?_
  try simp only [Act.put, List.setIfInBounds_toArray, List.set_cons_succ, List.set_cons_zero]
  go_big_quiet_op
  refine hK _ ?_
  refine BigFrame.wpQuiet_want rfl fun K hK => ?_
  try simp only [Act.put, List.setIfInBounds_toArray, List.set_cons_succ, List.set_cons_zero]
  go_big_quiet_op
  first
    | refine ⟨_, fun _ _ => rfl, hK _ ?_⟩
    | refine hK _ ?_
  refine BigFrame.wpQuiet_want rfl fun K hK => ?_
  try simp only [Act.put, List.setIfInBounds_toArray, List.set_cons_succ, List.set_cons_zero]
  go_big_quiet_op
  refine ⟨_, CA, hK _ ?_⟩
  refine BigFrame.wpQuiet_want rfl fun K hK => ?_
  try simp only [Act.put, List.setIfInBounds_toArray, List.set_cons_succ, List.set_cons_zero]
  go_big_quiet_op
  first
    | refine ⟨_, fun _ _ => rfl, hK _ ?_⟩
    | refine hK _ ?_
  refine BigFrame.wpQuiet_want rfl fun K hK => ?_
  try simp only [Act.put, List.setIfInBounds_toArray, List.set_cons_succ, List.set_cons_zero]
  go_big_quiet_op
  refine hK _ ?_
  refine BigFrame.wpQuiet_want rfl fun K hK => quiet_load 26 (.tmp 9) rfl (q9) rfl 26 _ (0, 0) _ (fun _ h => Calm.at Y9.out h) Try.underlying26 rfl s1'.out (hK _ ?_)
  refine BigFrame.wpQuiet_want rfl fun K hK => quiet_load 23 (.tmp 3) rfl (w.heap.size) rfl 23 _ (0, 0) _ (fun _ h => Calm.at X0.out h) Try.underlying23 rfl s23.out (hK _ ?_)
  refine BigFrame.wpQuiet_want rfl fun K hK => ?_
  try simp only [Act.put, List.setIfInBounds_toArray, List.set_cons_succ, List.set_cons_zero]
  go_big_quiet_op
  refine hK _ ?_
  refine BigFrame.wpQuiet_want rfl fun K hK => ?_
  try simp only [Act.put, List.setIfInBounds_toArray, List.set_cons_succ, List.set_cons_zero]
  go_big_quiet_op
  refine ⟨_, CB, hK _ ?_⟩
  refine BigFrame.wpQuiet_want rfl fun K hK => ?_
  try simp only [Act.put, List.setIfInBounds_toArray, List.set_cons_succ, List.set_cons_zero]
  go_big_quiet_op
  first
    | refine ⟨_, fun _ _ => rfl, hK _ ?_⟩
    | refine hK _ ?_
  refine BigFrame.wpQuiet_want rfl fun K hK => ?_
  try simp only [Act.put, List.setIfInBounds_toArray, List.set_cons_succ, List.set_cons_zero]
  go_big_quiet_op
  first
    | refine ⟨_, fun _ _ => rfl, hK _ ?_⟩
    | refine hK _ ?_
  refine BigFrame.wpQuiet_want rfl fun K hK => ?_
  try simp only [Act.put, List.setIfInBounds_toArray, List.set_cons_succ, List.set_cons_zero]
  go_big_quiet_op
  refine hK _ ?_
  refine BigFrame.wpQuiet_want rfl fun K hK => ?_
  try simp only [Act.put, List.setIfInBounds_toArray, List.set_cons_succ, List.set_cons_zero]
  go_big_quiet_op
  refine hK _ ?_
  refine BigFrame.wpQuiet_want rfl fun K hK => ?_
  try simp only [Act.put, List.setIfInBounds_toArray, List.set_cons_succ, List.set_cons_zero]
  go_big_quiet_op
  refine ⟨_, CC, hK _ ?_⟩
  refine BigFrame.wpQuiet_want rfl fun K hK => quiet_load 26 (.tmp 9) rfl (q9) rfl 26 _ (0, 0) _ (fun _ h => Calm.at Y9.out h) Try.underlying26 rfl s1'.out (hK _ ?_)
  refine BigFrame.wpQuiet_want rfl fun K hK => ?_
  try simp only [Act.put, List.setIfInBounds_toArray, List.set_cons_succ, List.set_cons_zero]
  go_big_quiet_op
  first
    | refine ⟨_, fun _ _ => rfl, hK _ ?_⟩
    | refine hK _ ?_
  refine BigFrame.wpQuiet_want rfl fun K hK => ?_
  try simp only [Act.put, List.setIfInBounds_toArray, List.set_cons_succ, List.set_cons_zero]
  go_big_quiet_op
  first
    | refine ⟨_, fun _ _ => rfl, hK _ ?_⟩
    | refine hK _ ?_
  refine BigFrame.wpQuiet_want rfl fun K hK => ?_
  try simp only [Act.put, List.setIfInBounds_toArray, List.set_cons_succ, List.set_cons_zero]
  go_big_quiet_op
  refine hK _ ?_
  refine wpQuiet_nil ?_
  intro w9 hw9
  have F9 : Hid (Fr (fun _ => False) w w9) := F0.out.trans hw9
  have G9 := Lib.hid hw9
  clear hw9
  try simp only [Act.put, List.setIfInBounds_toArray, List.set_cons_succ, List.set_cons_zero]
  go_wp2
  all_goals
    go_ret
    exact ⟨rfl, F9.out⟩

set_option maxRecDepth 100000 in
theorem law_split_lifted (os : Os) (started : os.Started) (H : Type) (enc : TypeId × Value → H) :
    ReturnsInHanded {} Try.checked os 6 .any (Rows.polySplitSpec.pre6 enc Try.prog Try.f6 Rows.polySplitRow.domain false) (Rows.polySplitSpec.post enc Try.prog Try.f6 false true false false) := by
  refine returnsInHanded_of_change_sized (C := Try.checked) own started (by kernel_rfl) Try.func6
    (ChangeSpec.witness6 (enc := enc) (C := Try.checked) false ⟨#[], #[.agg (vs .u8 (List.replicate 32 0)), .slice none 0 0, .int .i64 0], []⟩ 8 (by kernel_rfl) (by kernel_rfl) (by kernel_rfl) (by kernel_rfl)) ?_
  intro W base args ds gs before hval0 hW hcnd hsz0 _
  have hsz : (DataW.weightsEach Try.prog (Try.f6.params.toList ++ Rows.polySplitSpec.plain.varTypes Try.prog) (ds ++ gs)).all (· ≤ reachBytes) = true := hsz0
  clear hsz0
  have hval : ∀ (j : Nat) t v, Try.f6.params[j]? = some t → args[j]? = some v → Value.okWide Try.prog W .any base t v := hval0
  have hW' := hW
  obtain ⟨p, q, hA0, hV, rfl, hfz, hnd⟩ := hW
  have hA : DataW.TrodAll enc Try.prog W 0 (fun _ => true) true Try.f6.params.toList args.toList ds p := hA0
  rw [Try.params6] at hA hval hsz
  obtain ⟨v0, vs0, d0, ds0, p0, q0, hargs, rfl, rfl, h0, r0⟩ := trodAll_cons hA
  obtain ⟨v1, vs1, d1, ds1, p1, q1, rfl, rfl, rfl, h1, r1⟩ := trodAll_cons r0
  obtain ⟨v2, vs2, d2, ds2, p2, q2, rfl, rfl, rfl, h2, r2⟩ := trodAll_cons r1
  obtain ⟨rfl, rfl, rfl⟩ := trodAll_nil r2
  obtain rfl : args = #[v0, v1, v2] := by cases args; simp_all
  obtain ⟨rfl, rfl⟩ := trodVars_none hV
  have hlt1 : ∀ x ∈ p1, x.block < W.heap.size := fun x hx => hW'.lt x (by simp [hx])
  obtain ⟨k0, rfl, lk0, bk0⟩ := open_key (hval 0 23 v0 rfl rfl) h0
  obtain ⟨A1, m1, s1, g1, l1, rfl, hs1, hg1⟩ := open_sl (hval 1 24 v1 rfl rfl) h1 hlt1
  have hn1 : m1 ≤ 140737488351232 := by
    rcases open_len h1 with e | ⟨el, sp, rfl, hle⟩
    · omega
    · have := sized_slice hsz (j := 1) (t := 24) (e := 5) rfl rfl Try.underlying24
      rw [Try.bytes5] at this
      simp only [reachBytes] at this
      omega
  obtain ⟨a2, rfl, rfl, rfl, w2⟩ := open_int Try.underlying3 (hval 2 3 v2 rfl rfl) h2
  clear hA0 hval0
  refine (law_split_any k0 g1 A1 m1 s1 l1 a2 W lk0 bk0 hs1 hn1 hg1 (wf_i64 w2)).mono fun e W' ⟨he, hg⟩ => ?_
  subst he
  exact ⟨_, rfl, post_true rfl hW' (by kernel_rfl) rfl rfl hg⟩

theorem polySplit_holds : Rows.PolySplitSaid :=
  OpenClaim.holds_of_wide 6 Try.f6 rfl rfl rfl rfl rfl rfl rfl ⟨rfl, rfl, rfl, rfl, rfl⟩ rfl rfl rfl rfl rfl (by kernel_rfl) Try.func6 (by kernel_rfl)
    (of_decide_eq_true (by kernel_rfl)) (by unfold Func.isWrapper; first | (rw [if_pos (by decide +kernel)]; kernel_rfl) | (rw [if_neg (by decide +kernel)]; exact ⟨rfl, rfl⟩))
    (fun os started H enc _ => law_split_lifted os started H enc)
#print axioms polySplit_holds
end Go.Proofs.Ytcoggpedpclkaaa
