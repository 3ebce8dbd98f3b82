/- KdfBegins answers true for all keys, infos and numbers: the given statement KdfBeginsSaid. No condition. -/
import Derived.Test.YtebknlhooijkcaaYq8
namespace Go.Proofs.Ytebknlhooijkcaa
set_option linter.unusedSimpArgs false
set_option linter.unusedVariables false
open Go.ChangeShapes Go.WideShapes Go.ChangeAt Go.RowKit

set_option maxRecDepth 100000 in
set_option maxHeartbeats 16000000 in
theorem law_begins_a (k0 : List Int) (g1 : Nat) (A1 : Option Addr) (m1 s1 : Nat) (l1 : List Int) (p0 p1 : Int) (r1 r2 : Nat) (w : World) (lk0 : k0.length = 32) (bk0 : Bys k0) (hs1 : Sl w g1 (.slice A1 m1 s1) l1) (hn1 : m1 ≤ 140737488351232) (hg1 : l1 ≠ [] → g1 < w.heap.size) (hr1 : r1 < 400) (hr2 : r2 < 400) (hc : r2 < r1) (hc2 : ¬ r1 < r2)
    (CB1' : ∀ W, Calls Try.prog 24 #[.int .i64 p0, .int .i64 400] W fun e w' => e = .returned (.int .i64 r1) ∧ Fr (fun _ => False) W w')
    (CB2' : ∀ W, Calls Try.prog 24 #[.int .i64 p1, .int .i64 400] W fun e w' => e = .returned (.int .i64 r2) ∧ Fr (fun _ => False) W w') :
    Calls Try.prog 7 #[.agg (vs .u8 k0), .slice A1 m1 s1, .agg (vs .i64 [p0, p1])] w fun e w' => e = .returned (.bool true) ∧ Fr (fun _ => False) w w' := by
  have HMM : Hid (r2 ≤ r1 ∧ r1 < 400) := by show _ ∧ _; omega
  obtain ⟨V, hV⟩ : ∃ V, V = (exs k0 l1 ((r2 + 31) / 32)).take r2 := ⟨_, rfl⟩
  obtain ⟨U, hU⟩ : ∃ V, V = (exs k0 l1 ((r1 + 31) / 32)).take r1 := ⟨_, rfl⟩
  have hVl := (expv_len k0 l1 r2 (by omega)).2
  have hUl := (expv_len k0 l1 r1 (by omega)).2
  rw [← hV] at hVl
  rw [← hU] at hUl
  have lV : Hid (V.length = r2) := hVl
  have lU : Hid (U.length = r1) := hUl
  have HUV : Unit → U.take r2 = V := fun _ => by rw [hU, hV]; exact exs_begin k0 l1 r2 r1 HMM.out.1
  have CE1 : ∀ W, Fr (fun _ => False) w W → Calls Try.prog 18 #[.agg (vs .u8 k0), .slice A1 m1 s1, .int .i64 (r2 : Int)] W fun e w' => ∃ v, e = .returned (.tuple #[v, .int .i64 0]) ∧ Nw W w' v V ∧ Fr (fun _ => False) W w' := fun W hf => by
    have e := kexpand_is k0 g1 A1 m1 s1 l1 (r2 : Int) W lk0 bk0 (hs1.fr hf (fun _ x => x)) hn1
    rw [(expv_len k0 l1 r2 (by omega)).1, ← hV] at e
    exact e
  have CE2 : ∀ W, Fr (fun _ => False) w W → Calls Try.prog 18 #[.agg (vs .u8 k0), .slice A1 m1 s1, .int .i64 (r1 : Int)] W fun e w' => ∃ v, e = .returned (.tuple #[v, .int .i64 0]) ∧ Nw W w' v U ∧ Fr (fun _ => False) W w' := fun W hf => by
    have e := kexpand_is k0 g1 A1 m1 s1 l1 (r1 : Int) W lk0 bk0 (hs1.fr hf (fun _ x => x)) hn1
    rw [(expv_len k0 l1 r1 (by omega)).1, ← hU] at e
    exact e
  have sk : Hid ((Try.prog.info? 24).map (·.size) = some (vs .u8 k0).size) := by show _ = _; rw [szA32, vs_size, lk0]
  have UU : Unit → (U.take r2 = V ∧ True) := fun _ => ⟨HUV (), trivial⟩
  clear hV hU hVl hUl hs1 hn1 hg1 lk0 bk0 HUV
  go_enter Try.func7, Try.ntmps7
  go_upto_region 1 with (fail)
  obtain ⟨bx, hbx⟩ : ∃ x, x = w.heap.size := ⟨_, rfl⟩
  obtain ⟨by_, hby⟩ : ∃ x, x = w.heap.size + 1 := ⟨_, rfl⟩
  rw [← hby, ← hbx]
  generalize hW : (w.alloc (.cells (vs .u8 k0) 24)).alloc (.cells (vs .i64 [p0, p1]) 38) = W0
  have HW := calm2 hW
  rw [← hby, ← hbx] at HW
  have K0 : Hid (Ar W0 bx 24 .u8 k0) := HW.1
  have Y0 : Hid (Ar W0 by_ 38 .i64 [p0, p1]) := HW.2.1
  have F0 : Hid (Fr (fun _ => False) w W0) := HW.2.2
  clear HW hW hbx hby
  try simp only [Act.put, List.setIfInBounds_toArray, List.set_cons_succ, List.set_cons_zero]
  go_upto_region 3 with (go_at_call 15; refine (works_is _).mono ?_; rintro e w2 ⟨rfl, hf⟩; have K2 := Lib.hid (K0.out.fr hf (fun x => x)); have Y2 := Lib.hid (Y0.out.fr hf (fun x => x)); have F2 := Lib.hid (F0.out.trans hf); clear hf)
  clear K0 Y0 F0
  refine wp_region_quiet (C := Calm w2) (by kernel_rfl) (by kernel_rfl) (Calm.start _ _ (Fr.refl _ _)) ?_
  refine BigFrame.wpQuiet_want rfl fun K hK => ?_
  try simp only [Act.put, List.setIfInBounds_toArray, List.set_cons_succ, List.set_cons_zero]
  go_big_quiet_op
  first
    | refine ⟨_, fun _ _ => rfl, hK _ ?_⟩
    | refine hK _ ?_
  refine BigFrame.wpQuiet_want rfl fun K hK => quiet_one 3 .i64 (.tmp 15) rfl by_ 0 rfl (p0) Try.underlying3 (fun _ h => (Y2.out.fr h (fun x => x)).cell rfl) (hK _ ?_)
  refine BigFrame.wpQuiet_want rfl fun K hK => ?_
  try simp only [Act.put, List.setIfInBounds_toArray, List.set_cons_succ, List.set_cons_zero]
  go_big_quiet_op
  refine ⟨_, Calm.calls CB1', hK _ ?_⟩
  refine BigFrame.wpQuiet_want rfl fun K hK => ?_
  try simp only [Act.put, List.setIfInBounds_toArray, List.set_cons_succ, List.set_cons_zero]
  go_big_quiet_op
  first
    | refine ⟨_, fun _ _ => rfl, hK _ ?_⟩
    | refine hK _ ?_
  refine BigFrame.wpQuiet_want rfl fun K hK => quiet_one 3 .i64 (.tmp 18) rfl by_ 1 rfl (p1) Try.underlying3 (fun _ h => (Y2.out.fr h (fun x => x)).cell rfl) (hK _ ?_)
  refine BigFrame.wpQuiet_want rfl fun K hK => ?_
  try simp only [Act.put, List.setIfInBounds_toArray, List.set_cons_succ, List.set_cons_zero]
  go_big_quiet_op
  refine ⟨_, Calm.calls CB2', hK _ ?_⟩
  refine BigFrame.wpQuiet_want rfl fun K hK => ?_
  try simp only [Act.put, List.setIfInBounds_toArray, List.set_cons_succ, List.set_cons_zero]
  go_big_quiet_op
  refine hK _ ?_
  refine BigFrame.wpQuiet_want rfl fun K hK => ?_
  try simp only [Act.put, List.setIfInBounds_toArray, List.set_cons_succ, List.set_cons_zero]
  go_big_quiet_op
  refine hK _ ?_
  refine wpQuiet_nil ?_
  intro w9 hw9
  have F9 : Hid (Fr (fun _ => False) w w9) := F2.out.trans hw9
  have G9 := Lib.hid hw9
  clear hw9
  try simp only [Act.put, List.setIfInBounds_toArray, List.set_cons_succ, List.set_cons_zero]
  have K9 := Lib.hid (K2.out.fr G9.out (fun x => x))
  clear K2 Y2 F2 G9 CB1' CB2'
  go_upto_region 5 with (first
    | refine wpList_load_row rfl 24 (.tmp 3) rfl bx rfl 24 (vs .u8 k0) (0, 0) _ K9.out Try.underlying24 rfl sk.out ?_
    | (go_at_call 18; refine (CE1 _ F9.out).mono ?_; rintro e w3 ⟨v3, rfl, hn, hf⟩; have N3 := Lib.hid hn; have K3 := Lib.hid (K9.out.fr hf (fun x => x)); have F3 := Lib.hid (F9.out.trans hf); clear hn hf))
  go_upto_region 6 with (first
    | refine wpList_load_row rfl 24 (.tmp 3) rfl bx rfl 24 (vs .u8 k0) (0, 0) _ K3.out Try.underlying24 rfl sk.out ?_
    | (go_at_call 18; refine (CE2 _ F3.out).mono ?_; rintro e w4 ⟨v4, rfl, hn, hf⟩; have N4 := Lib.hid hn; have N34 := Lib.hid (N3.out.fr hf (fun _ x => x)); have F4 := Lib.hid (F3.out.trans hf); clear hn hf))
  obtain ⟨Aa, ca, ha⟩ := N34.out.shape
  rw [lV.out] at ha
  subst ha
  obtain ⟨Ab, cb, hb⟩ := N4.out.shape
  rw [lU.out] at hb
  subst hb
  have hcb := N4.out.1.sl.cap
  obtain ⟨gu, hgu⟩ : ∃ g, Sl w4 g (.slice Ab r2 cb) V := by
    have h := N4.out.1.sl.take r2 (by rw [lU.out]; exact HMM.out.1)
    rw [(UU ()).1] at h
    exact ⟨_, h⟩
  have S4 := Lib.hid hgu
  clear hgu UU
  have S3 := Lib.hid N34.out.1.sl
  have HC : Hid (r2 ≤ cb) := by have := HMM.out; show _ ≤ _; omega
  clear hcb N3 N4 N34 K3 K9 F3 CE1 CE2
  have t1 : (r2 : Int) ≤ cb := by have := HC.out; omega
  have t2 : ((r2 : Int)).toNat = r2 := by omega
  go_wp2_with (first
    | refine wpList_wanted rfl fun K' hK' => wp_value _ _ (run_slice_hi (.tmp 63) _ rfl Ab r1 cb r2 (r2 : Int) rfl HC.out rfl rfl w4) (hK' _ _ ?_)
    | (go_at_call 14; refine (eq_yes _ S3.out S4.out rfl).mono ?_; rintro e w5 ⟨rfl, hf⟩; have F5 := Lib.hid (F4.out.trans hf); clear hf))
  go_ret
  exact ⟨rfl, F5.out⟩
set_option maxRecDepth 100000 in
set_option maxHeartbeats 16000000 in
theorem law_begins_b (k0 : List Int) (g1 : Nat) (A1 : Option Addr) (m1 s1 : Nat) (l1 : List Int) (p0 p1 : Int) (r1 r2 : Nat) (w : World) (lk0 : k0.length = 32) (bk0 : Bys k0) (hs1 : Sl w g1 (.slice A1 m1 s1) l1) (hn1 : m1 ≤ 140737488351232) (hg1 : l1 ≠ [] → g1 < w.heap.size) (hr1 : r1 < 400) (hr2 : r2 < 400) (hc : r1 < r2) (hc2 : ¬ r2 < r1)
    (CB1' : ∀ W, Calls Try.prog 24 #[.int .i64 p0, .int .i64 400] W fun e w' => e = .returned (.int .i64 r1) ∧ Fr (fun _ => False) W w')
    (CB2' : ∀ W, Calls Try.prog 24 #[.int .i64 p1, .int .i64 400] W fun e w' => e = .returned (.int .i64 r2) ∧ Fr (fun _ => False) W w') :
    Calls Try.prog 7 #[.agg (vs .u8 k0), .slice A1 m1 s1, .agg (vs .i64 [p0, p1])] w fun e w' => e = .returned (.bool true) ∧ Fr (fun _ => False) w w' := by
  have HMM : Hid (r1 ≤ r2 ∧ r2 < 400) := by show _ ∧ _; omega
  obtain ⟨V, hV⟩ : ∃ V, V = (exs k0 l1 ((r1 + 31) / 32)).take r1 := ⟨_, rfl⟩
  obtain ⟨U, hU⟩ : ∃ V, V = (exs k0 l1 ((r2 + 31) / 32)).take r2 := ⟨_, rfl⟩
  have hVl := (expv_len k0 l1 r1 (by omega)).2
  have hUl := (expv_len k0 l1 r2 (by omega)).2
  rw [← hV] at hVl
  rw [← hU] at hUl
  have lV : Hid (V.length = r1) := hVl
  have lU : Hid (U.length = r2) := hUl
  have HUV : Unit → U.take r1 = V := fun _ => by rw [hU, hV]; exact exs_begin k0 l1 r1 r2 HMM.out.1
  have CE1 : ∀ W, Fr (fun _ => False) w W → Calls Try.prog 18 #[.agg (vs .u8 k0), .slice A1 m1 s1, .int .i64 (r1 : Int)] W fun e w' => ∃ v, e = .returned (.tuple #[v, .int .i64 0]) ∧ Nw W w' v V ∧ Fr (fun _ => False) W w' := fun W hf => by
    have e := kexpand_is k0 g1 A1 m1 s1 l1 (r1 : Int) W lk0 bk0 (hs1.fr hf (fun _ x => x)) hn1
    rw [(expv_len k0 l1 r1 (by omega)).1, ← hV] at e
    exact e
  have CE2 : ∀ W, Fr (fun _ => False) w W → Calls Try.prog 18 #[.agg (vs .u8 k0), .slice A1 m1 s1, .int .i64 (r2 : Int)] W fun e w' => ∃ v, e = .returned (.tuple #[v, .int .i64 0]) ∧ Nw W w' v U ∧ Fr (fun _ => False) W w' := fun W hf => by
    have e := kexpand_is k0 g1 A1 m1 s1 l1 (r2 : Int) W lk0 bk0 (hs1.fr hf (fun _ x => x)) hn1
    rw [(expv_len k0 l1 r2 (by omega)).1, ← hU] at e
    exact e
  have sk : Hid ((Try.prog.info? 24).map (·.size) = some (vs .u8 k0).size) := by show _ = _; rw [szA32, vs_size, lk0]
  have UU : Unit → (U.take r1 = V ∧ True) := fun _ => ⟨HUV (), trivial⟩
  clear hV hU hVl hUl hs1 hn1 hg1 lk0 bk0 HUV
  go_enter Try.func7, Try.ntmps7
  go_upto_region 1 with (fail)
  obtain ⟨bx, hbx⟩ : ∃ x, x = w.heap.size := ⟨_, rfl⟩
  obtain ⟨by_, hby⟩ : ∃ x, x = w.heap.size + 1 := ⟨_, rfl⟩
  rw [← hby, ← hbx]
  generalize hW : (w.alloc (.cells (vs .u8 k0) 24)).alloc (.cells (vs .i64 [p0, p1]) 38) = W0
  have HW := calm2 hW
  rw [← hby, ← hbx] at HW
  have K0 : Hid (Ar W0 bx 24 .u8 k0) := HW.1
  have Y0 : Hid (Ar W0 by_ 38 .i64 [p0, p1]) := HW.2.1
  have F0 : Hid (Fr (fun _ => False) w W0) := HW.2.2
  clear HW hW hbx hby
  try simp only [Act.put, List.setIfInBounds_toArray, List.set_cons_succ, List.set_cons_zero]
  go_upto_region 3 with (go_at_call 15; refine (works_is _).mono ?_; rintro e w2 ⟨rfl, hf⟩; have K2 := Lib.hid (K0.out.fr hf (fun x => x)); have Y2 := Lib.hid (Y0.out.fr hf (fun x => x)); have F2 := Lib.hid (F0.out.trans hf); clear hf)
  clear K0 Y0 F0
  refine wp_region_quiet (C := Calm w2) (by kernel_rfl) (by kernel_rfl) (Calm.start _ _ (Fr.refl _ _)) ?_
  refine BigFrame.wpQuiet_want rfl fun K hK => ?_
  try simp only [Act.put, List.setIfInBounds_toArray, List.set_cons_succ, List.set_cons_zero]
  go_big_quiet_op
  first
    | refine ⟨_, fun _ _ => rfl, hK _ ?_⟩
    | refine hK _ ?_
  refine BigFrame.wpQuiet_want rfl fun K hK => quiet_one 3 .i64 (.tmp 15) rfl by_ 0 rfl (p0) Try.underlying3 (fun _ h => (Y2.out.fr h (fun x => x)).cell rfl) (hK _ ?_)
  refine BigFrame.wpQuiet_want rfl fun K hK => ?_
  try simp only [Act.put, List.setIfInBounds_toArray, List.set_cons_succ, List.set_cons_zero]
  go_big_quiet_op
  refine ⟨_, Calm.calls CB1', hK _ ?_⟩
  refine BigFrame.wpQuiet_want rfl fun K hK => ?_
  try simp only [Act.put, List.setIfInBounds_toArray, List.set_cons_succ, List.set_cons_zero]
  go_big_quiet_op
  first
    | refine ⟨_, fun _ _ => rfl, hK _ ?_⟩
    | refine hK _ ?_
  refine BigFrame.wpQuiet_want rfl fun K hK => quiet_one 3 .i64 (.tmp 18) rfl by_ 1 rfl (p1) Try.underlying3 (fun _ h => (Y2.out.fr h (fun x => x)).cell rfl) (hK _ ?_)
  refine BigFrame.wpQuiet_want rfl fun K hK => ?_
  try simp only [Act.put, List.setIfInBounds_toArray, List.set_cons_succ, List.set_cons_zero]
  go_big_quiet_op
  refine ⟨_, Calm.calls CB2', hK _ ?_⟩
  refine BigFrame.wpQuiet_want rfl fun K hK => ?_
  try simp only [Act.put, List.setIfInBounds_toArray, List.set_cons_succ, List.set_cons_zero]
  go_big_quiet_op
  refine hK _ ?_
  refine BigFrame.wpQuiet_want rfl fun K hK => ?_
  try simp only [Act.put, List.setIfInBounds_toArray, List.set_cons_succ, List.set_cons_zero]
  go_big_quiet_op
  refine hK _ ?_
  refine wpQuiet_nil ?_
  intro w9 hw9
  have F9 : Hid (Fr (fun _ => False) w w9) := F2.out.trans hw9
  have G9 := Lib.hid hw9
  clear hw9
  try simp only [Act.put, List.setIfInBounds_toArray, List.set_cons_succ, List.set_cons_zero]
  have K9 := Lib.hid (K2.out.fr G9.out (fun x => x))
  clear K2 Y2 F2 G9 CB1' CB2'
  go_upto_region 5 with (first
    | refine wpList_load_row rfl 24 (.tmp 3) rfl bx rfl 24 (vs .u8 k0) (0, 0) _ K9.out Try.underlying24 rfl sk.out ?_
    | (go_at_call 18; refine (CE1 _ F9.out).mono ?_; rintro e w3 ⟨v3, rfl, hn, hf⟩; have N3 := Lib.hid hn; have K3 := Lib.hid (K9.out.fr hf (fun x => x)); have F3 := Lib.hid (F9.out.trans hf); clear hn hf))
  go_upto_region 6 with (first
    | refine wpList_load_row rfl 24 (.tmp 3) rfl bx rfl 24 (vs .u8 k0) (0, 0) _ K3.out Try.underlying24 rfl sk.out ?_
    | (go_at_call 18; refine (CE2 _ F3.out).mono ?_; rintro e w4 ⟨v4, rfl, hn, hf⟩; have N4 := Lib.hid hn; have N34 := Lib.hid (N3.out.fr hf (fun _ x => x)); have F4 := Lib.hid (F3.out.trans hf); clear hn hf))
  obtain ⟨Aa, ca, ha⟩ := N34.out.shape
  rw [lV.out] at ha
  subst ha
  obtain ⟨Ab, cb, hb⟩ := N4.out.shape
  rw [lU.out] at hb
  subst hb
  have hcb := N4.out.1.sl.cap
  obtain ⟨gu, hgu⟩ : ∃ g, Sl w4 g (.slice Ab r1 cb) V := by
    have h := N4.out.1.sl.take r1 (by rw [lU.out]; exact HMM.out.1)
    rw [(UU ()).1] at h
    exact ⟨_, h⟩
  have S4 := Lib.hid hgu
  clear hgu UU
  have S3 := Lib.hid N34.out.1.sl
  have HC : Hid (r1 ≤ cb) := by have := HMM.out; show _ ≤ _; omega
  clear hcb N3 N4 N34 K3 K9 F3 CE1 CE2
  have t1 : (r1 : Int) ≤ cb := by have := HC.out; omega
  have t2 : ((r1 : Int)).toNat = r1 := by omega
  go_wp2_with (first
    | refine wpList_wanted rfl fun K' hK' => wp_value _ _ (run_slice_hi (.tmp 63) _ rfl Ab r2 cb r1 (r1 : Int) rfl HC.out rfl rfl w4) (hK' _ _ ?_)
    | (go_at_call 14; refine (eq_yes _ S3.out S4.out rfl).mono ?_; rintro e w5 ⟨rfl, hf⟩; have F5 := Lib.hid (F4.out.trans hf); clear hf))
  go_ret
  exact ⟨rfl, F5.out⟩
set_option maxRecDepth 100000 in
set_option maxHeartbeats 16000000 in
theorem law_begins_c (k0 : List Int) (g1 : Nat) (A1 : Option Addr) (m1 s1 : Nat) (l1 : List Int) (p0 p1 : Int) (r1 : Nat) (w : World) (lk0 : k0.length = 32) (bk0 : Bys k0) (hs1 : Sl w g1 (.slice A1 m1 s1) l1) (hn1 : m1 ≤ 140737488351232) (hg1 : l1 ≠ [] → g1 < w.heap.size) (hr1 : r1 < 400) (hr2 : r1 < 400) 
    (CB1' : ∀ W, Calls Try.prog 24 #[.int .i64 p0, .int .i64 400] W fun e w' => e = .returned (.int .i64 r1) ∧ Fr (fun _ => False) W w')
    (CB2' : ∀ W, Calls Try.prog 24 #[.int .i64 p1, .int .i64 400] W fun e w' => e = .returned (.int .i64 r1) ∧ Fr (fun _ => False) W w') :
    Calls Try.prog 7 #[.agg (vs .u8 k0), .slice A1 m1 s1, .agg (vs .i64 [p0, p1])] w fun e w' => e = .returned (.bool true) ∧ Fr (fun _ => False) w w' := by
  have HMM : Hid (r1 ≤ r1 ∧ r1 < 400) := by show _ ∧ _; omega
  obtain ⟨V, hV⟩ : ∃ V, V = (exs k0 l1 ((r1 + 31) / 32)).take r1 := ⟨_, rfl⟩
  obtain ⟨U, hU⟩ : ∃ V, V = (exs k0 l1 ((r1 + 31) / 32)).take r1 := ⟨_, rfl⟩
  have hVl := (expv_len k0 l1 r1 (by omega)).2
  have hUl := (expv_len k0 l1 r1 (by omega)).2
  rw [← hV] at hVl
  rw [← hU] at hUl
  have lV : Hid (V.length = r1) := hVl
  have lU : Hid (U.length = r1) := hUl
  have HUV : Unit → U.take r1 = V := fun _ => by rw [hU, hV]; exact exs_begin k0 l1 r1 r1 HMM.out.1
  have CE1 : ∀ W, Fr (fun _ => False) w W → Calls Try.prog 18 #[.agg (vs .u8 k0), .slice A1 m1 s1, .int .i64 (r1 : Int)] W fun e w' => ∃ v, e = .returned (.tuple #[v, .int .i64 0]) ∧ Nw W w' v V ∧ Fr (fun _ => False) W w' := fun W hf => by
    have e := kexpand_is k0 g1 A1 m1 s1 l1 (r1 : Int) W lk0 bk0 (hs1.fr hf (fun _ x => x)) hn1
    rw [(expv_len k0 l1 r1 (by omega)).1, ← hV] at e
    exact e
  have CE2 : ∀ W, Fr (fun _ => False) w W → Calls Try.prog 18 #[.agg (vs .u8 k0), .slice A1 m1 s1, .int .i64 (r1 : Int)] W fun e w' => ∃ v, e = .returned (.tuple #[v, .int .i64 0]) ∧ Nw W w' v U ∧ Fr (fun _ => False) W w' := fun W hf => by
    have e := kexpand_is k0 g1 A1 m1 s1 l1 (r1 : Int) W lk0 bk0 (hs1.fr hf (fun _ x => x)) hn1
    rw [(expv_len k0 l1 r1 (by omega)).1, ← hU] at e
    exact e
  have sk : Hid ((Try.prog.info? 24).map (·.size) = some (vs .u8 k0).size) := by show _ = _; rw [szA32, vs_size, lk0]
  have UU : Unit → (U.take r1 = V ∧ True) := fun _ => ⟨HUV (), trivial⟩
  clear hV hU hVl hUl hs1 hn1 hg1 lk0 bk0 HUV
  go_enter Try.func7, Try.ntmps7
  go_upto_region 1 with (fail)
  obtain ⟨bx, hbx⟩ : ∃ x, x = w.heap.size := ⟨_, rfl⟩
  obtain ⟨by_, hby⟩ : ∃ x, x = w.heap.size + 1 := ⟨_, rfl⟩
  rw [← hby, ← hbx]
  generalize hW : (w.alloc (.cells (vs .u8 k0) 24)).alloc (.cells (vs .i64 [p0, p1]) 38) = W0
  have HW := calm2 hW
  rw [← hby, ← hbx] at HW
  have K0 : Hid (Ar W0 bx 24 .u8 k0) := HW.1
  have Y0 : Hid (Ar W0 by_ 38 .i64 [p0, p1]) := HW.2.1
  have F0 : Hid (Fr (fun _ => False) w W0) := HW.2.2
  clear HW hW hbx hby
  try simp only [Act.put, List.setIfInBounds_toArray, List.set_cons_succ, List.set_cons_zero]
  go_upto_region 3 with (go_at_call 15; refine (works_is _).mono ?_; rintro e w2 ⟨rfl, hf⟩; have K2 := Lib.hid (K0.out.fr hf (fun x => x)); have Y2 := Lib.hid (Y0.out.fr hf (fun x => x)); have F2 := Lib.hid (F0.out.trans hf); clear hf)
  clear K0 Y0 F0
  refine wp_region_quiet (C := Calm w2) (by kernel_rfl) (by kernel_rfl) (Calm.start _ _ (Fr.refl _ _)) ?_
  refine BigFrame.wpQuiet_want rfl fun K hK => ?_
  try simp only [Act.put, List.setIfInBounds_toArray, List.set_cons_succ, List.set_cons_zero]
  go_big_quiet_op
  first
    | refine ⟨_, fun _ _ => rfl, hK _ ?_⟩
    | refine hK _ ?_
  refine BigFrame.wpQuiet_want rfl fun K hK => quiet_one 3 .i64 (.tmp 15) rfl by_ 0 rfl (p0) Try.underlying3 (fun _ h => (Y2.out.fr h (fun x => x)).cell rfl) (hK _ ?_)
  refine BigFrame.wpQuiet_want rfl fun K hK => ?_
  try simp only [Act.put, List.setIfInBounds_toArray, List.set_cons_succ, List.set_cons_zero]
  go_big_quiet_op
  refine ⟨_, Calm.calls CB1', hK _ ?_⟩
  refine BigFrame.wpQuiet_want rfl fun K hK => ?_
  try simp only [Act.put, List.setIfInBounds_toArray, List.set_cons_succ, List.set_cons_zero]
  go_big_quiet_op
  first
    | refine ⟨_, fun _ _ => rfl, hK _ ?_⟩
    | refine hK _ ?_
  refine BigFrame.wpQuiet_want rfl fun K hK => quiet_one 3 .i64 (.tmp 18) rfl by_ 1 rfl (p1) Try.underlying3 (fun _ h => (Y2.out.fr h (fun x => x)).cell rfl) (hK _ ?_)
  refine BigFrame.wpQuiet_want rfl fun K hK => ?_
  try simp only [Act.put, List.setIfInBounds_toArray, List.set_cons_succ, List.set_cons_zero]
  go_big_quiet_op
  refine ⟨_, Calm.calls CB2', hK _ ?_⟩
  refine BigFrame.wpQuiet_want rfl fun K hK => ?_
  try simp only [Act.put, List.setIfInBounds_toArray, List.set_cons_succ, List.set_cons_zero]
  go_big_quiet_op
  refine hK _ ?_
  refine BigFrame.wpQuiet_want rfl fun K hK => ?_
  try simp only [Act.put, List.setIfInBounds_toArray, List.set_cons_succ, List.set_cons_zero]
  go_big_quiet_op
  refine hK _ ?_
  refine wpQuiet_nil ?_
  intro w9 hw9
  have F9 : Hid (Fr (fun _ => False) w w9) := F2.out.trans hw9
  have G9 := Lib.hid hw9
  clear hw9
  try simp only [Act.put, List.setIfInBounds_toArray, List.set_cons_succ, List.set_cons_zero]
  have K9 := Lib.hid (K2.out.fr G9.out (fun x => x))
  clear K2 Y2 F2 G9 CB1' CB2'
  go_upto_region 5 with (first
    | refine wpList_load_row rfl 24 (.tmp 3) rfl bx rfl 24 (vs .u8 k0) (0, 0) _ K9.out Try.underlying24 rfl sk.out ?_
    | (go_at_call 18; refine (CE1 _ F9.out).mono ?_; rintro e w3 ⟨v3, rfl, hn, hf⟩; have N3 := Lib.hid hn; have K3 := Lib.hid (K9.out.fr hf (fun x => x)); have F3 := Lib.hid (F9.out.trans hf); clear hn hf))
  go_upto_region 6 with (first
    | refine wpList_load_row rfl 24 (.tmp 3) rfl bx rfl 24 (vs .u8 k0) (0, 0) _ K3.out Try.underlying24 rfl sk.out ?_
    | (go_at_call 18; refine (CE2 _ F3.out).mono ?_; rintro e w4 ⟨v4, rfl, hn, hf⟩; have N4 := Lib.hid hn; have N34 := Lib.hid (N3.out.fr hf (fun _ x => x)); have F4 := Lib.hid (F3.out.trans hf); clear hn hf))
  obtain ⟨Aa, ca, ha⟩ := N34.out.shape
  rw [lV.out] at ha
  subst ha
  obtain ⟨Ab, cb, hb⟩ := N4.out.shape
  rw [lU.out] at hb
  subst hb
  have hcb := N4.out.1.sl.cap
  obtain ⟨gu, hgu⟩ : ∃ g, Sl w4 g (.slice Ab r1 cb) V := by
    have h := N4.out.1.sl.take r1 (by rw [lU.out]; exact HMM.out.1)
    rw [(UU ()).1] at h
    exact ⟨_, h⟩
  have S4 := Lib.hid hgu
  clear hgu UU
  have S3 := Lib.hid N34.out.1.sl
  have HC : Hid (r1 ≤ cb) := by have := HMM.out; show _ ≤ _; omega
  clear hcb N3 N4 N34 K3 K9 F3 CE1 CE2
  have t1 : (r1 : Int) ≤ cb := by have := HC.out; omega
  have t2 : ((r1 : Int)).toNat = r1 := by omega
  go_wp2_with (first
    | refine wpList_wanted rfl fun K' hK' => wp_value _ _ (run_slice_hi (.tmp 63) _ rfl Ab r1 cb r1 (r1 : Int) rfl HC.out rfl rfl w4) (hK' _ _ ?_)
    | (go_at_call 14; refine (eq_yes _ S3.out S4.out rfl).mono ?_; rintro e w5 ⟨rfl, hf⟩; have F5 := Lib.hid (F4.out.trans hf); clear hf))
  go_ret
  exact ⟨rfl, F5.out⟩
theorem law_begins_any (k0 : List Int) (g1 : Nat) (A1 : Option Addr) (m1 s1 : Nat) (l1 : List Int) (p : List Int) (w : World) (lk0 : k0.length = 32) (bk0 : Bys k0) (hs1 : Sl w g1 (.slice A1 m1 s1) l1) (hn1 : m1 ≤ 140737488351232) (hg1 : l1 ≠ [] → g1 < w.heap.size) (lp : p.length = 2) (bp : ∀ x ∈ p, -9223372036854775808 ≤ x ∧ x ≤ 9223372036854775807) :
    Calls Try.prog 7 #[.agg (vs .u8 k0), .slice A1 m1 s1, .agg (vs .i64 p)] w fun e w' => e = .returned (.bool true) ∧ Fr (fun _ => False) w w' := by
  obtain ⟨p0, p1, rfl⟩ : ∃ p0 p1, p = [p0, p1] := by
    rcases p with _ | ⟨p0, _ | ⟨p1, _ | ⟨p2, p⟩⟩⟩
    · simp at lp
    · simp at lp
    · exact ⟨p0, p1, rfl⟩
    · simp at lp
  obtain ⟨r1, hr1, CB1⟩ : ∃ r : Nat, r < 400 ∧ ∀ W, Calls Try.prog 24 #[.int .i64 p0, .int .i64 400] W fun e w' => e = .returned (.int .i64 r) ∧ W = w' := bring_fix p0 400 (bp p0 (by simp)).1 (bp p0 (by simp)).2 (by decide) (by decide)
  obtain ⟨r2, hr2, CB2⟩ : ∃ r : Nat, r < 400 ∧ ∀ W, Calls Try.prog 24 #[.int .i64 p1, .int .i64 400] W fun e w' => e = .returned (.int .i64 r) ∧ W = w' := bring_fix p1 400 (bp p1 (by simp)).1 (bp p1 (by simp)).2 (by decide) (by decide)
  have CB1' : ∀ W, Calls Try.prog 24 #[.int .i64 p0, .int .i64 400] W fun e w' => e = .returned (.int .i64 r1) ∧ Fr (fun _ => False) W w' := fun W => (CB1 W).mono fun e w' ⟨he, hw⟩ => ⟨he, by rw [← hw]; exact Fr.refl _ _⟩
  have CB2' : ∀ W, Calls Try.prog 24 #[.int .i64 p1, .int .i64 400] W fun e w' => e = .returned (.int .i64 r2) ∧ Fr (fun _ => False) W w' := fun W => (CB2 W).mono fun e w' ⟨he, hw⟩ => ⟨he, by rw [← hw]; exact Fr.refl _ _⟩
  rcases Nat.lt_trichotomy r2 r1 with h | h | h
  · exact law_begins_a k0 g1 A1 m1 s1 l1 p0 p1 r1 r2 w lk0 bk0 hs1 hn1 hg1 hr1 hr2 h (by omega) CB1' CB2'
  · subst h
    exact law_begins_c k0 g1 A1 m1 s1 l1 p0 p1 r2 w lk0 bk0 hs1 hn1 hg1 hr1 hr2 CB1' CB2'
  · exact law_begins_b k0 g1 A1 m1 s1 l1 p0 p1 r1 r2 w lk0 bk0 hs1 hn1 hg1 hr1 hr2 h (by omega) CB1' CB2'

set_option maxRecDepth 100000 in
theorem law_begins_lifted (os : Os) (started : os.Started) (H : Type) (enc : TypeId × Value → H) :
    ReturnsInHanded {} Try.checked os 7 .any (Rows.kdfBeginsSpec.pre6 enc Try.prog Try.f7 Rows.kdfBeginsRow.domain false) (Rows.kdfBeginsSpec.post enc Try.prog Try.f7 false true false false) := by
  refine returnsInHanded_of_change_sized (C := Try.checked) own started (by kernel_rfl) Try.func7
    (ChangeSpec.witness6 (enc := enc) (C := Try.checked) false ⟨#[], #[.agg (vs .u8 (List.replicate 32 0)), .slice none 0 0, .agg (vs .i64 (List.replicate 2 0))], []⟩ 8 (by kernel_rfl) (by kernel_rfl) (by kernel_rfl) (by kernel_rfl)) ?_
  intro W base args ds gs before hval0 hW hcnd hsz0 _
  have hsz : (DataW.weightsEach Try.prog (Try.f7.params.toList ++ Rows.kdfBeginsSpec.plain.varTypes Try.prog) (ds ++ gs)).all (· ≤ reachBytes) = true := hsz0
  clear hsz0
  have hval : ∀ (j : Nat) t v, Try.f7.params[j]? = some t → args[j]? = some v → Value.okWide Try.prog W .any base t v := hval0
  have hW' := hW
  obtain ⟨p, q, hA0, hV, rfl, hfz, hnd⟩ := hW
  have hA : DataW.TrodAll enc Try.prog W 0 (fun _ => true) true Try.f7.params.toList args.toList ds p := hA0
  rw [Try.params7] at hA hval hsz
  obtain ⟨v0, vs0, d0, ds0, p0, q0, hargs, rfl, rfl, h0, r0⟩ := trodAll_cons hA
  obtain ⟨v1, vs1, d1, ds1, p1, q1, rfl, rfl, rfl, h1, r1⟩ := trodAll_cons r0
  obtain ⟨v2, vs2, d2, ds2, p2, q2, rfl, rfl, rfl, h2, r2⟩ := trodAll_cons r1
  obtain ⟨rfl, rfl, rfl⟩ := trodAll_nil r2
  obtain rfl : args = #[v0, v1, v2] := by cases args; simp_all
  obtain ⟨rfl, rfl⟩ := trodVars_none hV
  have hlt1 : ∀ x ∈ p1, x.block < W.heap.size := fun x hx => hW'.lt x (by simp [hx])
  obtain ⟨k0, rfl, lk0, bk0⟩ := open_a32 (hval 0 24 v0 rfl rfl) h0
  obtain ⟨A1, m1, s1, g1, l1, rfl, hs1, hg1⟩ := open_sl (hval 1 22 v1 rfl rfl) h1 hlt1
  have hn1 : m1 ≤ 140737488351232 := by
    rcases open_len h1 with e | ⟨el, sp, rfl, hle⟩
    · omega
    · have := sized_slice hsz (j := 1) (t := 22) (e := 5) rfl rfl Try.underlying22
      rw [Try.bytes5] at this
      simp only [reachBytes] at this
      omega
  obtain ⟨k2, rfl, lk2, bk2⟩ := open_i2 (hval 2 38 v2 rfl rfl) h2
  clear hA0 hval0
  refine (law_begins_any k0 g1 A1 m1 s1 l1 k2 W lk0 bk0 hs1 hn1 hg1 lk2 bk2).mono fun e W' ⟨he, hg⟩ => ?_
  subst he
  exact ⟨_, rfl, post_true rfl hW' (by kernel_rfl) rfl rfl hg⟩

theorem kdfBegins_holds : Rows.KdfBeginsSaid :=
  OpenClaim.holds_of_wide 7 Try.f7 rfl rfl rfl rfl rfl rfl rfl ⟨rfl, rfl, rfl, rfl, rfl⟩ rfl rfl rfl rfl rfl (by kernel_rfl) Try.func7 (by kernel_rfl)
    (of_decide_eq_true (by kernel_rfl)) (by unfold Func.isWrapper; first | (rw [if_pos (by decide +kernel)]; kernel_rfl) | (rw [if_neg (by decide +kernel)]; exact ⟨rfl, rfl⟩))
    (fun os started H enc _ => law_begins_lifted os started H enc)
#print axioms kdfBegins_holds
end Go.Proofs.Ytebknlhooijkcaa
