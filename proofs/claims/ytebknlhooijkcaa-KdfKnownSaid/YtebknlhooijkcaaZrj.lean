/- The program's Write: contract. Conditions: a hash that New made, a slice that lies in memory and is not the hash's own, no more than 2^50 bytes in all. -/
import Derived.Test.YtebknlhooijkcaaZri
namespace Go.Proofs.Ytebknlhooijkcaa
set_option linter.unusedSimpArgs false
set_option linter.unusedVariables false
open Go.ChangeShapes Go.WideShapes Go.ChangeAt Go.RowKit


/-- What stands between the bytes and a hash's parts. -/
def Hs (sz : Nat) (k E : List Int) (n c : Nat) (s : List Int) (p : Int) (X : List Int) : Prop :=
  (inn k E).length = 64 * n + c ∧ Bys X ∧ X.take c = (inn k E).drop (64 * n) ∧ s = eat (h0 (sz : Int) k.length) (inn k E) n ∧ p = ((64 * n : Nat) : Int)
theorem Hs.press {sz : Nat} {k E : List Int} {n : Nat} {s : List Int} {p : Int} {X : List Int} (h : Hs sz k E n 64 s p X) (lX : X.length = 64) {p2 : Int} (hp : p2 = p + 64) : Hs sz k E (n + 1) 0 (prm s (ws X) p2 false) p2 X := by
  obtain ⟨a1, a2, a3, a4, a5⟩ := h
  have e : X = (inn k E).drop (64 * n) := by rw [← a3, List.take_of_length_le (by omega)]
  refine ⟨by omega, a2, ?_, ?_, by omega⟩
  · rw [List.take_zero, List.drop_of_length_le (by omega)]
  · rw [prm_ws, eat_succ, ← e, List.take_of_length_le (by omega), ← a4, show (64 * ((n + 1 : Nat) : Int)) = p2 by omega]
theorem Hs.more {sz : Nat} {k E : List Int} {n c : Nat} {s : List Int} {p : Int} {X : List Int} (h : Hs sz k E n c s p X) {Y : List Int} (hY : Bys Y) (h1 : 0 < Y.length) (h2 : c + Y.length ≤ 64) (lX : X.length = 64) {w : World} {g : Nat} (s1 : 1 ≤ sz) (s2 : sz ≤ 32) (hk : k.length ≤ 32) (hD : (E ++ Y).length ≤ 1125899906842624)
    (hb : Hb w g (sz : Int) s p (X.take c ++ Y ++ X.drop (c + Y.length)) ((c + Y.length : Nat) : Int)) : HashAt w g sz k (E ++ Y) := by
  obtain ⟨a1, a2, a3, a4, a5⟩ := h
  refine ⟨s1, s2, hk, hD, n, c + Y.length, X.take c ++ Y ++ X.drop (c + Y.length), ?_, h2, by omega, ?_, ?_, ?_⟩
  · rw [inn_app, List.length_append, a1]; omega
  · exact ((a2.take c).append hY).append (a2.drop _)
  · rw [inn_app, List.drop_append_of_le_length (by omega), ← a3]
    exact List.take_left' (by rw [List.length_append, List.length_take, Nat.min_eq_left (by omega)])
  · rw [inn_app, eat_app _ _ _ _ (by omega), ← a4, ← a5]
    exact hb
theorem run_slice_lowL {o : Oper} {a : Act} (x y : Operand) (ho : o.op = .slice 54 x (some y) none none) (g off c : Nat) (hx : a.eval x = .pointer (some ⟨g, off, none⟩)) (hy : a.eval y = .int .i64 (c : Int)) (hc : c < 64) (W : World) :
    (execOp a.eval o).run Try.prog W = .ok (.value (.slice (some ⟨g, off + c, none⟩) (64 - c) (64 - c))) W := by
  have h := run_slice_low64 x y ho g off c hx hy (by omega) W
  rwa [if_neg (by omega)] at h
def sLn : Value → Nat
  | .slice _ n _ => n
  | _ => 0
set_option maxRecDepth 100000 in
set_option maxHeartbeats 16000000 in
theorem hwrite_is (g sz : Nat) (k D : List Int) (gb : Nat) (A0 : Option Addr) (m0 cap0 : Nat) (l : List Int) (w : World) (hp : HashAt w g sz k D) (hs : Sl w gb (.slice A0 m0 cap0) l) (hg : gb ≠ g) (hl : D.length + m0 ≤ 1125899906842624) :
    Calls Try.prog 37 #[.pointer (some ⟨g, 0, none⟩), .slice A0 m0 cap0] w fun e w' => e = .returned (.tuple #[]) ∧ HashAt w' g sz k (D ++ l) ∧ Fr (fun i => i = g) w w' := by
  have HP := Lib.hid hp
  have HS := Lib.hid hs
  have HG := Lib.hid hg
  have HL : Hid ((D ++ l).length ≤ 1125899906842624) := by show _ ≤ _; rw [List.length_append, hs.len]; exact hl
  have HZ : Hid (1 ≤ sz ∧ sz ≤ 32 ∧ k.length ≤ 32) := ⟨hp.1, hp.2.1, hp.2.2.1⟩
  have CZ : ∀ W, HashAt W g sz k D → Calls Try.prog 44 #[.pointer (some ⟨g, 0, none⟩)] W fun e w' => e = .returned (.bool false) ∧ Fr (fun _ => False) W w' := fun W h => by
    obtain ⟨a1, _, _, _, n, c, X, _, _, _, _, _, hb⟩ := h
    exact none_made g sz W hb.size (by omega)
  clear hp hs hg hl
  go_enter Try.func37, Try.ntmps37
  go_upto_region 1 with (go_at_call 44; refine (CZ _ HP.out).mono ?_; rintro e w0 ⟨rfl, hf⟩; have F0 : Hid (Fr (fun i => i = g) w w0) := hf.any; replace HP := Lib.hid (HP.out.fr hf (fun x => x)); replace HS := Lib.hid (HS.out.fr hf (fun _ x => x)); clear hf)
  clear CZ
  go_loopw [1] (fun u1 wr => ∃ (E R : List Int) (A : Option Addr) (m cap : Nat), u1 = .slice A m cap ∧ Hid (E ++ R = D ++ l) ∧ Hid (HashAt wr g sz k E) ∧ Hid (Sl wr gb (.slice A m cap) R) ∧ Hid (Fr (fun i => i = g) w wr))
    (fun u1 _ => sLn u1)
  case atStart => exact ⟨D, l, A0, m0, cap0, rfl, rfl, HP, HS, F0⟩
  case round =>
    clear HP HS F0
    obtain ⟨E, R, A, m, cap, rfl, hER, hP, hS, hF⟩ := hrel
    have hm := Lib.hid hS.out.len
    by_cases hm0 : 0 < m
    · obtain ⟨_, _, _, _, n0, c, X, b1, b2, b3, b4, b5, hB⟩ := hP.out
      obtain ⟨o, rfl, hcell⟩ := hS.out.at_ hm0
      have S3B : Hid (Bys R) := hS.out.1
      obtain ⟨s, hs⟩ : ∃ s, s = eat (h0 (sz : Int) k.length) (inn k E) n0 := ⟨_, rfl⟩
      obtain ⟨p, hp⟩ : ∃ p, p = ((64 * n0 : Nat) : Int) := ⟨_, rfl⟩
      have HH : Hid (Hs sz k E n0 c s p X) := ⟨b1, b4, b5, hs, hp⟩
      rw [← hs, ← hp] at hB
      have HB := Lib.hid hB
      have OS : Hid (V8 s) := by rw [hs]; exact eat_ok (h0_ok _ _) _ _
      have bp : 0 ≤ p ∧ p ≤ 2251799813685248 := by
        have h1 := congrArg List.length hER.out
        simp only [List.length_append] at h1
        have h2 := HL.out
        rw [List.length_append] at h2
        have h3 := inn_length_le k E HZ.out.2.2
        omega
      clear hs hp hB b1 b3 b4 b5 hP
      have HCl := Lib.hid hcell
      have HGB : Hid (gb < wr.heap.size) := hS.out.lt6 (by rintro rfl; have := hm.out; simp at this; omega)
      clear hcell
      have r0 := HB.out.count
      by_cases hc64 : c = 64
      · subst hc64
        go_upto_region 3 with (fail)
        obtain ⟨p2, hp2⟩ : ∃ p2, p2 = p + 64 := ⟨_, rfl⟩
        have k2 : IntKind.u64.wrap (p + 64) = p2 := by rw [IntKind.wrap_u64]; omega
        have HP2 := Lib.hid hp2
        clear hp2
        have r1 := HB.out.pressed
        have r2 := HB.out.frozen 9
        go_upto_region 4 with (fail)
        have B1 := Lib.hid (HB.out.setPressed p2)
        have F1 : Hid (Fr (fun i => i = g) w (wr.setCell ⟨g, 9, none⟩ (.int .u64 p2))) := hF.out.setCell _ (.inl rfl)
        have S1 : Hid (Sl (wr.setCell ⟨g, 9, none⟩ (.int .u64 p2)) gb (.slice (some ⟨gb, o, none⟩) m cap) R) := hS.out.fr (S := fun i => i = g) ((Fr.refl _ _).setCell _ (.inl rfl)) (fun _ => HG.out)
        have G1 : Hid (gb < (wr.setCell ⟨g, 9, none⟩ (.int .u64 p2)).heap.size) := by show _ < _; simpa using HGB.out
        generalize wr.setCell ⟨g, 9, none⟩ (.int .u64 p2) = V1 at *
        clear r0 r1 r2 k2 HB hF hS HCl HGB
        try simp only [Act.put, List.setIfInBounds_toArray, List.set_cons_succ, List.set_cons_zero]
        obtain ⟨M, hM⟩ : ∃ M, M = ws X := ⟨_, rfl⟩
        obtain ⟨s2, hs2⟩ : ∃ s2, s2 = prm s M p2 false := ⟨_, rfl⟩
        have bX : Bys X := HH.out.2.1
        have OM : V16 M := by rw [hM]; exact ⟨ws_length 16 X B1.out.2.1, ws_wds 16 X B1.out.2.1 bX⟩
        have O2 : Hid (V8 s2) := by rw [hs2]; exact fn_ok OS.out (rd_ok (v0_ok OS.out _ _) 80)
        have HE1 : Hid (Hs sz k E (n0 + 1) 0 s2 p2 X) := by
          have h := HH.out.press B1.out.2.1 HP2.out
          rw [← hM, ← hs2] at h
          exact h
        have CN : ∀ W, Calls Try.prog 46 #[.agg (vs .u8 X)] W fun e w' => e = .returned (.agg (vs .u32 M)) ∧ Fr (fun _ => False) W w' := fun W => by rw [hM]; exact numbers_is X W B1.out.2.1 bX
        have CW : ∀ W, Calls Try.prog 45 #[.agg (vs .u32 s), .agg (vs .u32 M), .int .u64 p2, .bool false] W fun e w' => e = .returned (.agg (vs .u32 s2)) ∧ Fr (fun _ => False) W w' := fun W => by rw [hs2]; exact with_no s M p2 W OS.out OM
        have ss : Hid ((Try.prog.info? 52).map (·.size) = some s.length) := by show _ = _; rw [OS.out.1]; exact szE
        have sX : Hid ((Try.prog.info? 54).map (·.size) = some X.length) := by show _ = _; rw [B1.out.2.1]; exact size64
        have ss2 : Hid ((Try.prog.info? 52).map (·.size) = some (vs .u32 s2).size) := by show _ = _; rw [vs_size, O2.out.1]; exact szE
        clear hM hs2 OM HH bX HP2 bp b2
        refine wp_region_quiet_tail (C := Calm V1) 17 (by kernel_rfl) (by kernel_rfl) (Calm.start _ _ (Fr.refl _ _)) ?_
        simp only [List.take_succ_cons, List.take_zero, List.drop_succ_cons, List.drop_zero]
        refine BigFrame.wpQuiet_want rfl fun K hK => ?_
        try simp only [Act.put, List.setIfInBounds_toArray, List.set_cons_succ, List.set_cons_zero]
        go_big_quiet_op
        refine hK _ ?_
        refine BigFrame.wpQuiet_want rfl fun K hK => ?_
        try simp only [Act.put, List.setIfInBounds_toArray, List.set_cons_succ, List.set_cons_zero]
        go_big_quiet_op
        refine hK _ ?_
        refine BigFrame.wpQuiet_want rfl fun K hK => ?_
        try simp only [Act.put, List.setIfInBounds_toArray, List.set_cons_succ, List.set_cons_zero]
        go_big_quiet_op
        first
          | refine ⟨_, fun _ _ => rfl, hK _ ?_⟩
          | refine hK _ ?_
        refine BigFrame.wpQuiet_want rfl fun K hK => ?_
        try simp only [Act.put, List.setIfInBounds_toArray, List.set_cons_succ, List.set_cons_zero]
        go_big_quiet_op
        first
          | refine ⟨_, fun _ _ => rfl, hK _ ?_⟩
          | refine hK _ ?_
        refine BigFrame.wpQuiet_want rfl fun K hK => quiet_mid 52 _ (.tmp 25) rfl (g) 1 rfl .u32 (s) Try.underlying52 rfl ss.out (fun _ h => (B1.out.fr h (fun x => x)).sum) (hK _ ?_)
        refine BigFrame.wpQuiet_want rfl fun K hK => ?_
        try simp only [Act.put, List.setIfInBounds_toArray, List.set_cons_succ, List.set_cons_zero]
        go_big_quiet_op
        refine hK _ ?_
        refine BigFrame.wpQuiet_want rfl fun K hK => ?_
        try simp only [Act.put, List.setIfInBounds_toArray, List.set_cons_succ, List.set_cons_zero]
        go_big_quiet_op
        first
          | refine ⟨_, fun _ _ => rfl, hK _ ?_⟩
          | refine hK _ ?_
        refine BigFrame.wpQuiet_want rfl fun K hK => ?_
        try simp only [Act.put, List.setIfInBounds_toArray, List.set_cons_succ, List.set_cons_zero]
        go_big_quiet_op
        first
          | refine ⟨_, fun _ _ => rfl, hK _ ?_⟩
          | refine hK _ ?_
        refine BigFrame.wpQuiet_want rfl fun K hK => quiet_mid 54 _ (.tmp 29) rfl (g) 10 rfl .u8 (X) Try.underlying54 rfl sX.out (fun _ h => (B1.out.fr h (fun x => x)).wait) (hK _ ?_)
        refine BigFrame.wpQuiet_want rfl fun K hK => ?_
        try simp only [Act.put, List.setIfInBounds_toArray, List.set_cons_succ, List.set_cons_zero]
        go_big_quiet_op
        refine ⟨_, Calm.calls CN, hK _ ?_⟩
        refine BigFrame.wpQuiet_want rfl fun K hK => ?_
        try simp only [Act.put, List.setIfInBounds_toArray, List.set_cons_succ, List.set_cons_zero]
        go_big_quiet_op
        refine hK _ ?_
        refine BigFrame.wpQuiet_want rfl fun K hK => ?_
        try simp only [Act.put, List.setIfInBounds_toArray, List.set_cons_succ, List.set_cons_zero]
        go_big_quiet_op
        first
          | refine ⟨_, fun _ _ => rfl, hK _ ?_⟩
          | refine hK _ ?_
        refine BigFrame.wpQuiet_want rfl fun K hK => ?_
        try simp only [Act.put, List.setIfInBounds_toArray, List.set_cons_succ, List.set_cons_zero]
        go_big_quiet_op
        first
          | refine ⟨_, fun _ _ => rfl, hK _ ?_⟩
          | refine hK _ ?_
        refine BigFrame.wpQuiet_want rfl fun K hK => quiet_one 53 .u64 (.tmp 34) rfl (g) (9) rfl (p2) Try.underlying53 (fun _ h => (B1.out.fr h (fun x => x)).pressed) (hK _ ?_)
        refine BigFrame.wpQuiet_want rfl fun K hK => ?_
        try simp only [Act.put, List.setIfInBounds_toArray, List.set_cons_succ, List.set_cons_zero]
        go_big_quiet_op
        refine ⟨_, Calm.calls CW, hK _ ?_⟩
        refine BigFrame.wpQuiet_want rfl fun K hK => ?_
        try simp only [Act.put, List.setIfInBounds_toArray, List.set_cons_succ, List.set_cons_zero]
        go_big_quiet_op
        first
          | refine ⟨_, fun _ _ => rfl, hK _ ?_⟩
          | refine hK _ ?_
        refine BigFrame.wpQuiet_want rfl fun K hK => ?_
        try simp only [Act.put, List.setIfInBounds_toArray, List.set_cons_succ, List.set_cons_zero]
        go_big_quiet_op
        first
          | refine ⟨_, fun _ _ => rfl, hK _ ?_⟩
          | refine hK _ ?_
        refine wpQuiet_nil ?_
        intro w9 hw9
        have F9 : Hid (Fr (fun i => i = g) w w9) := F1.out.trans (Fr.any hw9)
        have G9 := Lib.hid hw9
        clear hw9
        try simp only [Act.put, List.setIfInBounds_toArray, List.set_cons_succ, List.set_cons_zero]
        have P9 := Lib.hid (B1.out.fr G9.out (fun x => x))
        have S9 := Lib.hid (S1.out.fr G9.out (fun _ x => x))
        have GB9 : Hid (gb < w9.heap.size) := Nat.lt_of_lt_of_le G1.out G9.out.size
        clear B1 S1 G1 G9 F1
        refine wpList_store_mid rfl 52 (.tmp 38) (.tmp 36) rfl g 1 (vs .u32 s2) rfl rfl (P9.out.there 1 _ (by rw [vs_size, O2.out.1]; decide)) ss2.out (vs_all _ _) ?_
        have P10 := Lib.hid (P9.out.setSum O2.out.1)
        have S10 := Lib.hid (S9.out.fr (S := fun i => i = g) (Fr.setCells (S := fun i => i = g) (Fr.refl _ _) (g := g) (.inl rfl) 1 (vs .u32 s2).toList) (fun _ => HG.out))
        have GB10 : Hid (gb < (w9.setCells g 1 (vs .u32 s2).toList).heap.size) := Nat.lt_of_lt_of_le GB9.out (Fr.setCells (S := fun i => i = g) (Fr.refl _ w9) (g := g) (.inl rfl) 1 (vs .u32 s2).toList).size
        have F10 := Lib.hid (F9.out.setCells (g := g) (.inl rfl) 1 (vs .u32 s2).toList)
        clear P9 S9 F9 GB9
        generalize w9.setCells g 1 (vs .u32 s2).toList = W10 at *
        try simp only [Act.put, List.setIfInBounds_toArray, List.set_cons_succ, List.set_cons_zero]
        have r0 := P10.out.count
        have r1 := P10.out.frozen 74
        go_upto_region 6 with (fail)
        have B11 := Lib.hid (P10.out.setCount 0)
        have S11 : Hid (Sl (W10.setCell ⟨g, 74, none⟩ (.int .i64 0)) gb (.slice (some ⟨gb, o, none⟩) m cap) R) := S10.out.fr (S := fun i => i = g) ((Fr.refl _ _).setCell _ (.inl rfl)) (fun _ => HG.out)
        have GB11 : Hid (gb < (W10.setCell ⟨g, 74, none⟩ (.int .i64 0)).heap.size) := by show _ < _; simpa using GB10.out
        have F11 : Hid (Fr (fun i => i = g) w (W10.setCell ⟨g, 74, none⟩ (.int .i64 0))) := F10.out.setCell _ (.inl rfl)
        generalize W10.setCell ⟨g, 74, none⟩ (.int .i64 0) = V at *
        clear r0 r1 P10 S10 F10 GB10 CN CW ss sX ss2 OS
        try simp only [Act.put, List.setIfInBounds_toArray, List.set_cons_succ, List.set_cons_zero]
        obtain ⟨c, hc⟩ : ∃ c : Nat, c = 0 := ⟨_, rfl⟩
        have hcz : ((0 : Nat) : Int) = 0 := rfl
        have HE : Hid (Hs sz k E (n0 + 1) c s2 p2 X) := by rw [hc]; exact HE1.out
        have HB : Hid (Hb V g (sz : Int) s2 p2 X (c : Int)) := by rw [hc]; exact B11.out
        have HC : Hid (c < 64) := by rw [hc]; exact (by decide : 0 < 64)
        have hc0 : c ≤ 64 := by omega
        have hc1 : c < 64 := by omega
        obtain ⟨o2, ho2, hcell⟩ := S11.out.at_ hm0
        obtain rfl : o = o2 := by
          injection ho2 with ho2
          injection ho2 with _ ho2 _
        have HCl := Lib.hid hcell
        have HS := S11
        have HF := F11
        have HGB := GB11
        clear hcell ho2 HE1 B11 S11 F11 GB11 hc hcz O2
        obtain ⟨n, hn⟩ : ∃ n, n = min m (64 - c) := ⟨_, rfl⟩
        obtain ⟨Y, hY⟩ : ∃ Y, Y = R.take n := ⟨_, rfl⟩
        have hYl : Y.length = n := by rw [hY, List.length_take, hm.out]; omega
        have hYs : ∀ j b, Y[j]? = some b → V.cell? ((⟨gb, o, none⟩ : Addr).add j) = some (.int .u8 b) := fun j b hj => by
          have hjn : j < n := by
            have := (List.getElem?_eq_some_iff.1 hj).1
            omega
          rw [Addr_add_none, HCl.out j (by omega)]
          rw [hY, List.getElem?_take, if_pos hjn] at hj
          rw [List.getD_eq_getElem?_getD, hj]
          rfl
        have HX := Lib.hid (And.intro hYl hYs)
        have HX0 := Lib.hid hY
        have HN := Lib.hid hn
        have n1 : c + n ≤ 64 := by omega
        have n2 : n ≤ m := by omega
        have n3 : 0 < n := by omega
        have hgb : gb < V.heap.size := HGB.out
        clear hYl hYs hY hn
        refine wp_region_quiet_tail (C := Calm V) 9 (by kernel_rfl) (by kernel_rfl) (Calm.start _ _ (Fr.refl _ _)) ?_
        simp only [List.take_succ_cons, List.take_zero, List.drop_succ_cons, List.drop_zero]
        refine BigFrame.wpQuiet_want rfl fun K hK => ?_
        try simp only [Act.put, List.setIfInBounds_toArray, List.set_cons_succ, List.set_cons_zero]
        go_big_quiet_op
        refine hK _ ?_
        refine BigFrame.wpQuiet_want rfl fun K hK => ?_
        try simp only [Act.put, List.setIfInBounds_toArray, List.set_cons_succ, List.set_cons_zero]
        go_big_quiet_op
        first
          | refine ⟨_, fun _ _ => rfl, hK _ ?_⟩
          | refine hK _ ?_
        refine BigFrame.wpQuiet_want rfl fun K hK => ?_
        try simp only [Act.put, List.setIfInBounds_toArray, List.set_cons_succ, List.set_cons_zero]
        go_big_quiet_op
        first
          | refine ⟨_, fun _ _ => rfl, hK _ ?_⟩
          | refine hK _ ?_
        refine BigFrame.wpQuiet_want rfl fun K hK => ?_
        try simp only [Act.put, List.setIfInBounds_toArray, List.set_cons_succ, List.set_cons_zero]
        go_big_quiet_op
        refine hK _ ?_
        refine BigFrame.wpQuiet_want rfl fun K hK => ?_
        try simp only [Act.put, List.setIfInBounds_toArray, List.set_cons_succ, List.set_cons_zero]
        go_big_quiet_op
        first
          | refine ⟨_, fun _ _ => rfl, hK _ ?_⟩
          | refine hK _ ?_
        refine BigFrame.wpQuiet_want rfl fun K hK => ?_
        try simp only [Act.put, List.setIfInBounds_toArray, List.set_cons_succ, List.set_cons_zero]
        go_big_quiet_op
        first
          | refine ⟨_, fun _ _ => rfl, hK _ ?_⟩
          | refine hK _ ?_
        refine BigFrame.wpQuiet_want rfl fun K hK => quiet_one 3 .i64 (.tmp 47) rfl (g) (74) rfl ((c : Int)) Try.underlying3 (fun _ h => (Hb.fr HB.out h (fun x => x)).count) (hK _ ?_)
        refine BigFrame.wpQuiet_want rfl fun K hK => quiet_run _ (fun W _ => run_slice_lowL (.tmp 44) (.tmp 48) rfl g 10 c rfl rfl HC.out W) (hK _ ?_)
        refine BigFrame.wpQuiet_want rfl fun K hK => ?_
        try simp only [Act.put, List.setIfInBounds_toArray, List.set_cons_succ, List.set_cons_zero]
        go_big_quiet_op
        refine hK _ ?_
        refine wpQuiet_nil ?_
        intro w9 hw9
        have F9 : Hid (Fr (fun i => i = g) w w9) := HF.out.trans (Fr.any hw9)
        have G9 := Lib.hid hw9
        clear hw9
        try simp only [Act.put, List.setIfInBounds_toArray, List.set_cons_succ, List.set_cons_zero]
        have P9 : Hid (Hb w9 g (sz : Int) s2 p2 X (c : Int)) := HB.out.fr G9.out (fun x => x)
        refine wpList_plain rfl fun K hK => wp_value (.int .i64 (Y.length : Int)) _ (run_op_copy (.tmp 49) (.tmp 50) rfl w9 g (10 + c) (64 - c) (64 - c) rfl ⟨gb, o, none⟩ m cap rfl (hcl (sz : Int) s2 p2 X (c : Int)).toArray 56 Y P9.out.2.2 ?_ ?_ ?_) (hK _ _ ?_)
        · rw [HX.out.1, HN.out]
        · intro j b hj
          have hh := HX.out.2 j b hj
          rw [Addr_add_none] at hh ⊢
          exact (World.cell?_of_block (w := V) (G9.out.block gb hgb (fun x => x))).trans hh
        · rw [List.size_toArray, hcl_length P9.out.1 P9.out.2.1, HX.out.1]; omega
        have P2 := Lib.hid (P9.out.setWait c Y (by rw [HX.out.1]; exact n1))
        have F2 := Lib.hid (F9.out.setRow (g := g) ((hcl (sz : Int) s2 p2 X (c : Int)).toArray.toList.take (10 + c) ++ bs Y ++ (hcl (sz : Int) s2 p2 X (c : Int)).toArray.toList.drop (10 + c + (bs Y).length)).toArray (.inl rfl))
        have S2 := Lib.hid (HS.out.fr ((Fr.any (S := fun i => i = g) G9.out).setRow (g := g) ((hcl (sz : Int) s2 p2 X (c : Int)).toArray.toList.take (10 + c) ++ bs Y ++ (hcl (sz : Int) s2 p2 X (c : Int)).toArray.toList.drop (10 + c + (bs Y).length)).toArray (.inl rfl)) (fun _ => HG.out))
        generalize w9.setRow g _ = W2 at *
        obtain ⟨X2, hX2⟩ : ∃ X2, X2 = X.take c ++ Y ++ X.drop (c + Y.length) := ⟨_, rfl⟩
        rw [← hX2] at P2
        have HX2 := Lib.hid hX2
        have hYn := HX.out.1
        rw [hYn]
        have q1 : ((n : Int)).toNat = n := by omega
        have q2 : 0 ≤ (n : Int) := by omega
        have q3 : (n : Int) ≤ m := by omega
        have lX := Lib.hid P9.out.2.1
        clear hX2 hYn P9 HB HS F9 HF G9 HCl hgb HGB
        try simp only [Act.put, List.setIfInBounds_toArray, List.set_cons_succ, List.set_cons_zero]
        go_upto_region 8 with (fail)
        have S3 : Hid (Sl W2 gb (.slice (if cap = n then some ⟨gb, o, none⟩ else some ⟨gb, o + n, none⟩) (m - n) (cap - n)) (R.drop n)) := by
          have h := S2.out.drop n (by have := hm.out; omega)
          rw [hm.out] at h
          show Sl _ _ _ _
          simpa [Addr_add_none] using h
        generalize (if cap = n then some (⟨gb, o, none⟩ : Addr) else some ⟨gb, o + n, none⟩) = A2 at *
        have kc := P2.out.count
        have fc := P2.out.frozen 74
        have v1 : IntKind.i64.wrap ((c : Int) + (n : Int)) = (c : Int) + (n : Int) := by rw [IntKind.wrap_i64]; omega
        clear S2 q1 q2 q3
        go_wp2
        have P3 : Hid (HashAt (W2.setCell ⟨g, 74, none⟩ (.int .i64 ((c : Int) + (n : Int)))) g sz k (E ++ Y)) := by
          have h := P2.out.setCount ((c : Int) + (n : Int))
          rw [← Int.natCast_add] at h ⊢
          have e := HX.out.1
          rw [← e] at h
          rw [HX2.out] at h
          rw [← e]
          refine HE.out.more ?_ (by omega) (by omega) lX.out HZ.out.1 HZ.out.2.1 HZ.out.2.2 ?_ h
          · rw [HX0.out]
            exact S3B.out.take n
          · have h1 := congrArg List.length hER.out
            simp only [List.length_append] at h1
            have h2 := HL.out
            rw [List.length_append] at h2
            have h3 := hm.out
            rw [List.length_append]
            omega
        have F3 : Hid (Fr (fun i => i = g) w (W2.setCell ⟨g, 74, none⟩ (.int .i64 ((c : Int) + (n : Int))))) := F2.out.setCell _ (.inl rfl)
        have S4 : Hid (Sl (W2.setCell ⟨g, 74, none⟩ (.int .i64 ((c : Int) + (n : Int)))) gb (.slice A2 (m - n) (cap - n)) (R.drop n)) := S3.out.fr (S := fun i => i = g) ((Fr.refl _ _).setCell _ (.inl rfl)) (fun _ => HG.out)
        have HER2 : Hid ((E ++ Y) ++ R.drop n = D ++ l) := by
          show _ = _
          rw [List.append_assoc, HX0.out, List.take_append_drop]
          exact hER.out
        clear kc fc P2 F2 S3
        generalize W2.setCell ⟨g, 74, none⟩ (.int .i64 ((c : Int) + (n : Int))) = W3 at *
        try simp only [Act.put, List.setIfInBounds_toArray, List.set_cons_succ, List.set_cons_zero]
        go_roundw
        case rel => exact ⟨E ++ Y, R.drop n, A2, m - n, cap - n, rfl, HER2, P3, S4, F3⟩
        case measure =>
          simp [sLn]
          omega
      · have hc1 : c < 64 := by omega
        have HC : Hid (c < 64) := hc1
        have hcc : ((c : Int) == 64) = false := by simpa using (by omega : ¬ (c : Int) = 64)
        have hcd : ¬ (c : Int) = 64 := by omega
        go_upto_region 6 with (fail)
        obtain ⟨V, rfl⟩ : ∃ V : World, V = wr := ⟨_, rfl⟩
        have HE := HH
        have HS := hS
        have HF := hF
        clear r0 hcc hcd HH hS hF bp b2
        obtain ⟨n, hn⟩ : ∃ n, n = min m (64 - c) := ⟨_, rfl⟩
        obtain ⟨Y, hY⟩ : ∃ Y, Y = R.take n := ⟨_, rfl⟩
        have hYl : Y.length = n := by rw [hY, List.length_take, hm.out]; omega
        have hYs : ∀ j b, Y[j]? = some b → V.cell? ((⟨gb, o, none⟩ : Addr).add j) = some (.int .u8 b) := fun j b hj => by
          have hjn : j < n := by
            have := (List.getElem?_eq_some_iff.1 hj).1
            omega
          rw [Addr_add_none, HCl.out j (by omega)]
          rw [hY, List.getElem?_take, if_pos hjn] at hj
          rw [List.getD_eq_getElem?_getD, hj]
          rfl
        have HX := Lib.hid (And.intro hYl hYs)
        have HX0 := Lib.hid hY
        have HN := Lib.hid hn
        have n1 : c + n ≤ 64 := by omega
        have n2 : n ≤ m := by omega
        have n3 : 0 < n := by omega
        have hgb : gb < V.heap.size := HGB.out
        clear hYl hYs hY hn
        refine wp_region_quiet_tail (C := Calm V) 9 (by kernel_rfl) (by kernel_rfl) (Calm.start _ _ (Fr.refl _ _)) ?_
        simp only [List.take_succ_cons, List.take_zero, List.drop_succ_cons, List.drop_zero]
        refine BigFrame.wpQuiet_want rfl fun K hK => ?_
        try simp only [Act.put, List.setIfInBounds_toArray, List.set_cons_succ, List.set_cons_zero]
        go_big_quiet_op
        refine hK _ ?_
        refine BigFrame.wpQuiet_want rfl fun K hK => ?_
        try simp only [Act.put, List.setIfInBounds_toArray, List.set_cons_succ, List.set_cons_zero]
        go_big_quiet_op
        first
          | refine ⟨_, fun _ _ => rfl, hK _ ?_⟩
          | refine hK _ ?_
        refine BigFrame.wpQuiet_want rfl fun K hK => ?_
        try simp only [Act.put, List.setIfInBounds_toArray, List.set_cons_succ, List.set_cons_zero]
        go_big_quiet_op
        first
          | refine ⟨_, fun _ _ => rfl, hK _ ?_⟩
          | refine hK _ ?_
        refine BigFrame.wpQuiet_want rfl fun K hK => ?_
        try simp only [Act.put, List.setIfInBounds_toArray, List.set_cons_succ, List.set_cons_zero]
        go_big_quiet_op
        refine hK _ ?_
        refine BigFrame.wpQuiet_want rfl fun K hK => ?_
        try simp only [Act.put, List.setIfInBounds_toArray, List.set_cons_succ, List.set_cons_zero]
        go_big_quiet_op
        first
          | refine ⟨_, fun _ _ => rfl, hK _ ?_⟩
          | refine hK _ ?_
        refine BigFrame.wpQuiet_want rfl fun K hK => ?_
        try simp only [Act.put, List.setIfInBounds_toArray, List.set_cons_succ, List.set_cons_zero]
        go_big_quiet_op
        first
          | refine ⟨_, fun _ _ => rfl, hK _ ?_⟩
          | refine hK _ ?_
        refine BigFrame.wpQuiet_want rfl fun K hK => quiet_one 3 .i64 (.tmp 47) rfl (g) (74) rfl ((c : Int)) Try.underlying3 (fun _ h => (Hb.fr HB.out h (fun x => x)).count) (hK _ ?_)
        refine BigFrame.wpQuiet_want rfl fun K hK => quiet_run _ (fun W _ => run_slice_lowL (.tmp 44) (.tmp 48) rfl g 10 c rfl rfl HC.out W) (hK _ ?_)
        refine BigFrame.wpQuiet_want rfl fun K hK => ?_
        try simp only [Act.put, List.setIfInBounds_toArray, List.set_cons_succ, List.set_cons_zero]
        go_big_quiet_op
        refine hK _ ?_
        refine wpQuiet_nil ?_
        intro w9 hw9
        have F9 : Hid (Fr (fun i => i = g) w w9) := HF.out.trans (Fr.any hw9)
        have G9 := Lib.hid hw9
        clear hw9
        try simp only [Act.put, List.setIfInBounds_toArray, List.set_cons_succ, List.set_cons_zero]
        have P9 : Hid (Hb w9 g (sz : Int) s p X (c : Int)) := HB.out.fr G9.out (fun x => x)
        refine wpList_plain rfl fun K hK => wp_value (.int .i64 (Y.length : Int)) _ (run_op_copy (.tmp 49) (.tmp 50) rfl w9 g (10 + c) (64 - c) (64 - c) rfl ⟨gb, o, none⟩ m cap rfl (hcl (sz : Int) s p X (c : Int)).toArray 56 Y P9.out.2.2 ?_ ?_ ?_) (hK _ _ ?_)
        · rw [HX.out.1, HN.out]
        · intro j b hj
          have hh := HX.out.2 j b hj
          rw [Addr_add_none] at hh ⊢
          exact (World.cell?_of_block (w := V) (G9.out.block gb hgb (fun x => x))).trans hh
        · rw [List.size_toArray, hcl_length P9.out.1 P9.out.2.1, HX.out.1]; omega
        have P2 := Lib.hid (P9.out.setWait c Y (by rw [HX.out.1]; exact n1))
        have F2 := Lib.hid (F9.out.setRow (g := g) ((hcl (sz : Int) s p X (c : Int)).toArray.toList.take (10 + c) ++ bs Y ++ (hcl (sz : Int) s p X (c : Int)).toArray.toList.drop (10 + c + (bs Y).length)).toArray (.inl rfl))
        have S2 := Lib.hid (HS.out.fr ((Fr.any (S := fun i => i = g) G9.out).setRow (g := g) ((hcl (sz : Int) s p X (c : Int)).toArray.toList.take (10 + c) ++ bs Y ++ (hcl (sz : Int) s p X (c : Int)).toArray.toList.drop (10 + c + (bs Y).length)).toArray (.inl rfl)) (fun _ => HG.out))
        generalize w9.setRow g _ = W2 at *
        obtain ⟨X2, hX2⟩ : ∃ X2, X2 = X.take c ++ Y ++ X.drop (c + Y.length) := ⟨_, rfl⟩
        rw [← hX2] at P2
        have HX2 := Lib.hid hX2
        have hYn := HX.out.1
        rw [hYn]
        have q1 : ((n : Int)).toNat = n := by omega
        have q2 : 0 ≤ (n : Int) := by omega
        have q3 : (n : Int) ≤ m := by omega
        have lX := Lib.hid P9.out.2.1
        clear hX2 hYn P9 HB HS F9 HF G9 HCl hgb HGB
        try simp only [Act.put, List.setIfInBounds_toArray, List.set_cons_succ, List.set_cons_zero]
        go_upto_region 8 with (fail)
        have S3 : Hid (Sl W2 gb (.slice (if cap = n then some ⟨gb, o, none⟩ else some ⟨gb, o + n, none⟩) (m - n) (cap - n)) (R.drop n)) := by
          have h := S2.out.drop n (by have := hm.out; omega)
          rw [hm.out] at h
          show Sl _ _ _ _
          simpa [Addr_add_none] using h
        generalize (if cap = n then some (⟨gb, o, none⟩ : Addr) else some ⟨gb, o + n, none⟩) = A2 at *
        have kc := P2.out.count
        have fc := P2.out.frozen 74
        have v1 : IntKind.i64.wrap ((c : Int) + (n : Int)) = (c : Int) + (n : Int) := by rw [IntKind.wrap_i64]; omega
        clear S2 q1 q2 q3
        go_wp2
        have P3 : Hid (HashAt (W2.setCell ⟨g, 74, none⟩ (.int .i64 ((c : Int) + (n : Int)))) g sz k (E ++ Y)) := by
          have h := P2.out.setCount ((c : Int) + (n : Int))
          rw [← Int.natCast_add] at h ⊢
          have e := HX.out.1
          rw [← e] at h
          rw [HX2.out] at h
          rw [← e]
          refine HE.out.more ?_ (by omega) (by omega) lX.out HZ.out.1 HZ.out.2.1 HZ.out.2.2 ?_ h
          · rw [HX0.out]
            exact S3B.out.take n
          · have h1 := congrArg List.length hER.out
            simp only [List.length_append] at h1
            have h2 := HL.out
            rw [List.length_append] at h2
            have h3 := hm.out
            rw [List.length_append]
            omega
        have F3 : Hid (Fr (fun i => i = g) w (W2.setCell ⟨g, 74, none⟩ (.int .i64 ((c : Int) + (n : Int))))) := F2.out.setCell _ (.inl rfl)
        have S4 : Hid (Sl (W2.setCell ⟨g, 74, none⟩ (.int .i64 ((c : Int) + (n : Int)))) gb (.slice A2 (m - n) (cap - n)) (R.drop n)) := S3.out.fr (S := fun i => i = g) ((Fr.refl _ _).setCell _ (.inl rfl)) (fun _ => HG.out)
        have HER2 : Hid ((E ++ Y) ++ R.drop n = D ++ l) := by
          show _ = _
          rw [List.append_assoc, HX0.out, List.take_append_drop]
          exact hER.out
        clear kc fc P2 F2 S3
        generalize W2.setCell ⟨g, 74, none⟩ (.int .i64 ((c : Int) + (n : Int))) = W3 at *
        try simp only [Act.put, List.setIfInBounds_toArray, List.set_cons_succ, List.set_cons_zero]
        go_roundw
        case rel => exact ⟨E ++ Y, R.drop n, A2, m - n, cap - n, rfl, HER2, P3, S4, F3⟩
        case measure =>
          simp [sLn]
          omega
    · obtain rfl : m = 0 := by omega
      obtain rfl : R = [] := by
        have := hm.out
        exact List.eq_nil_of_length_eq_zero this
      have HE : Hid (E = D ++ l) := by
        have h := hER.out
        rwa [List.append_nil] at h
      go_wp2
      refine bodyPost_end (results_none rfl _ _ _) rfl ?_
      exact ⟨rfl, by rw [← HE.out]; exact hP.out, hF.out⟩
end Go.Proofs.Ytebknlhooijkcaa
