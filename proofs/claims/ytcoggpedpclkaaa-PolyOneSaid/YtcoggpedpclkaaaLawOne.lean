/- PolyOne answers true for all bytes, and its argument reads behind the call as it did: the given statement PolyOneSaid. No condition. -/
import Derived.Test.YtcoggpedpclkaaaLi
namespace Go.Proofs.Ytcoggpedpclkaaa
set_option linter.unusedSimpArgs false
set_option linter.unusedVariables false
open Go.ChangeShapes Go.WideShapes Go.ChangeAt Go.RowKit

def one32 : List Int := 1 :: List.replicate 31 0
theorem build_one {o : Oper} {a : Act} (ho : o.op = .build 23 #[(0, .const (.int .u8 1))]) (W : World) : (execOp a.eval o).run Try.prog W = .ok (.value (.agg (vs .u8 one32))) W := by
  unfold execOp
  simp only [ho]
  kernel_rfl
theorem one32_rr : rr one32 = 1 := by decide +kernel
theorem one32_s : vl (one32.drop 16) = 0 := by decide +kernel
theorem one32_bys : Bys one32 := bys_of _ (by decide +kernel)
theorem tag_one (B : List Int) (hB : Bys B) (h0 : 0 < B.length) (h1 : B.length ≤ 15) : tag one32 B = B ++ [1] ++ List.replicate (15 - B.length) 0 := by
  have bb : Bys (B ++ [1]) := hB.append (by intro b hb; simp at hb; omega)
  have bv := vl_bd _ bb
  have lb : (B ++ [1]).length = B.length + 1 := by simp
  have hlt : vl (B ++ [1]) < 340282366920938463463374607431768211456 := by
    refine Int.lt_of_lt_of_le bv.2 ?_
    rw [lb]
    have := pow256 (show B.length + 1 ≤ 16 by omega)
    simpa using this
  have hh : hsh 1 B = vl (B ++ [1]) := by
    have h := hsh_block 1 [] B rfl h0 (by omega)
    rw [List.nil_append, hsh_nil, Int.zero_add, Int.mul_one] at h
    rw [h]
    exact Int.emod_eq_of_lt bv.1 (by unfold pp; omega)
  have bE : Bys (B ++ [1] ++ List.replicate (15 - B.length) 0) := bb.append (by intro b hb; rw [List.eq_of_mem_replicate hb]; omega)
  have h := les_vl _ bE
  have lE : (B ++ [1] ++ List.replicate (15 - B.length) 0).length = 16 := by simp; omega
  rw [lE, vl_pad] at h
  rw [tag, one32_rr, one32_s, hh, Int.add_zero]
  exact h
theorem tag_none : tag one32 [] = List.replicate 16 0 := by
  rw [tag, hsh_nil, one32_s]
  rfl
set_option maxRecDepth 100000 in
set_option maxHeartbeats 16000000 in
theorem law_one_any (g0 : Nat) (A0 : Option Addr) (m0 s0 : Nat) (l0 : List Int) (w : World) (hs0 : Sl w g0 (.slice A0 m0 s0) l0) (hn0 : m0 ≤ 140737488351232) (hg0 : l0 ≠ [] → g0 < w.heap.size) :
    Calls Try.prog 11 #[.slice A0 m0 s0] w fun e w' => e = .returned (.bool true) ∧ Fr (fun _ => False) w w' := by
  obtain ⟨n, hn⟩ : ∃ n, n = min m0 15 := ⟨_, rfl⟩
  have hl0 := hs0.len
  obtain ⟨B, hB⟩ : ∃ B, B = l0.take n := ⟨_, rfl⟩
  have lB : B.length = n := by rw [hB, List.length_take]; omega
  have bB : Bys B := by rw [hB]; exact hs0.1.take n
  obtain ⟨D, hD⟩ : ∃ D, D = B ++ List.replicate (16 - n) 0 := ⟨_, rfl⟩
  have lD : D.length = 16 := by rw [hD]; simp [lB]; omega
  obtain ⟨t, ht⟩ : ∃ t, t = tag one32 B := ⟨_, rfl⟩
  have lt : t.length = 16 := by rw [ht]; exact tag_length _ _
  have HE : ∀ W, (Op.equalIn 10000 26 (.agg (vs .u8 t)) (.agg (vs .u8 t))).run Try.prog W = .ok true W := fun W => (eq26 t t lt lt W).trans (by rw [decide_eq_true rfl])
  have D0 : Hid (n = 0 → D = t) := by
    show _ → _
    intro h
    have : B = [] := List.eq_nil_of_length_eq_zero (by omega)
    rw [hD, ht, this, tag_none, h]
    rfl
  have D1 : Hid (0 < n → D.set n 1 = t) := by
    show _ → _
    intro h
    rw [hD, ht, tag_one B bB (by omega) (by omega), lB, List.set_append_right _ _ (by omega), lB, Nat.sub_self, show 16 - n = (15 - n) + 1 by omega, List.replicate_succ, List.set_cons_zero]
    simp
  have D2 : Hid (fil D n 0 = D) := by
    show _ = _
    unfold fil
    rw [lD, hD, List.take_append_of_le_length (by omega), List.take_of_length_le (by omega)]
  have D3 : Hid (∀ i, i < n → D[i]? = some (l0.getD i 0)) := by
    show ∀ _, _
    intro i hi
    rw [hD, List.getElem?_append_left (by omega), hB, List.getElem?_take, if_pos hi]
    exact getD_some (by omega)
  have D4 : Hid (0 < n → D[n]? = some 0) := by
    show _ → _
    intro h
    rw [hD, List.getElem?_append_right (by omega), lB, Nat.sub_self, List.getElem?_replicate, if_pos (by omega)]
  have HS := Lib.hid (And.intro hs0 hg0)
  have HB := Lib.hid (And.intro bB hB)
  have HT := Lib.hid ht
  have HLD := Lib.hid (And.intro lD lt)
  have HN := Lib.hid hn
  obtain ⟨KK, hKK⟩ : ∃ K, K = vs .u8 one32 := ⟨_, rfl⟩
  have C15 : ∀ V, Calm w V → ∀ U, Calm U V → Calls Try.prog 15 #[.agg KK, .slice A0 n s0] V fun e w' => e = .returned (.agg (vs .u8 t)) ∧ Calm U w' := fun V h U hU => by
    rw [ht, hKK, hB]
    have hT := (hs0.fr h (fun _ x => x)).take n (by omega)
    refine (tag_is one32 g0 A0 n s0 (l0.take n) V rfl one32_bys hT (fun e => Nat.lt_of_lt_of_le (hg0 (fun e2 => e (by rw [e2]; simp))) h.size)).mono fun _ _ ⟨he, hf⟩ => ⟨he, Fr.trans hU hf⟩
  have HK2 : Unit → KK = vs .u8 one32 := fun _ => hKK
  obtain ⟨Z, hZ⟩ : ∃ Z, Z = List.replicate 16 (0 : Int) := ⟨_, rfl⟩
  have hz2 : ∀ W : World, (zeroValue 26).run Try.prog W = .ok (.agg (vs .u8 Z)) W := fun W => by rw [hZ]; exact zero26 W
  have HZ : Hid (Z = fil D 0 0) := by show _ = _; rw [hZ, fil_zero, lD]
  have hn15 : n ≤ 15 := by omega
  have hnm : n ≤ m0 := by omega
  have hend : n = m0 ∨ n = 15 := by omega
  have hmin : (if 15 < m0 then (15 : Int) else (m0 : Int)) = (n : Int) := by rw [hn]; split <;> omega
  clear hn hB lB bB hD lD ht lt hKK hZ hs0 hn0 hg0
  go_enter Try.func11, Try.ntmps11
  go_upto_region 3 with (go_at_call 18; refine (works_is _).mono ?_; rintro e w1 ⟨rfl, hf⟩)
  have F0 := Lib.hid hf
  clear hf
  go_upto_region 4 with (fail)
  obtain ⟨q, hq⟩ : ∃ q, q = w1.heap.size := ⟨_, rfl⟩
  have hq0 : w.heap.size ≤ q := by rw [hq]; exact F0.out.size
  have X0 : Hid (Ar (w1.alloc (.cells (vs .u8 Z) 26)) q 26 .u8 (fil D 0 0)) := by rw [hq, ← HZ.out]; exact Ar.new w1 26 .u8 Z
  replace F0 := Lib.hid (F0.out.alloc (.cells (vs .u8 Z) 26))
  rw [← hq] at ⊢
  clear hq hz2
  generalize w1.alloc (.cells (vs .u8 Z) 26) = W1 at *
  go_wp2
  go_loopw [4] (fun u4 wr => ∃ i : Nat, u4 = .int .i64 i ∧ i ≤ n ∧ Hid (Ar wr q 26 .u8 (fil D i 0)) ∧ Hid (Fr (fun _ => False) w wr))
    (fun u4 _ => n - (intOf u4).toNat)
  case atStart => exact ⟨0, rfl, by omega, X0, F0⟩
  case round =>
    clear X0 F0
    obtain ⟨i, rfl, hi, hA, hF⟩ := hrel
    by_cases hil : i < n
    · obtain ⟨o, rfl, hcell⟩ := (HS.out.1.fr hF.out (fun _ x => x)).at_ (by omega)
      have kb := hcell i (by omega)
      have gD := D3.out i hil
      obtain ⟨y, hy⟩ : ∃ y, l0.getD i 0 = y := ⟨_, rfl⟩
      rw [hy] at kb gD
      have ck := hA.out.cell (fil_get' D i 0 (by have := HLD.out.1; omega))
      have fk := hA.out.frozen i
      have A9 := Lib.hid (hA.out.set i y)
      rw [fil_set D i 0 _ gD] at A9
      have j1 : ((i : Int)).toNat = i := by omega
      have j2 : 0 ≤ (i : Int) := by omega
      have j3 : (i : Int) < 16 := by omega
      have j4 : (i : Int) < m0 := by omega
      have j5 : (i : Int) < 15 := by omega
      clear hcell gD hy hA
      go_wp2
      go_roundw
      case rel => exact ⟨i + 1, by go_num, by omega, A9, hF.out.setCell _ (.inr (by simp <;> omega))⟩
      case measure => simp [intOf]; omega
    · have hin : i = n := by omega
      subst hin
      have A9 : Hid (Ar wr q 26 .u8 D) := by have h := hA.out; rwa [D2.out] at h
      have CT : ∀ V, Fr (fun _ => False) w V → ∀ U, Calm U V → Calls Try.prog 15 #[.agg KK, .slice A0 i s0] V fun e w' => e = .returned (.agg (vs .u8 t)) ∧ Calm U w' := fun V h U hU => C15 V h U hU
      clear hA C15
      have j1 : ((i : Int)).toNat = i := by omega
      have j2 : 0 ≤ (i : Int) := by omega
      have j3 : (i : Int) < 16 := by omega
      have hsi : i ≤ s0 := by
        obtain ⟨_, A', c', e, h3, _⟩ := HS.out.1
        injection e with _ e2 e3
        omega
      have j7 : (i : Int) ≤ s0 := by omega
      have hx : ¬ ((i : Int) < m0 ∧ (i : Int) < 15) := by omega
      rcases Nat.eq_zero_or_pos i with h0 | h0
      · have e := D0.out h0
        rw [e] at A9
        rcases hend with he | he
        · have jm : ¬ (i : Int) < m0 := by omega
          have j0 : ¬ 0 < (i : Int) := by omega
          clear h0
          subst he
          go_upto_region 11 with (fail)
          have CU : ∀ V, Calm wr V → Calls Try.prog 15 #[.agg KK, .slice A0 i s0] V fun e w' => e = .returned (.agg (vs .u8 t)) ∧ Calm wr w' := fun V h => CT V (Fr.trans hF.out h) wr h
          refine wp_region_quiet (C := Calm wr) (by kernel_rfl) (by kernel_rfl) (Calm.start _ _ (Fr.refl _ _)) ?_
          refine BigFrame.wpQuiet_want rfl fun K hK => quiet_run (.agg KK) (fun W _ => (HK2 ()).symm ▸ build_one rfl W) (hK _ ?_)
          refine BigFrame.wpQuiet_want rfl fun K hK => ?_
          try simp only [Act.put, List.setIfInBounds_toArray, List.set_cons_succ, List.set_cons_zero]
          go_big_quiet_op
          refine hK _ ?_
          refine BigFrame.wpQuiet_want rfl fun K hK => ?_
          try simp only [Act.put, List.setIfInBounds_toArray, List.set_cons_succ, List.set_cons_zero]
          go_big_quiet_op
          refine hK _ ?_
          refine BigFrame.wpQuiet_want rfl fun K hK => ?_
          try simp only [Act.put, List.setIfInBounds_toArray, List.set_cons_succ, List.set_cons_zero]
          go_big_quiet_op
          first
            | refine ⟨_, fun _ _ => rfl, hK _ ?_⟩
            | refine hK _ ?_
          refine BigFrame.wpQuiet_want rfl fun K hK => ?_
          try simp only [Act.put, List.setIfInBounds_toArray, List.set_cons_succ, List.set_cons_zero]
          go_big_quiet_op
          refine ⟨_, CU, hK _ ?_⟩
          refine BigFrame.wpQuiet_want rfl fun K hK => quiet_load 26 (.tmp 3) rfl (q) rfl 26 _ (0, 0) _ (fun _ h => Calm.at A9.out h) Try.underlying26 rfl (tags_info HLD.out.2) (hK _ ?_)
          refine BigFrame.wpQuiet_want rfl fun K hK => ?_
          try simp only [Act.put, List.setIfInBounds_toArray, List.set_cons_succ, List.set_cons_zero]
          go_big_quiet_op
          first
            | refine ⟨_, fun _ _ => rfl, hK _ ?_⟩
            | refine hK _ ?_
          refine BigFrame.wpQuiet_want rfl fun K hK => ?_
          try simp only [Act.put, List.setIfInBounds_toArray, List.set_cons_succ, List.set_cons_zero]
          go_big_quiet_op
          refine hK _ ?_
          refine wpQuiet_nil ?_
          intro w9 hw9
          have F9 : Hid (Fr (fun _ => False) w w9) := hF.out.trans hw9
          have G9 := Lib.hid hw9
          clear hw9
          try simp only [Act.put, List.setIfInBounds_toArray, List.set_cons_succ, List.set_cons_zero]
          go_wp2
          go_ret
          exact ⟨rfl, F9.out⟩
        · omega
      · have ck := A9.out.cell (D4.out h0)
        have fk := A9.out.frozen i
        have A8 := Lib.hid (A9.out.set i 1)
        rw [D1.out h0] at A8
        have jp : 0 < (i : Int) := by omega
        rcases hend with he | he
        · have jm : ¬ (i : Int) < m0 := by omega
          subst he
          go_upto_region 11 with (fail)
          replace hF := Lib.hid (hF.out.setCell (p := ⟨q, i, none⟩) (.int .u8 1) (.inr hq0))
          clear A9 ck fk
          generalize wr.setCell ⟨q, i, none⟩ (.int .u8 1) = wr at *
          have CU : ∀ V, Calm wr V → Calls Try.prog 15 #[.agg KK, .slice A0 i s0] V fun e w' => e = .returned (.agg (vs .u8 t)) ∧ Calm wr w' := fun V h => CT V (Fr.trans hF.out h) wr h
          refine wp_region_quiet (C := Calm wr) (by kernel_rfl) (by kernel_rfl) (Calm.start _ _ (Fr.refl _ _)) ?_
          refine BigFrame.wpQuiet_want rfl fun K hK => quiet_run (.agg KK) (fun W _ => (HK2 ()).symm ▸ build_one rfl W) (hK _ ?_)
          refine BigFrame.wpQuiet_want rfl fun K hK => ?_
          try simp only [Act.put, List.setIfInBounds_toArray, List.set_cons_succ, List.set_cons_zero]
          go_big_quiet_op
          refine hK _ ?_
          refine BigFrame.wpQuiet_want rfl fun K hK => ?_
          try simp only [Act.put, List.setIfInBounds_toArray, List.set_cons_succ, List.set_cons_zero]
          go_big_quiet_op
          refine hK _ ?_
          refine BigFrame.wpQuiet_want rfl fun K hK => ?_
          try simp only [Act.put, List.setIfInBounds_toArray, List.set_cons_succ, List.set_cons_zero]
          go_big_quiet_op
          first
            | refine ⟨_, fun _ _ => rfl, hK _ ?_⟩
            | refine hK _ ?_
          refine BigFrame.wpQuiet_want rfl fun K hK => ?_
          try simp only [Act.put, List.setIfInBounds_toArray, List.set_cons_succ, List.set_cons_zero]
          go_big_quiet_op
          refine ⟨_, CU, hK _ ?_⟩
          refine BigFrame.wpQuiet_want rfl fun K hK => quiet_load 26 (.tmp 3) rfl (q) rfl 26 _ (0, 0) _ (fun _ h => Calm.at A8.out h) Try.underlying26 rfl (tags_info HLD.out.2) (hK _ ?_)
          refine BigFrame.wpQuiet_want rfl fun K hK => ?_
          try simp only [Act.put, List.setIfInBounds_toArray, List.set_cons_succ, List.set_cons_zero]
          go_big_quiet_op
          first
            | refine ⟨_, fun _ _ => rfl, hK _ ?_⟩
            | refine hK _ ?_
          refine BigFrame.wpQuiet_want rfl fun K hK => ?_
          try simp only [Act.put, List.setIfInBounds_toArray, List.set_cons_succ, List.set_cons_zero]
          go_big_quiet_op
          refine hK _ ?_
          refine wpQuiet_nil ?_
          intro w9 hw9
          have F9 : Hid (Fr (fun _ => False) w w9) := hF.out.trans hw9
          have G9 := Lib.hid hw9
          clear hw9
          try simp only [Act.put, List.setIfInBounds_toArray, List.set_cons_succ, List.set_cons_zero]
          go_wp2
          go_ret
          exact ⟨rfl, F9.out⟩
        · have jm : ¬ (i : Int) < 15 := by omega
          subst he
          by_cases jl : (15 : Int) < m0
          · go_upto_region 11 with (fail)
            replace hF := Lib.hid (hF.out.setCell (p := ⟨q, 15, none⟩) (.int .u8 1) (.inr hq0))
            clear A9 ck fk
            generalize wr.setCell ⟨q, 15, none⟩ (.int .u8 1) = wr at *
            have CU : ∀ V, Calm wr V → Calls Try.prog 15 #[.agg KK, .slice A0 15 s0] V fun e w' => e = .returned (.agg (vs .u8 t)) ∧ Calm wr w' := fun V h => CT V (Fr.trans hF.out h) wr h
            refine wp_region_quiet (C := Calm wr) (by kernel_rfl) (by kernel_rfl) (Calm.start _ _ (Fr.refl _ _)) ?_
            refine BigFrame.wpQuiet_want rfl fun K hK => quiet_run (.agg KK) (fun W _ => (HK2 ()).symm ▸ build_one rfl W) (hK _ ?_)
            refine BigFrame.wpQuiet_want rfl fun K hK => ?_
            try simp only [Act.put, List.setIfInBounds_toArray, List.set_cons_succ, List.set_cons_zero]
            go_big_quiet_op
            refine hK _ ?_
            refine BigFrame.wpQuiet_want rfl fun K hK => ?_
            try simp only [Act.put, List.setIfInBounds_toArray, List.set_cons_succ, List.set_cons_zero]
            go_big_quiet_op
            refine hK _ ?_
            refine BigFrame.wpQuiet_want rfl fun K hK => ?_
            try simp only [Act.put, List.setIfInBounds_toArray, List.set_cons_succ, List.set_cons_zero]
            go_big_quiet_op
            first
              | refine ⟨_, fun _ _ => rfl, hK _ ?_⟩
              | refine hK _ ?_
            refine BigFrame.wpQuiet_want rfl fun K hK => ?_
            try simp only [Act.put, List.setIfInBounds_toArray, List.set_cons_succ, List.set_cons_zero]
            go_big_quiet_op
            refine ⟨_, CU, hK _ ?_⟩
            refine BigFrame.wpQuiet_want rfl fun K hK => quiet_load 26 (.tmp 3) rfl (q) rfl 26 _ (0, 0) _ (fun _ h => Calm.at A8.out h) Try.underlying26 rfl (tags_info HLD.out.2) (hK _ ?_)
            refine BigFrame.wpQuiet_want rfl fun K hK => ?_
            try simp only [Act.put, List.setIfInBounds_toArray, List.set_cons_succ, List.set_cons_zero]
            go_big_quiet_op
            first
              | refine ⟨_, fun _ _ => rfl, hK _ ?_⟩
              | refine hK _ ?_
            refine BigFrame.wpQuiet_want rfl fun K hK => ?_
            try simp only [Act.put, List.setIfInBounds_toArray, List.set_cons_succ, List.set_cons_zero]
            go_big_quiet_op
            refine hK _ ?_
            refine wpQuiet_nil ?_
            intro w9 hw9
            have F9 : Hid (Fr (fun _ => False) w w9) := hF.out.trans hw9
            have G9 := Lib.hid hw9
            clear hw9
            try simp only [Act.put, List.setIfInBounds_toArray, List.set_cons_succ, List.set_cons_zero]
            go_wp2
            go_ret
            exact ⟨rfl, F9.out⟩
          · have hm15 : m0 = 15 := by omega
            subst hm15
            go_upto_region 11 with (fail)
            replace hF := Lib.hid (hF.out.setCell (p := ⟨q, 15, none⟩) (.int .u8 1) (.inr hq0))
            clear A9 ck fk
            generalize wr.setCell ⟨q, 15, none⟩ (.int .u8 1) = wr at *
            have CU : ∀ V, Calm wr V → Calls Try.prog 15 #[.agg KK, .slice A0 15 s0] V fun e w' => e = .returned (.agg (vs .u8 t)) ∧ Calm wr w' := fun V h => CT V (Fr.trans hF.out h) wr h
            refine wp_region_quiet (C := Calm wr) (by kernel_rfl) (by kernel_rfl) (Calm.start _ _ (Fr.refl _ _)) ?_
            refine BigFrame.wpQuiet_want rfl fun K hK => quiet_run (.agg KK) (fun W _ => (HK2 ()).symm ▸ build_one rfl W) (hK _ ?_)
            refine BigFrame.wpQuiet_want rfl fun K hK => ?_
            try simp only [Act.put, List.setIfInBounds_toArray, List.set_cons_succ, List.set_cons_zero]
            go_big_quiet_op
            refine hK _ ?_
            refine BigFrame.wpQuiet_want rfl fun K hK => ?_
            try simp only [Act.put, List.setIfInBounds_toArray, List.set_cons_succ, List.set_cons_zero]
            go_big_quiet_op
            refine hK _ ?_
            refine BigFrame.wpQuiet_want rfl fun K hK => ?_
            try simp only [Act.put, List.setIfInBounds_toArray, List.set_cons_succ, List.set_cons_zero]
            go_big_quiet_op
            first
              | refine ⟨_, fun _ _ => rfl, hK _ ?_⟩
              | refine hK _ ?_
            refine BigFrame.wpQuiet_want rfl fun K hK => ?_
            try simp only [Act.put, List.setIfInBounds_toArray, List.set_cons_succ, List.set_cons_zero]
            go_big_quiet_op
            refine ⟨_, CU, hK _ ?_⟩
            refine BigFrame.wpQuiet_want rfl fun K hK => quiet_load 26 (.tmp 3) rfl (q) rfl 26 _ (0, 0) _ (fun _ h => Calm.at A8.out h) Try.underlying26 rfl (tags_info HLD.out.2) (hK _ ?_)
            refine BigFrame.wpQuiet_want rfl fun K hK => ?_
            try simp only [Act.put, List.setIfInBounds_toArray, List.set_cons_succ, List.set_cons_zero]
            go_big_quiet_op
            first
              | refine ⟨_, fun _ _ => rfl, hK _ ?_⟩
              | refine hK _ ?_
            refine BigFrame.wpQuiet_want rfl fun K hK => ?_
            try simp only [Act.put, List.setIfInBounds_toArray, List.set_cons_succ, List.set_cons_zero]
            go_big_quiet_op
            refine hK _ ?_
            refine wpQuiet_nil ?_
            intro w9 hw9
            have F9 : Hid (Fr (fun _ => False) w w9) := hF.out.trans hw9
            have G9 := Lib.hid hw9
            clear hw9
            try simp only [Act.put, List.setIfInBounds_toArray, List.set_cons_succ, List.set_cons_zero]
            go_wp2
            go_ret
            exact ⟨rfl, F9.out⟩

set_option maxRecDepth 100000 in
theorem law_one_lifted (os : Os) (started : os.Started) (H : Type) (enc : TypeId × Value → H) :
    ReturnsInHanded {} Try.checked os 11 .any (Rows.polyOneSpec.pre6 enc Try.prog Try.f11 Rows.polyOneRow.domain false) (Rows.polyOneSpec.post enc Try.prog Try.f11 false true false false) := by
  refine returnsInHanded_of_change_sized (C := Try.checked) own started (by kernel_rfl) Try.func11
    (ChangeSpec.witness6 (enc := enc) (C := Try.checked) false ⟨#[], #[.slice none 0 0], []⟩ 8 (by kernel_rfl) (by kernel_rfl) (by kernel_rfl) (by kernel_rfl)) ?_
  intro W base args ds gs before hval0 hW hcnd hsz0 _
  have hsz : (DataW.weightsEach Try.prog (Try.f11.params.toList ++ Rows.polyOneSpec.plain.varTypes Try.prog) (ds ++ gs)).all (· ≤ reachBytes) = true := hsz0
  clear hsz0
  have hval : ∀ (j : Nat) t v, Try.f11.params[j]? = some t → args[j]? = some v → Value.okWide Try.prog W .any base t v := hval0
  have hW' := hW
  obtain ⟨p, q, hA0, hV, rfl, hfz, hnd⟩ := hW
  have hA : DataW.TrodAll enc Try.prog W 0 (fun _ => true) true Try.f11.params.toList args.toList ds p := hA0
  rw [Try.params11] at hA hval hsz
  obtain ⟨v0, vs0, d0, ds0, p0, q0, hargs, rfl, rfl, h0, r0⟩ := trodAll_cons hA
  obtain ⟨rfl, rfl, rfl⟩ := trodAll_nil r0
  obtain rfl : args = #[v0] := by cases args; simp_all
  obtain ⟨rfl, rfl⟩ := trodVars_none hV
  have hlt0 : ∀ x ∈ p0, x.block < W.heap.size := fun x hx => hW'.lt x (by simp [hx])
  obtain ⟨A0, m0, s0, g0, l0, rfl, hs0, hg0⟩ := open_sl (hval 0 24 v0 rfl rfl) h0 hlt0
  have hn0 : m0 ≤ 140737488351232 := by
    rcases open_len h0 with e | ⟨el, sp, rfl, hle⟩
    · omega
    · have := sized_slice hsz (j := 0) (t := 24) (e := 5) rfl rfl Try.underlying24
      rw [Try.bytes5] at this
      simp only [reachBytes] at this
      omega
  clear hA0 hval0
  refine (law_one_any g0 A0 m0 s0 l0 W hs0 hn0 hg0).mono fun e W' ⟨he, hg⟩ => ?_
  subst he
  exact ⟨_, rfl, post_true rfl hW' (by kernel_rfl) rfl rfl hg⟩

theorem polyOne_holds : Rows.PolyOneSaid :=
  OpenClaim.holds_of_wide 11 Try.f11 rfl rfl rfl rfl rfl rfl rfl ⟨rfl, rfl, rfl, rfl, rfl⟩ rfl rfl rfl rfl rfl (by kernel_rfl) Try.func11 (by kernel_rfl)
    (of_decide_eq_true (by kernel_rfl)) (by unfold Func.isWrapper; first | (rw [if_pos (by decide +kernel)]; kernel_rfl) | (rw [if_neg (by decide +kernel)]; exact ⟨rfl, rfl⟩))
    (fun os started H enc _ => law_one_lifted os started H enc)
#print axioms polyOne_holds
end Go.Proofs.Ytcoggpedpclkaaa
