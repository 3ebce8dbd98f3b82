/- The reference's CopyBytes, EqBytes: contracts. Conditions: slices that lie in memory, not more bytes than a machine has. -/
import Derived.Test.YtcoggpedpclkaaaK
namespace Go.Proofs.Ytcoggpedpclkaaa
set_option linter.unusedSimpArgs false
set_option linter.unusedVariables false
open Go.RowKit

theorem Try.info5 : (Try.prog.info? 5).map (fun i => (i.zero, i.size, i.bytes)) = some (some (.int .u8 0), 1, 1) := by kernel_rfl
theorem size5 : (Try.prog.info? 5).map (·.size) = some 1 := by kernel_rfl
theorem Sl.len {w : World} {g : Nat} {A : Option Addr} {n c : Nat} {l : List Int} (h : Sl w g (.slice A n c) l) : l.length = n := by
  obtain ⟨_, A', c', e, _⟩ := h; injection e with _ e2; exact e2.symm
theorem Sl.at_ {w : World} {g : Nat} {A : Option Addr} {n c : Nat} {l : List Int} (h : Sl w g (.slice A n c) l) (hn : 0 < n) : ∃ o, A = some ⟨g, o, none⟩ ∧ ∀ k, k < n → w.cell? ⟨g, o + k, none⟩ = some (.int .u8 (l.getD k 0)) := by
  have hl := h.len
  obtain ⟨_, A', c', e, _, _, hx⟩ := h
  injection e with e1 e2 e3
  subst e1
  obtain ⟨o, rfl, _, hcell⟩ := hx (by rintro rfl; simp at hl; omega)
  refine ⟨o, rfl, fun k hk => hcell k _ ?_⟩
  rw [List.getD_eq_getElem?_getD, List.getElem?_eq_getElem (by omega)]
  rfl

set_option maxHeartbeats 800000 in
theorem eqBytes_ne (A B : Option Addr) (n m c d : Nat) (w : World) (h : n ≠ m) (hn : n ≤ maxLen) (hm : m ≤ maxLen) :
    Calls Try.prog 17 #[.slice A n c, .slice B m d] w fun e w' => e = .returned (.bool false) ∧ w = w' := by
  unfold maxLen at hn hm
  have hb : ((n : Int) != (m : Int)) = true := by simp; omega
  go_enter Try.func17, Try.ntmps17
  go_wp2
  go_ret
  exact ⟨rfl, rfl⟩

theorem take_eq_of (l k : List Int) (n : Nat) (hl : l.length = n) (hk : k.length = n) (h : ∀ j, j < n → l.getD j 0 = k.getD j 0) : l = k := by
  apply List.ext_getElem (by omega)
  intro j h1 h2
  have := h j (by omega)
  simpa [List.getD_eq_getElem?_getD, List.getElem?_eq_getElem h1, List.getElem?_eq_getElem h2] using this

set_option maxHeartbeats 800000 in
theorem eqBytes_same (g1 g2 : Nat) (A B : Option Addr) (n c d : Nat) (l k : List Int) (w : World) (h1 : Sl w g1 (.slice A n c) l) (h2 : Sl w g2 (.slice B n d) k) (hn : n ≤ maxLen) :
    Calls Try.prog 17 #[.slice A n c, .slice B n d] w fun e w' => e = .returned (.bool (decide (l = k))) ∧ ∃ q, w' = w.drewN q := by
  unfold maxLen at hn
  have hl := h1.len
  have hk := h2.len
  have hb : ((n : Int) != (n : Int)) = false := by simp
  rcases Nat.eq_zero_or_pos n with h0 | h0
  · subst h0
    have el : l = [] := List.eq_nil_of_length_eq_zero hl
    have ek : k = [] := List.eq_nil_of_length_eq_zero hk
    subst el ek
    clear h1 h2 hl hk
    go_enter Try.func17, Try.ntmps17
    go_wp2
    go_rounds 1
    go_ret
    exact ⟨by simp, 0, rfl⟩
  · obtain ⟨o1, rfl, hc1⟩ := h1.at_ h0
    obtain ⟨o2, rfl, hc2⟩ := h2.at_ h0
    have HL := Lib.hid hl
    have HK := Lib.hid hk
    have H1 := Lib.hid hc1
    have H2 := Lib.hid hc2
    clear hl hk hc1 hc2 h1 h2
    go_enter Try.func17, Try.ntmps17
    go_wp2
    go_loopw [5] (fun i wr => ∃ j q : Nat, j ≤ n ∧ i = .int .i64 j ∧ (∀ t, t < j → l.getD t 0 = k.getD t 0) ∧ wr = w.drewN q) (fun i _ => n - (intOf i).toNat)
    case atStart => exact ⟨0, 0, Nat.zero_le _, rfl, fun t ht => absurd ht (by omega), rfl⟩
    case round =>
      obtain ⟨j, q, hj, rfl, he, rfl⟩ := hrel
      have HE := Lib.hid he
      clear he
      by_cases hlt : j < n
      · have c1 := H1.out j hlt
        have c2 := H2.out j hlt
        go_wp2
        go_quiet (fail)
        go_wp2
        · have hne : (l[j]?.getD 0 != k[j]?.getD 0) = true := by assumption
          go_ret
          refine ⟨?_, q + nq, World.drewN_drewN _ _ _⟩
          have hd : decide (l = k) = false := by
            rw [decide_eq_false_iff_not]
            rintro rfl
            simp at hne
          rw [hd]; rfl
        · have heq : (l[j]?.getD 0 != k[j]?.getD 0) = false := by assumption
          have heq' : l.getD j 0 = k.getD j 0 := by simpa using heq
          refine ⟨⟨j + 1, _, by omega, by go_num, fun t ht => ?_, rfl⟩, by simp [intOf]; omega⟩
          rcases Nat.lt_or_ge t j with h | h
          · exact HE.out t h
          · have e : t = j := by omega
            rw [e]; exact heq'
      · go_wp2
        go_ret
        refine ⟨?_, _, rfl⟩
        have e : l = k := take_eq_of l k n HL.out HK.out (fun t ht => HE.out t (by omega))
        rw [e]; simp

theorem eqBytes_any (g1 g2 : Nat) (A B : Option Addr) (n m c d : Nat) (l k : List Int) (w : World) (h1 : Sl w g1 (.slice A n c) l) (h2 : Sl w g2 (.slice B m d) k) :
    Calls Try.prog 17 #[.slice A n c, .slice B m d] w fun e w' => e = .returned (.bool (decide (l = k))) ∧ ∃ q, w' = w.drewN q := by
  have b1 : n ≤ maxLen := by
    have hl := h1.len
    obtain ⟨_, A', c', e, h3, h4, _⟩ := h1
    omega
  have b2 : m ≤ maxLen := by
    have hl := h2.len
    obtain ⟨_, A', c', e, h3, h4, _⟩ := h2
    omega
  by_cases h : n = m
  · subst h
    exact eqBytes_same g1 g2 A B n c d l k w h1 h2 b1
  · refine (eqBytes_ne A B n m c d w h b1 b2).mono ?_
    rintro e w' ⟨rfl, rfl⟩
    refine ⟨?_, 0, rfl⟩
    have hd : decide (l = k) = false := by
      rw [decide_eq_false_iff_not]
      rintro rfl
      exact h (h1.len.symm.trans h2.len)
    rw [hd]
theorem run_app_nil (w : World) (ty : TypeId) (v : Value) (n : Nat) (xs : List Value) (hown : w.ownsRow 0 5 1 v n xs) (c : Nat) : (Builtin.append_ #[24, 24] ty #[v, .slice none 0 c]).run Try.prog w = .ok v w := by
  obtain ⟨i0, hi, hz0, hz1, hz2⟩ := info_parts Try.info5
  rcases hown.2 with ⟨rfl, _⟩ | ⟨g, cap, cur, rfl, _, _, hnc, _⟩
  · simp [Builtin.append_, run_underlying Try.underlying24, sizeOf, typeInfo, hi, Builtin.lenOf, Builtin.firstCells]
  · simp [Builtin.append_, run_underlying Try.underlying24, sizeOf, typeInfo, hi, Builtin.lenOf, Builtin.firstCells, hnc, storeCells]
/-- A row of bytes of the call's own. -/
def Ow (w : World) (v : Value) (l : List Int) : Prop := w.ownsRow 0 5 1 v l.length (bs l) ∧ Bys l
structure Ap2 (w : World) (v : Value) (l k : List Int) (v' : Value) (w' : World) : Prop where
  own : Ow w' v' (l ++ k)
  grown : w.grownBy w' v.ownBlock
  at_ : v'.ownBlock = v.ownBlock ∨ v'.ownBlock = some w.heap.size

theorem Ow.nil (w : World) : Ow w (.slice none 0 0) [] := ⟨World.ownsRow_nil _ _ _ _, Bys.nil⟩
theorem Ow.sl {w : World} {v : Value} {l : List Int} (h : Ow w v l) : Sl w (v.ownBlock.getD 0) v l := by
  obtain ⟨h2, hb⟩ := h
  rcases h2.2 with ⟨hv, h0⟩ | ⟨g, cap, cur, hv, _, hh, hn, hm, hs, ht⟩
  · subst hv
    have : l = [] := List.eq_nil_of_length_eq_zero h0
    subst this
    exact Sl.nil _ _
  · subst hv
    refine Sl.block hb hh (fun j hj => ?_) hn hm
    rw [← ht, List.getElem?_take, if_pos (by omega)]
    simp
theorem Ow.shape {w : World} {v : Value} {l : List Int} (h : Ow w v l) : ∃ A n c, v = .slice A n c ∧ n = l.length := by
  rcases h.1.2 with ⟨hv, h0⟩ | ⟨g, cap, cur, hv, _⟩
  · exact ⟨none, 0, 0, hv, h0.symm⟩
  · exact ⟨_, _, cap, hv, rfl⟩
theorem Ow.keep {w w' : World} {v : Value} {l : List Int} (h : Ow w v l) {S : Nat → Prop} (hf : Fr S w w') (hv : ∀ k, v.ownBlock = some k → ¬ S k) : Ow w' v l := by
  obtain ⟨⟨hl, hx⟩, hb⟩ := h
  refine ⟨⟨hl, ?_⟩, hb⟩
  rcases hx with hx | ⟨g, cap, cur, hv', hb, hh, r⟩
  · exact .inl hx
  · exact .inr ⟨g, cap, cur, hv', hb, (hf.block g (heap_lt hh) (hv g (by rw [hv']; rfl))).trans hh, r⟩

theorem run_own {w : World} {v : Value} {l : List Int} (ty : TypeId) (h : Ow w v l) {g : Nat} {A : Option Addr} {m c : Nat} {k : List Int} (hs : Sl w g (.slice A m c) k) (hlen : l.length + m ≤ 140737488355328) :
    ∃ A' N c' w', (Builtin.append_ #[24, 24] ty #[v, .slice A m c]).run Try.prog w = .ok (.slice A' N c') w' ∧ Ap2 w v l k (.slice A' N c') w' ∧ N = (l ++ k).length := by
  obtain ⟨i0, hi, hz0, hz1, hz2⟩ := info_parts Try.info5
  have hkl := hs.len
  have main : ∃ v' w', (Builtin.append_ #[24, 24] ty #[v, .slice A m c]).run Try.prog w = .ok v' w' ∧ w'.ownsRow 0 5 1 v' (l ++ k).length (bs (l ++ k)) ∧ w.grownBy w' v.ownBlock ∧ (v'.ownBlock = v.ownBlock ∨ v'.ownBlock = some w.heap.size) := by
    rcases A with _ | ad
    · have hk : k = [] := by
        rcases k with _ | ⟨b, k'⟩
        · rfl
        · obtain ⟨_, A', c', e, _, _, hx⟩ := hs
          injection e with e1
          obtain ⟨o, e2, _⟩ := hx (by simp)
          rw [← e1] at e2; cases e2
      subst hk
      have hm : m = 0 := by simpa using hkl.symm
      subst hm
      refine ⟨v, w, run_app_nil w ty v _ _ h.1 c, by simpa using h.1, World.grownBy.refl w _, .inl rfl⟩
    · have hcells : ∀ j u, (bs k)[j]? = some u → w.cell? (ad.add j) = some u := by
        intro j u hu
        rw [bs_get] at hu
        obtain ⟨b, hb, rfl⟩ := Option.map_eq_some_iff.1 hu
        obtain ⟨_, A', c', e, _, _, hx⟩ := hs
        injection e with e1
        obtain ⟨o, e2, _, hcell⟩ := hx (by rintro rfl; simp at hb)
        rw [← e1] at e2
        injection e2 with e2
        subst e2
        rw [Addr_add_none]
        exact hcell j b hb
      obtain ⟨v', w', hrun, h2, h3, _, h5⟩ := run_append_own_at (P := Try.prog) w 0 24 ty 5 i0 _ 1 1 Try.underlying24 hi hz0 hz1 hz2 rfl (by decide) v l.length (bs l) h.1 ad m c (bs k) (by rw [bs_length]; omega) hcells (bs_one k) (by simp only [maxLen]; omega) (by omega) (Nat.zero_le _)
      refine ⟨v', w', hrun, ?_, h3, h5⟩
      rw [bs_append] at h2
      rw [List.length_append, hkl]
      exact h2
  obtain ⟨v', w', hrun, h2, h3, h5⟩ := main
  obtain ⟨A', N, c', rfl, hN⟩ := Ow.shape (l := l ++ k) ⟨h2, h.2.append hs.1⟩
  exact ⟨A', N, c', w', hrun, ⟨⟨h2, h.2.append hs.1⟩, h3, h5⟩, hN⟩

theorem wpList_own {ops : Array Oper} {rest : List Oper} {o : Oper} {a : Act} {w : World} {Q : Exit → Act → World → Prop} (hgd : o.guard = none) (s x : Operand)
    (ho : o.op = .call { callee := .builtin .append, args := #[s, x], argTypes := #[24, 24] })
    {v : Value} {l : List Int} (h : Ow w v l) (hsv : a.eval s = v) {g : Nat} {A : Option Addr} {m c : Nat} {k : List Int} (hx : a.eval x = .slice A m c) (hs : Sl w g (.slice A m c) k) (hlen : l.length + m ≤ 140737488355328)
    (hK : ∀ A' N c' w', Ap2 w v l k (.slice A' N c') w' → N = (l ++ k).length → wpList Try.prog ops Q rest (a.put o.dst (.slice A' N c')) w') : wpList Try.prog ops Q (o :: rest) a w := by
  refine wpList_plain hgd fun K hk => ?_
  obtain ⟨A', N, c', w', hrun, hap, hN⟩ := run_own o.type h hs hlen
  unfold Oper.wp execOp
  simp only [ho, resolve, invoke, builtin, Sem.run_bind, Sem.run_pure, Result.andThen_ok, List.map_toArray, List.map_cons, List.map_nil, hsv, hx, hrun]
  exact hk _ _ (hK A' N c' w' hap hN)
theorem step_own {ops : Array Oper} {o : Oper} {a : Act} {w : World} {K : Act → World → Prop} {Q : Exit → Act → World → Prop} {E : Prop} (hgd : o.guard = none) (s x : Operand)
    (ho : o.op = .call { callee := .builtin .append, args := #[s, x], argTypes := #[24, 24] })
    {v : Value} {l : List Int} (h : Ow w v l) (hsv : a.eval s = v) {g : Nat} {A : Option Addr} {m c : Nat} {k : List Int} (hx : a.eval x = .slice A m c) (hs : Sl w g (.slice A m c) k) (hlen : l.length + m ≤ 140737488355328)
    (hK : ∀ A' N c' w', Ap2 w v l k (.slice A' N c') w' → N = (l ++ k).length → K (a.put o.dst (.slice A' N c')) w') :
    if Region.wanted o (yielded ops a.tmps) = true then Oper.wp Try.prog o a w K Q else E := by
  have hw : Region.wanted o (yielded ops a.tmps) = true := by simp [Region.wanted, hgd]
  rw [if_pos hw]
  obtain ⟨A', N, c', w', hrun, hap, hN⟩ := run_own o.type h hs hlen
  unfold Oper.wp execOp
  simp only [ho, resolve, invoke, builtin, Sem.run_bind, Sem.run_pure, Result.andThen_ok, List.map_toArray, List.map_cons, List.map_nil, hsv, hx, hrun]
  exact hK A' N c' w' hap hN

set_option maxHeartbeats 400000 in
theorem copyBytes_any (g : Nat) (A : Option Addr) (n c : Nat) (l : List Int) (w : World) (hs : Sl w g (.slice A n c) l) (hn : n ≤ 140737488355328) :
    Calls Try.prog 14 #[.slice A n c] w fun e w' => ∃ A' c', e = .returned (.slice A' n c') ∧ Ow w' (.slice A' n c') l ∧ (∀ k, (Value.slice A' n c').ownBlock = some k → w.heap.size ≤ k) ∧ Fr (fun _ => False) w w' := by
  have HS := Lib.hid hs
  have HN := Lib.hid hs.len
  clear hs
  go_enter Try.func14, Try.ntmps14
  go_wp2_with (at_builtin; refine wpList_own rfl (.tmp 4) (.tmp 5) rfl (Ow.nil w) rfl rfl HS.out (by simpa using hn) ?_; intro A2 N2 c2 w2 hap hN2; have HN2 := Lib.hid hN2; clear hN2)
  go_ret
  have e : N2 = n := by rw [HN2.out]; simpa using HN.out
  subst e
  refine ⟨A2, c2, rfl, hap.own, fun k hk => ?_, (Fr.refl _ w).grown hap.grown (fun k hk => by cases hk)⟩
  rcases hap.at_ with e | e
  · rw [e] at hk; cases hk
  · rw [e] at hk; injection hk with hk; omega
theorem run_mk (n : Nat) (hn : n ≤ 140737488355328) : ∀ W : World, (Instr.makeSlice 24 (.int .i64 (n : Int)) (.int .i64 (n : Int))).run Try.prog W = .ok (.slice (some ⟨W.heap.size, 0, none⟩) n n) (W.alloc (.cells (List.replicate n (Value.int .u8 0)).toArray 5)) := by
  intro W
  obtain ⟨i0, hi, hz0, hz1, hz2⟩ := info_parts Try.info5
  have h := run_make (P := Try.prog) W 24 5 i0 _ Try.underlying24 hi hz0 .i64 .i64 (n : Int) (n : Int) (by omega) (by omega) (by rw [hz2]; omega) (by omega)
  simp only [Int.toNat_natCast] at h
  rw [h]
  congr 3
  apply Array.toList_inj.1
  rw [hz1, Nat.mul_one]
  exact toList_madeCells_one _ _
end Go.Proofs.Ytcoggpedpclkaaa
