/- A poly that has taken bytes; Write: contract. Conditions: a poly that New made, a slice that lies in memory and is not the poly's own. -/
import Derived.Test.YtbafppdmlhogbaaSp
namespace Go.Proofs.Ytbafppdmlhogbaa
set_option linter.unusedSimpArgs false
set_option linter.unusedVariables false
open Go.RowKit

def R0 (k : List Int) : Int := rr k % 17592186044416
def R1 (k : List Int) : Int := rr k / 17592186044416 % 17592186044416
def R2 (k : List Int) : Int := rr k / 309485009821345068724781056
def S0 (k : List Int) : Int := vl ((k.drop 16).take 8)
def S1 (k : List Int) : Int := vl ((k.drop 16).drop 8)
/-- A poly that has taken these bytes. -/
def PolyAt (w : World) (g : Nat) (k D : List Int) : Prop :=
  ∃ h0 h1 h2 W A B, D = A ++ B ∧ A.length % 16 = 0 ∧ B.length < 16 ∧ In h0 h1 h2 ∧ nv h0 h1 h2 % pp = hsh (rr k) A ∧ Bys W ∧ W.take B.length = B ∧ Pb w g (R0 k) (R1 k) (R2 k) h0 h1 h2 (S0 k) (S1 k) W B.length
theorem PolyAt.lt {w : World} {g : Nat} {k D : List Int} (h : PolyAt w g k D) : g < w.heap.size := by
  obtain ⟨_, _, _, _, _, _, _, _, _, _, _, _, _, h⟩ := h
  exact h.lt
theorem PolyAt.fr {S : Nat → Prop} {w w' : World} {g : Nat} {k D : List Int} (h : PolyAt w g k D) (hf : Fr S w w') (hs : ¬ S g) : PolyAt w' g k D := by
  obtain ⟨h0, h1, h2, W, A, B, e1, e2, e3, e4, e5, e6, e7, h⟩ := h
  exact ⟨h0, h1, h2, W, A, B, e1, e2, e3, e4, e5, e6, e7, h.fr hf hs⟩
section
variable {ops : Array Oper} {rest : List Oper} {op : Oper} {a : Act} {w : World} {Q : Exit → Act → World → Prop}
theorem wpList_midP (hgd : op.guard = none) (ty : TypeId) (x : Operand) (ho : op.op = .load ty x) (q i : Nat) (hx : a.eval x = .pointer (some ⟨q, i, none⟩)) (k : IntKind) (l : List Int) (d : TypeDesc) (hg : w.rangeAt q i (vs k l).toList)
    (hd : Try.prog.underlying ty = some d) (hr : d.isRow = true) (hl : (Try.prog.info? ty).map (·.size) = some l.length) (h : wpList Try.prog ops Q rest (a.put op.dst (.agg (vs k l))) w) : wpList Try.prog ops Q (op :: rest) a w :=
  wpList_load_mid hgd ty x ho q i hx (vs k l).toList d hg hd hr (by rw [hl]; simp [vs]) (by simpa using h)
end
theorem Fr.setCells {S : Nat → Prop} {a b : World} (h : Fr S a b) {g : Nat} (hp : S g ∨ a.heap.size ≤ g) : ∀ (o : Nat) (cs : List Value), Fr S a (b.setCells g o cs) := by
  intro o cs
  induction cs generalizing o b with
  | nil => exact h
  | cons v r ih =>
    rw [World.setCells]
    exact ih (h.setCell v hp) (o + 1)
def sLen : Value → Nat
  | .slice _ n _ => n
  | _ => 0
theorem run_slice_low {o : Oper} {a : Act} (x y : Operand) (ho : o.op = .slice 38 x (some y) none none) (g off c : Nat) (hx : a.eval x = .pointer (some ⟨g, off, none⟩)) (hy : a.eval y = .int .i64 (c : Int)) (hc : c < 16) (W : World) :
    (execOp a.eval o).run Try.prog W = .ok (.value (.slice (some ⟨g, off + c, none⟩) (16 - c) (16 - c))) W := by
  have e1 : (Try.prog.arrayLen 38) = 16 := by kernel_rfl
  have e2 : Try.prog.elem 38 = 5 := by kernel_rfl
  have e3 : Try.prog.underlying 38 = some (.array (Try.prog.arrayLen 38) (Try.prog.elem 38)) := by kernel_rfl
  have e4 : ¬ 16 = c := by omega
  have h := run_sliceAt_array_l (P := Try.prog) (w := W) (t := 38) (a := ⟨g, off, none⟩) e3 .i64 (c : Int) (by omega) (by rw [e1]; omega)
  unfold execOp
  simp only [ho, hx, hy, Option.map_some, Option.map_none, Sem.run_bind, h]
  cases hq : Try.prog.info? 5 with
  | none => have := size5; simp [hq] at this
  | some i =>
    have hi : i.size = 1 := by have := size5; simpa [hq] using this
    simp [sizeOf, typeInfo, e2, slicedAt, e1, e4, Addr_add_none, hq, hi]
set_option maxRecDepth 100000 in
set_option maxHeartbeats 16000000 in
theorem write_is (k D : List Int) (g gb : Nat) (A0 : Option Addr) (m0 cap0 : Nat) (l : List Int) (w : World) (hk : k.length = 32) (hb : Bys k) (hp : PolyAt w g k D) (hs : Sl w gb (.slice A0 m0 cap0) l) (hg : gb ≠ g) (hgb : l ≠ [] → gb < w.heap.size) :
    Calls Try.prog 25 #[.pointer (some ⟨g, 0, none⟩), .slice A0 m0 cap0] w fun e w' => e = .returned (.tuple #[]) ∧ PolyAt w' g k (D ++ l) ∧ Fr (fun i => i = g) w w' := by
  have HP := Lib.hid hp
  have HS := Lib.hid hs
  have HG := Lib.hid (And.intro hg hgb)
  have HK := Lib.hid (And.intro hk hb)
  have k0 : w.cell? ⟨g, 0, none⟩ = some (.bool true) := by
    obtain ⟨_, _, _, _, _, _, _, _, _, _, _, _, _, h⟩ := hp
    exact h.made
  clear hp hs hg hgb hk hb
  go_enter Try.func25, Try.ntmps25
  go_wp2
  clear k0
  go_loopw [1] (fun u1 wr => ∃ (E R : List Int) (A : Option Addr) (m cap : Nat), u1 = .slice A m cap ∧ Hid (E ++ R = D ++ l) ∧ Hid (R ≠ [] → l ≠ []) ∧ Hid (PolyAt wr g k E) ∧ Hid (Sl wr gb (.slice A m cap) R) ∧ Hid (Fr (fun i => i = g) w wr))
    (fun u1 _ => sLen u1)
  case atStart => exact ⟨D, l, A0, m0, cap0, rfl, rfl, fun h => h, HP, HS, Fr.refl _ _⟩
  case round =>
    obtain ⟨E, R, A, m, cap, rfl, hER, hRl, hP, hS, hF⟩ := hrel
    have hm := Lib.hid hS.out.len
    by_cases hm0 : 0 < m
    · obtain ⟨h0, h1, h2, W, Af, B, hE, hAf, hB, hIn, hnv, hW, hWB, hPb⟩ := hP.out
      obtain ⟨o, rfl, hcell⟩ := hS.out.at_ hm0
      have HE := Lib.hid (And.intro hE (And.intro hAf (And.intro hIn (And.intro hnv (And.intro hW hWB)))))
      obtain ⟨c, hc⟩ : ∃ c, c = B.length := ⟨_, rfl⟩
      rw [← hc] at hB hPb
      obtain ⟨n, hn⟩ : ∃ n, n = min m (16 - c) := ⟨_, rfl⟩
      obtain ⟨X, hX⟩ : ∃ X, X = R.take n := ⟨_, rfl⟩
      have hXl : X.length = n := by rw [hX, List.length_take, hm.out]; omega
      have hXs : ∀ j b, X[j]? = some b → wr.cell? ((⟨gb, o, none⟩ : Addr).add j) = some (.int .u8 b) := fun j b hj => by
        have hjn : j < n := by
          have := (List.getElem?_eq_some_iff.1 hj).1
          omega
        rw [Addr_add_none, hcell j (by omega)]
        rw [hX, List.getElem?_take, if_pos hjn] at hj
        rw [List.getD_eq_getElem?_getD, hj]
        rfl
      have HX := Lib.hid (And.intro hXl hXs)
      have HX0 := Lib.hid hX
      have HN := Lib.hid hn
      have HPb := Lib.hid hPb
      have hRb : Bys R := hS.out.1
      have HC := Lib.hid (And.intro hc hB)
      have HR : Hid (R ≠ []) := by
        show _
        rintro rfl
        have := hm.out
        simp at this
        omega
      have n1 : c + n ≤ 16 := by omega
      have n2 : n ≤ m := by omega
      have n3 : 0 < n := by omega
      clear hE hAf hIn hnv hW hWB hPb hcell hXl hXs hX hn hP hc
      go_upto_region 2 with (fail)
      refine wp_region_quiet_tail (C := Calm wr) 9 (by kernel_rfl) (by kernel_rfl) (Calm.start _ _ (Fr.refl _ _)) ?_
      simp only [List.take_succ_cons, List.take_zero, List.drop_succ_cons, List.drop_zero]
      refine BigFrame.wpQuiet_want rfl fun K hK => ?_
      try simp only [Act.put, List.setIfInBounds_toArray, List.set_cons_succ, List.set_cons_zero]
      go_big_quiet_op
      refine hK _ ?_
      refine BigFrame.wpQuiet_want rfl fun K hK => ?_
      try simp only [Act.put, List.setIfInBounds_toArray, List.set_cons_succ, List.set_cons_zero]
      go_big_quiet_op
      first
        | refine ⟨_, fun _ _ => rfl, hK _ ?_⟩
        | refine hK _ ?_
      refine BigFrame.wpQuiet_want rfl fun K hK => ?_
      try simp only [Act.put, List.setIfInBounds_toArray, List.set_cons_succ, List.set_cons_zero]
      go_big_quiet_op
      first
        | refine ⟨_, fun _ _ => rfl, hK _ ?_⟩
        | refine hK _ ?_
      refine BigFrame.wpQuiet_want rfl fun K hK => ?_
      try simp only [Act.put, List.setIfInBounds_toArray, List.set_cons_succ, List.set_cons_zero]
      go_big_quiet_op
      refine hK _ ?_
      refine BigFrame.wpQuiet_want rfl fun K hK => ?_
      try simp only [Act.put, List.setIfInBounds_toArray, List.set_cons_succ, List.set_cons_zero]
      go_big_quiet_op
      first
        | refine ⟨_, fun _ _ => rfl, hK _ ?_⟩
        | refine hK _ ?_
      refine BigFrame.wpQuiet_want rfl fun K hK => ?_
      try simp only [Act.put, List.setIfInBounds_toArray, List.set_cons_succ, List.set_cons_zero]
      go_big_quiet_op
      first
        | refine ⟨_, fun _ _ => rfl, hK _ ?_⟩
        | refine hK _ ?_
      refine BigFrame.wpQuiet_want rfl fun K hK => quiet_oneP 3 .i64 (.tmp 23) rfl (g) (25) rfl ((c : Int)) Try.underlying3 (fun _ h => (Pb.fr HPb.out h (fun x => x)).count) (hK _ ?_)
      refine BigFrame.wpQuiet_want rfl fun K hK => quiet_run _ (fun W _ => run_slice_low (.tmp 20) (.tmp 24) rfl g 9 c rfl rfl HC.out.2 W) (hK _ ?_)
      refine BigFrame.wpQuiet_want rfl fun K hK => ?_
      try simp only [Act.put, List.setIfInBounds_toArray, List.set_cons_succ, List.set_cons_zero]
      go_big_quiet_op
      refine hK _ ?_
      refine wpQuiet_nil ?_
      intro w9 hw9
      have F9 : Hid (Fr (fun i => i = g) w w9) := hF.out.trans (Fr.any hw9)
      have G9 := Lib.hid hw9
      clear hw9
      try simp only [Act.put, List.setIfInBounds_toArray, List.set_cons_succ, List.set_cons_zero]
      have P9 : Hid (Pb w9 g (R0 k) (R1 k) (R2 k) h0 h1 h2 (S0 k) (S1 k) W c) := HPb.out.fr G9.out (fun x => x)
      refine wpList_plain rfl fun K hK => wp_value (.int .i64 (X.length : Int)) _ (run_op_copy (.tmp 25) (.tmp 26) rfl w9 g (9 + c) (16 - c) (16 - c) rfl ⟨gb, o, none⟩ m cap rfl _ 68 X P9.out.2 ?_ ?_ ?_) (hK _ _ ?_)
      · rw [HX.out.1, HN.out]
      · intro j b hj
        have hh := HX.out.2 j b hj
        rw [Addr_add_none] at hh ⊢
        have hlt := HG.out.2 (hRl.out HR.out)
        exact (World.cell?_of_block (G9.out.block gb (Nat.lt_of_lt_of_le hlt hF.out.size) (fun x => x))).trans hh
      · rw [List.size_toArray, pl_length P9.out.1, HX.out.1]; omega
      have P2 := Lib.hid (P9.out.setWait c X (by rw [HX.out.1]; exact n1))
      have F2 := Lib.hid (F9.out.setRow (g := g) ((pl (R0 k) (R1 k) (R2 k) h0 h1 h2 (S0 k) (S1 k) W c).toArray.toList.take (9 + c) ++ bs X ++ (pl (R0 k) (R1 k) (R2 k) h0 h1 h2 (S0 k) (S1 k) W c).toArray.toList.drop (9 + c + (bs X).length)).toArray (.inl rfl))
      have S2 := Lib.hid (hS.out.fr ((Fr.any (S := fun i => i = g) G9.out).setRow (g := g) ((pl (R0 k) (R1 k) (R2 k) h0 h1 h2 (S0 k) (S1 k) W c).toArray.toList.take (9 + c) ++ bs X ++ (pl (R0 k) (R1 k) (R2 k) h0 h1 h2 (S0 k) (S1 k) W c).toArray.toList.drop (9 + c + (bs X).length)).toArray (.inl rfl)) (fun _ => HG.out.1))
      generalize w9.setRow g _ = W2 at *
      obtain ⟨W', hW'⟩ : ∃ W', W' = W.take c ++ X ++ W.drop (c + X.length) := ⟨_, rfl⟩
      rw [← hW'] at P2
      have HW' := Lib.hid hW'
      have hXn := HX.out.1
      rw [hXn]
      have q1 : ((n : Int)).toNat = n := by omega
      have q2 : 0 ≤ (n : Int) := by omega
      have q3 : (n : Int) ≤ m := by omega
      clear hW' hXn P9 HPb hS F9 hF G9
      try simp only [Act.put, List.setIfInBounds_toArray, List.set_cons_succ, List.set_cons_zero]
      go_upto_region 4 with (fail)
      have S3 : Hid (Sl W2 gb (.slice (if cap = n then some ⟨gb, o, none⟩ else some ⟨gb, o + n, none⟩) (m - n) (cap - n)) (R.drop n)) := by
        have h := S2.out.drop n (by have := hm.out; omega)
        rw [hm.out] at h
        show Sl _ _ _ _
        simpa [Addr_add_none] using h
      generalize (if cap = n then some (⟨gb, o, none⟩ : Addr) else some ⟨gb, o + n, none⟩) = A2 at *
      have kc := P2.out.count
      have fc := P2.out.frozen 25
      have v1 : IntKind.i64.wrap ((c : Int) + (n : Int)) = c + n := by rw [IntKind.wrap_i64]; omega
      clear S2 q1 q2 q3
      go_upto_region 5 with (fail)
      have P3 : Hid (Pb (W2.setCell ⟨g, 25, none⟩ (.int .i64 ((c : Int) + (n : Int)))) g (R0 k) (R1 k) (R2 k) h0 h1 h2 (S0 k) (S1 k) W' (c + n)) := by
        have h := P2.out.setCount (c + n)
        rw [Int.natCast_add] at h
        exact h
      have F3 : Hid (Fr (fun i => i = g) w (W2.setCell ⟨g, 25, none⟩ (.int .i64 ((c : Int) + (n : Int))))) := F2.out.setCell _ (.inl rfl)
      replace S3 : Hid (Sl (W2.setCell ⟨g, 25, none⟩ (.int .i64 ((c : Int) + (n : Int)))) gb (.slice A2 (m - n) (cap - n)) (R.drop n)) := S3.out.fr (S := fun i => i = g) ((Fr.refl _ _).setCell _ (.inl rfl)) (fun _ => HG.out.1)
      clear kc fc v1 P2 F2
      generalize W2.setCell ⟨g, 25, none⟩ (.int .i64 ((c : Int) + (n : Int))) = W3 at *
      try simp only [Act.put, List.setIfInBounds_toArray, List.set_cons_succ, List.set_cons_zero]
      have kc := P3.out.count
      rw [Int.natCast_add] at kc
      have hBX : Unit → (B ++ X).length = c + n := fun _ => by rw [List.length_append, ← HC.out.1, HX.out.1]
      have hWX : Unit → W'.take (c + n) = B ++ X := fun _ => by
        have e : W.take c = B := by rw [HC.out.1]; exact HE.out.2.2.2.2.2
        rw [HW'.out, e, ← hBX ()]
        exact List.take_left
      have hWb : Unit → Bys W' := fun _ => by
        have hR := S3.out.1
        rw [HW'.out]
        refine Bys.append (Bys.append (HE.out.2.2.2.2.1.take c) ?_) (HE.out.2.2.2.2.1.drop _)
        rw [HX0.out]
        exact hRb.take n
      have hEX : Unit → (E ++ X) ++ R.drop n = D ++ l := fun _ => by
        rw [HX0.out, List.append_assoc, List.take_append_drop]
        exact hER.out
      by_cases h16 : c + n = 16
      · have d16 : decide ((c : Int) + (n : Int) = 16) = true := decide_eq_true (by omega)
        obtain ⟨W5, hW5⟩ : ∃ X, X = W' := ⟨_, rfl⟩
        have lW : W'.length = 16 := P3.out.1
        have eW : W' = B ++ X := by
          have h := hWX ()
          rwa [h16, List.take_of_length_le (by omega)] at h
        have C30 : ∀ V : World, Calls Try.prog 35 #[.agg (vs .u8 W')] V fun e w' => e = .returned (.agg (vs .u64 (num (vl W')))) ∧ Fr (fun _ => False) V w' := fun V => numberOf_is W' V lW (hWb ())
        have bW := vl_bd W' (hWb ())
        rw [lW] at bW
        obtain ⟨b0, b1, b2, hnum, e0, e1, e2⟩ : ∃ a b c, num (vl W') = [a, b, c] ∧ vl W' % 17592186044416 = a ∧ vl W' / 17592186044416 % 17592186044416 = b ∧ vl W' / 309485009821345068724781056 = c := ⟨_, _, _, rfl, rfl, rfl, rfl⟩
        rw [hnum] at C30
        have bW1 : vl W' < 340282366920938463463374607431768211456 := by have := bW.2; simpa using this
        have bW0 := bW.1
        have or2 : bits .or .u64 b2 1099511627776 = b2 + 1099511627776 := by
          have h := join 40 b2 1 (by decide) (by omega) (by omega) (by decide) (by decide)
          simpa using h
        have hrb := rr_bd HK.out.1 HK.out.2
        obtain ⟨m0, m1, m2, hmI, hmV, C33⟩ := taken_ex h0 h1 h2 b0 b1 (b2 + 1099511627776) (R0 k) (R1 k) (R2 k) HE.out.2.2.1 (by omega) (by omega) (by omega) (by unfold R0; omega) (by unfold R1; omega) (by unfold R2; omega)
        have HV : Hid (nv m0 m1 m2 % pp = hsh (rr k) (Af ++ (B ++ X))) := by
          show _ = _
          rw [hmV, hsh_block (rr k) Af (B ++ X) HE.out.2.1 (by rw [hBX ()]; omega) (by rw [hBX ()]; omega), ← HE.out.2.2.2.1, ← eW, vl_full W' lW, add_emod]
          have e3 : nv (R0 k) (R1 k) (R2 k) = rr k := nv_num (rr k)
          have e4 : nv (h0 + b0) (h1 + b1) (h2 + (b2 + 1099511627776)) = nv h0 h1 h2 + (vl W' + 340282366920938463463374607431768211456) := by
            have := nv_num (vl W')
            rw [e0, e1, e2] at this
            rw [← this]
            unfold nv
            omega
          rw [e3, e4]
        have HM := Lib.hid hmI
        have sW : Hid ((Try.prog.info? 38).map (·.size) = some W'.length) := by show _ = _; rw [lW]; exact info26
        have hz : ∀ W : World, (zeroValue 62).run Try.prog W = .ok (.agg (vs .u64 [0, 0, 0])) W := zero46
        have H16 := Lib.hid h16
        clear hmV bW bW1 bW0 e0 e1 e2 hnum lW eW hrb hmI hW5 hBX hWX hRb
        go_upto_region 6 with (fail)
        clear kc d16 h16
        go_upto_region 7 with (first
          | (go_at_call 35; refine (C30 _).mono ?_; rintro e v1 ⟨rfl, hf⟩)
          | refine wpList_midP rfl 38 (.tmp 46) rfl g 9 rfl .u8 W' _ P3.out.wait Try.underlying38 rfl sW.out ?_
          | refine wpList_store_row rfl 62 (.tmp 5) (.tmp 48) rfl v1.heap.size (vs .u64 [b0, b1, b2]) rfl rfl 62 (vs .u64 [0, 0, 0]) (heap_alloc_new v1 (.cells (vs .u64 [0, 0, 0]) 62)) (by rw [info46]; rfl) rfl (vs_all _ _) ?_)
        obtain ⟨q, hq⟩ : ∃ q, q = v1.heap.size := ⟨_, rfl⟩
        have hgq : g < q := by rw [hq]; exact (Pb.fr P3.out hf (fun x => x)).lt
        have hwq : w.heap.size ≤ q := by rw [hq]; exact Nat.le_trans F3.out.size hf.size
        have hgbq : gb < q := Nat.lt_of_lt_of_le (HG.out.2 (hRl.out HR.out)) hwq
        have Q1 : Hid (Ar ((v1.alloc (.cells (vs .u64 [0, 0, 0]) 62)).setRow v1.heap.size (vs .u64 [b0, b1, b2])) q 62 .u64 [b0, b1, b2]) := by rw [hq]; exact (Ar.new v1 62 .u64 [0, 0, 0]).row [b0, b1, b2]
        have hff : Fr (fun _ => False) W3 ((v1.alloc (.cells (vs .u64 [0, 0, 0]) 62)).setRow v1.heap.size (vs .u64 [b0, b1, b2])) := (hf.alloc _).setRow _ (.inr hf.size)
        replace P3 := Lib.hid (P3.out.fr hff (fun x => x))
        replace S3 := Lib.hid (S3.out.fr hff (fun _ x => x))
        replace F3 := Lib.hid (F3.out.trans hff.any)
        rw [← hq] at Q1 P3 S3 F3 ⊢
        clear hf hff hq hz C30
        generalize (v1.alloc (.cells (vs .u64 [0, 0, 0]) 62)).setRow q (vs .u64 [b0, b1, b2]) = W6 at *
        try simp only [Act.put, List.setIfInBounds_toArray, List.set_cons_succ, List.set_cons_zero]
        have kq := Q1.out.cell (i := 2) rfl
        have fq := Q1.out.frozen 2
        go_upto_region 8 with (fail)
        replace Q1 : Hid (Ar (W6.setCell ⟨q, 2, none⟩ (.int .u64 (b2 + 1099511627776))) q 62 .u64 [b0, b1, b2 + 1099511627776]) := Q1.out.set 2 _
        have hf7 : Fr (fun i => i = q) W6 (W6.setCell ⟨q, 2, none⟩ (.int .u64 (b2 + 1099511627776))) := (Fr.refl _ _).setCell _ (.inl rfl)
        replace P3 := Lib.hid (P3.out.fr hf7 (by omega))
        have hgl := P3.out.lt
        replace S3 := Lib.hid (S3.out.fr (S := fun i => i = q) hf7 (fun hlt e => absurd e (by omega)))
        replace F3 : Hid (Fr (fun i => i = g) w (W6.setCell ⟨q, 2, none⟩ (.int .u64 (b2 + 1099511627776)))) := F3.out.setCell _ (.inr hwq)
        clear kq fq hf7 or2
        generalize W6.setCell ⟨q, 2, none⟩ (.int .u64 (b2 + 1099511627776)) = W7 at *
        try simp only [Act.put, List.setIfInBounds_toArray, List.set_cons_succ, List.set_cons_zero]
        refine wp_region_quiet_tail (C := Calm W7) 13 (by kernel_rfl) (by kernel_rfl) (Calm.start _ _ (Fr.refl _ _)) ?_
        simp only [List.take_succ_cons, List.take_zero, List.drop_succ_cons, List.drop_zero]
        refine BigFrame.wpQuiet_want rfl fun K hK => ?_
        try simp only [Act.put, List.setIfInBounds_toArray, List.set_cons_succ, List.set_cons_zero]
        go_big_quiet_op
        refine hK _ ?_
        refine BigFrame.wpQuiet_want rfl fun K hK => ?_
        try simp only [Act.put, List.setIfInBounds_toArray, List.set_cons_succ, List.set_cons_zero]
        go_big_quiet_op
        refine hK _ ?_
        refine BigFrame.wpQuiet_want rfl fun K hK => ?_
        try simp only [Act.put, List.setIfInBounds_toArray, List.set_cons_succ, List.set_cons_zero]
        go_big_quiet_op
        first
          | refine ⟨_, fun _ _ => rfl, hK _ ?_⟩
          | refine hK _ ?_
        refine BigFrame.wpQuiet_want rfl fun K hK => ?_
        try simp only [Act.put, List.setIfInBounds_toArray, List.set_cons_succ, List.set_cons_zero]
        go_big_quiet_op
        first
          | refine ⟨_, fun _ _ => rfl, hK _ ?_⟩
          | refine hK _ ?_
        refine BigFrame.wpQuiet_want rfl fun K hK => quiet_midP 62 _ (.tmp 56) rfl (g) 4 rfl .u64 ([h0, h1, h2]) Try.underlying62 rfl (by rw [info46]; rfl) (fun _ h => (Pb.fr P3.out h (fun x => x)).sum) (hK _ ?_)
        refine BigFrame.wpQuiet_want rfl fun K hK => quiet_load 62 (.tmp 5) rfl (q) rfl 62 _ (0, 0) _ (fun _ h => Calm.at Q1.out h) Try.underlying62 rfl (by rw [info46]; rfl) (hK _ ?_)
        refine BigFrame.wpQuiet_want rfl fun K hK => ?_
        try simp only [Act.put, List.setIfInBounds_toArray, List.set_cons_succ, List.set_cons_zero]
        go_big_quiet_op
        refine hK _ ?_
        refine BigFrame.wpQuiet_want rfl fun K hK => ?_
        try simp only [Act.put, List.setIfInBounds_toArray, List.set_cons_succ, List.set_cons_zero]
        go_big_quiet_op
        first
          | refine ⟨_, fun _ _ => rfl, hK _ ?_⟩
          | refine hK _ ?_
        refine BigFrame.wpQuiet_want rfl fun K hK => ?_
        try simp only [Act.put, List.setIfInBounds_toArray, List.set_cons_succ, List.set_cons_zero]
        go_big_quiet_op
        first
          | refine ⟨_, fun _ _ => rfl, hK _ ?_⟩
          | refine hK _ ?_
        refine BigFrame.wpQuiet_want rfl fun K hK => quiet_midP 62 _ (.tmp 61) rfl (g) 1 rfl .u64 ([R0 k, R1 k, R2 k]) Try.underlying62 rfl (by rw [info46]; rfl) (fun _ h => (Pb.fr P3.out h (fun x => x)).r) (hK _ ?_)
        refine BigFrame.wpQuiet_want rfl fun K hK => ?_
        try simp only [Act.put, List.setIfInBounds_toArray, List.set_cons_succ, List.set_cons_zero]
        go_big_quiet_op
        refine ⟨_, Calm.calls C33, hK _ ?_⟩
        refine BigFrame.wpQuiet_want rfl fun K hK => ?_
        try simp only [Act.put, List.setIfInBounds_toArray, List.set_cons_succ, List.set_cons_zero]
        go_big_quiet_op
        first
          | refine ⟨_, fun _ _ => rfl, hK _ ?_⟩
          | refine hK _ ?_
        refine BigFrame.wpQuiet_want rfl fun K hK => ?_
        try simp only [Act.put, List.setIfInBounds_toArray, List.set_cons_succ, List.set_cons_zero]
        go_big_quiet_op
        first
          | refine ⟨_, fun _ _ => rfl, hK _ ?_⟩
          | refine hK _ ?_
        refine wpQuiet_nil ?_
        intro w9 hw9
        have F9 : Hid (Fr (fun i => i = g) w w9) := F3.out.trans (Fr.any hw9)
        have G9 := Lib.hid hw9
        clear hw9
        try simp only [Act.put, List.setIfInBounds_toArray, List.set_cons_succ, List.set_cons_zero]
        have P9 : Hid (Pb w9 g (R0 k) (R1 k) (R2 k) h0 h1 h2 (S0 k) (S1 k) W' (c + n)) := P3.out.fr G9.out (fun x => x)
        replace S3 := Lib.hid (S3.out.fr G9.out (fun _ x => x))
        clear G9 P3 Q1
        refine wpList_store_mid rfl 62 (.tmp 65) (.tmp 63) rfl g 4 (vs .u64 [m0, m1, m2]) rfl rfl (P9.out.there 4 3 (by omega)) (by rw [info46]; rfl) (vs_all _ _) ?_
        have P10 := Lib.hid (P9.out.setSum m0 m1 m2)
        have S10 := Lib.hid (S3.out.fr (S := fun i => i = g) (Fr.setCells (S := fun i => i = g) (Fr.refl _ _) (g := g) (.inl rfl) 4 (vs .u64 [m0, m1, m2]).toList) (fun _ => HG.out.1))
        have F10 := Lib.hid (F9.out.setCells (g := g) (.inl rfl) 4 (vs .u64 [m0, m1, m2]).toList)
        clear P9 S3 F9
        generalize w9.setCells g 4 (vs .u64 [m0, m1, m2]).toList = W10 at *
        have kc := P10.out.count
        have fc := P10.out.frozen 25
        have P11 : Hid (PolyAt (W10.setCell ⟨g, 25, none⟩ (.int .i64 0)) g k (E ++ X)) := by
          refine ⟨m0, m1, m2, W', Af ++ (B ++ X), [], ?_, ?_, by simp, HM.out, HV.out, hWb (), rfl, P10.out.setCount 0⟩
          · rw [HE.out.1]; simp
          · have := HE.out.2.1
            have := H16.out
            rw [List.length_append, List.length_append, ← HC.out.1, HX.out.1]
            omega
        have S11 : Hid (Sl (W10.setCell ⟨g, 25, none⟩ (.int .i64 0)) gb (.slice A2 (m - n) (cap - n)) (R.drop n)) := S10.out.fr (S := fun i => i = g) ((Fr.refl _ _).setCell _ (.inl rfl)) (fun _ => HG.out.1)
        have F11 : Hid (Fr (fun i => i = g) w (W10.setCell ⟨g, 25, none⟩ (.int .i64 0))) := F10.out.setCell _ (.inl rfl)
        clear P10 S10 F10
        go_wp2
        go_roundw
        case rel => exact ⟨E ++ X, R.drop n, A2, m - n, cap - n, rfl, hEX (), fun h => hRl.out (fun e => h (by rw [e]; simp)), P11, S11, F11⟩
        case measure =>
          simp [sLen]
          omega
      · have d16 : decide ((c : Int) + (n : Int) = 16) = false := decide_eq_false (by omega)
        have P4 : Hid (PolyAt W3 g k (E ++ X)) := by
          refine ⟨h0, h1, h2, W', Af, B ++ X, ?_, HE.out.2.1, ?_, HE.out.2.2.1, HE.out.2.2.2.1, hWb (), ?_, ?_⟩
          · rw [HE.out.1, List.append_assoc]
          · rw [hBX ()]; omega
          · rw [hBX ()]; exact hWX ()
          · rw [hBX ()]; exact P3.out
        clear P3
        go_wp2
        go_roundw
        case rel => exact ⟨E ++ X, R.drop n, A2, m - n, cap - n, rfl, hEX (), fun h => hRl.out (fun e => h (by rw [e]; simp)), P4, S3, F3⟩
        case measure =>
          simp [sLen]
          omega
    · have hR0 : R = [] := List.eq_nil_of_length_eq_zero (by have := hm.out; omega)
      have hED : E = D ++ l := by
        have := hER.out
        rw [hR0, List.append_nil] at this
        exact this
      have m0 : m = 0 := by omega
      subst m0
      go_wp2
      go_end0
      exact ⟨rfl, by rw [← hED]; exact hP.out, hF.out⟩
end Go.Proofs.Ytbafppdmlhogbaa
