/- Both rounds of the sixteen words, and their quarter rounds as functions: contract of rounds. Condition: sixteen words. -/
import Derived.Test.YtbafppdmlhogbaaQ
import Derived.StillTailTactics
namespace Go.Proofs.Ytbafppdmlhogbaa
set_option linter.unusedSimpArgs false
set_option linter.unusedVariables false
open Go.RowKit

def Wds (s : List Int) : Prop := ∀ x ∈ s, Wd x
/-- A quarter round as a function. -/
def qf (a b c d : Int) : Int × Int × Int × Int :=
  (sm (sm a b) (tl 12 (xr b (sm c (tl 16 (xr d (sm a b)))))),
   tl 7 (xr (tl 12 (xr b (sm c (tl 16 (xr d (sm a b)))))) (sm (sm c (tl 16 (xr d (sm a b)))) (tl 8 (xr (tl 16 (xr d (sm a b))) (sm (sm a b) (tl 12 (xr b (sm c (tl 16 (xr d (sm a b)))))))))) ),
   sm (sm c (tl 16 (xr d (sm a b)))) (tl 8 (xr (tl 16 (xr d (sm a b))) (sm (sm a b) (tl 12 (xr b (sm c (tl 16 (xr d (sm a b)))))))) ),
   tl 8 (xr (tl 16 (xr d (sm a b))) (sm (sm a b) (tl 12 (xr b (sm c (tl 16 (xr d (sm a b)))))))))
theorem Qr.eq {a b c d a2 b2 c2 d2 : Int} (h : Qr a b c d a2 b2 c2 d2) : qf a b c d = (a2, b2, c2, d2) := by
  obtain ⟨_, _, _, _, rfl, rfl, rfl, rfl, rfl, rfl, rfl, rfl⟩ := h.step
  rfl
theorem quarter_ex (a b c d : Int) (w : World) (ha : Wd a) (hb : Wd b) (hc : Wd c) (hd : Wd d) :
    Calls Try.prog 60 #[.int .u32 a, .int .u32 b, .int .u32 c, .int .u32 d] w fun e w' => ∃ a2 b2 c2 d2, Hid (Wd a2) ∧ Hid (Wd b2) ∧ Hid (Wd c2) ∧ Hid (Wd d2) ∧ Hid (qf a b c d = (a2, b2, c2, d2)) ∧ e = .returned (.tuple #[.int .u32 a2, .int .u32 b2, .int .u32 c2, .int .u32 d2]) ∧ w = w' := by
  obtain ⟨a2, b2, c2, d2, hq⟩ := qr_ex ha hb hc hd
  refine (quarter_is a b c d a2 b2 c2 d2 w ha hb hc hd hq).mono ?_
  rintro e w' ⟨rfl, rfl⟩
  exact ⟨a2, b2, c2, d2, hq.wd.1, hq.wd.2.1, hq.wd.2.2.1, hq.wd.2.2.2, hq.eq, rfl, rfl⟩
/-- A quarter round at four places. -/
def qat (s : List Int) (i j k l : Nat) : List Int :=
  (((s.set i (qf (s.getD i 0) (s.getD j 0) (s.getD k 0) (s.getD l 0)).1).set j (qf (s.getD i 0) (s.getD j 0) (s.getD k 0) (s.getD l 0)).2.1).set k (qf (s.getD i 0) (s.getD j 0) (s.getD k 0) (s.getD l 0)).2.2.1).set l (qf (s.getD i 0) (s.getD j 0) (s.getD k 0) (s.getD l 0)).2.2.2
def places : List (List Nat) := [[0, 4, 8, 12], [1, 5, 9, 13], [2, 6, 10, 14], [3, 7, 11, 15], [0, 5, 10, 15], [1, 6, 11, 12], [2, 7, 8, 13], [3, 4, 9, 14]]
def qal (s : List Int) (p : List Nat) : List Int := qat s (p.getD 0 0) (p.getD 1 0) (p.getD 2 0) (p.getD 3 0)
/-- Both rounds. -/
def rds (s : List Int) : List Int := places.foldl qal s
theorem qat_eq {s : List Int} {i j k l : Nat} {a b c d a2 b2 c2 d2 : Int} (ha : s.getD i 0 = a) (hb : s.getD j 0 = b) (hc : s.getD k 0 = c) (hd : s.getD l 0 = d) (hq : qf a b c d = (a2, b2, c2, d2)) :
    qat s i j k l = (((s.set i a2).set j b2).set k c2).set l d2 := by
  unfold qat
  rw [ha, hb, hc, hd, hq]
theorem qal_eq (s : List Int) (i j k l : Nat) : qal s [i, j, k, l] = qat s i j k l := rfl
theorem qat_length (s : List Int) (i j k l : Nat) : (qat s i j k l).length = s.length := by simp [qat]
theorem sixteen {l : List Int} (h : l.length = 16) : ∃ x0 x1 x2 x3 x4 x5 x6 x7 x8 x9 x10 x11 x12 x13 x14 x15, l = [x0, x1, x2, x3, x4, x5, x6, x7, x8, x9, x10, x11, x12, x13, x14, x15] := by
  match l, h with
  | [x0, x1, x2, x3, x4, x5, x6, x7, x8, x9, x10, x11, x12, x13, x14, x15], _ => exact ⟨x0, x1, x2, x3, x4, x5, x6, x7, x8, x9, x10, x11, x12, x13, x14, x15, rfl⟩
theorem getD_wd {s : List Int} (h : Wds s) (i : Nat) (hi : i < s.length) : Wd (s.getD i 0) := h _ (List.mem_of_getElem? (getD_some hi))
theorem qf_wd {a b c d : Int} (ha : Wd a) (hb : Wd b) (hc : Wd c) (hd : Wd d) : Wd (qf a b c d).1 ∧ Wd (qf a b c d).2.1 ∧ Wd (qf a b c d).2.2.1 ∧ Wd (qf a b c d).2.2.2 := by
  obtain ⟨a2, b2, c2, d2, hq⟩ := qr_ex ha hb hc hd
  rw [hq.eq]
  exact hq.wd
theorem Wds.set {s : List Int} (h : Wds s) (i : Nat) {x : Int} (hx : Wd x) : Wds (s.set i x) := by
  intro y hy
  rcases List.mem_or_eq_of_mem_set hy with hy | rfl
  · exact h y hy
  · exact hx
theorem qat_wds {s : List Int} (hs : Wds s) {i j k l : Nat} (hi : i < s.length) (hj : j < s.length) (hk : k < s.length) (hl : l < s.length) : Wds (qat s i j k l) := by
  obtain ⟨h1, h2, h3, h4⟩ := qf_wd (getD_wd hs i hi) (getD_wd hs j hj) (getD_wd hs k hk) (getD_wd hs l hl)
  exact (((hs.set i h1).set j h2).set k h3).set l h4
theorem rds_ok {s : List Int} (hl : s.length = 16) (hs : Wds s) : (rds s).length = 16 ∧ Wds (rds s) := by
  have key : ∀ (ps : List (List Nat)) (s : List Int), (∀ p ∈ ps, ∀ x ∈ p, x < 16) → s.length = 16 → Wds s → (ps.foldl qal s).length = 16 ∧ Wds (ps.foldl qal s) := by
    intro ps
    induction ps with
    | nil => intro s _ h1 h2; exact ⟨h1, h2⟩
    | cons p r ih =>
      intro s hp h1 h2
      have hb : ∀ i, p.getD i 0 < 16 := fun i => by
        rw [List.getD_eq_getElem?_getD]
        rcases h : p[i]? with _ | x
        · simp
        · exact hp p (by simp) x (List.mem_of_getElem? h)
      exact ih _ (fun q hq => hp q (by simp [hq])) (by rw [qal, qat_length, h1]) (qat_wds h2 (by rw [h1]; exact hb 0) (by rw [h1]; exact hb 1) (by rw [h1]; exact hb 2) (by rw [h1]; exact hb 3))
  exact key places s (by decide) hl hs
theorem size16 : (Try.prog.info? 57).map (·.size) = some 16 := by kernel_rfl

set_option maxRecDepth 100000 in
set_option maxHeartbeats 16000000 in
theorem rounds_16 (x0 x1 x2 x3 x4 x5 x6 x7 x8 x9 x10 x11 x12 x13 x14 x15 : Int) (w : World) (hx0 : Hid (Wd x0)) (hx1 : Hid (Wd x1)) (hx2 : Hid (Wd x2)) (hx3 : Hid (Wd x3)) (hx4 : Hid (Wd x4)) (hx5 : Hid (Wd x5)) (hx6 : Hid (Wd x6)) (hx7 : Hid (Wd x7)) (hx8 : Hid (Wd x8)) (hx9 : Hid (Wd x9)) (hx10 : Hid (Wd x10)) (hx11 : Hid (Wd x11)) (hx12 : Hid (Wd x12)) (hx13 : Hid (Wd x13)) (hx14 : Hid (Wd x14)) (hx15 : Hid (Wd x15)) :
    Calls Try.prog 47 #[.agg #[.int .u32 x0, .int .u32 x1, .int .u32 x2, .int .u32 x3, .int .u32 x4, .int .u32 x5, .int .u32 x6, .int .u32 x7, .int .u32 x8, .int .u32 x9, .int .u32 x10, .int .u32 x11, .int .u32 x12, .int .u32 x13, .int .u32 x14, .int .u32 x15]] w fun e w' => e = .returned (.agg (vs .u32 (rds [x0, x1, x2, x3, x4, x5, x6, x7, x8, x9, x10, x11, x12, x13, x14, x15]))) ∧ Fr (fun _ => False) w w' := by
  go_enter Try.func47, Try.ntmps47
  go_upto_region 1 with (fail)
  go_upto_region 2 with (go_at_call 60; refine (quarter_ex _ _ _ _ _ hx0.out hx4.out hx8.out hx12.out).mono ?_; rintro e w' ⟨y00, y01, y02, y03, hy00, hy01, hy02, hy03, q0, rfl, rfl⟩)
  go_upto_region 3 with (go_at_call 60; refine (quarter_ex _ _ _ _ _ hx1.out hx5.out hx9.out hx13.out).mono ?_; rintro e w' ⟨y10, y11, y12, y13, hy10, hy11, hy12, hy13, q1, rfl, rfl⟩)
  go_upto_region 4 with (go_at_call 60; refine (quarter_ex _ _ _ _ _ hx2.out hx6.out hx10.out hx14.out).mono ?_; rintro e w' ⟨y20, y21, y22, y23, hy20, hy21, hy22, hy23, q2, rfl, rfl⟩)
  go_upto_region 5 with (go_at_call 60; refine (quarter_ex _ _ _ _ _ hx3.out hx7.out hx11.out hx15.out).mono ?_; rintro e w' ⟨y30, y31, y32, y33, hy30, hy31, hy32, hy33, q3, rfl, rfl⟩)
  go_upto_region 6 with (go_at_call 60; refine (quarter_ex _ _ _ _ _ hy00.out hy11.out hy22.out hy33.out).mono ?_; rintro e w' ⟨y40, y41, y42, y43, hy40, hy41, hy42, hy43, q4, rfl, rfl⟩)
  go_upto_region 7 with (go_at_call 60; refine (quarter_ex _ _ _ _ _ hy10.out hy21.out hy32.out hy03.out).mono ?_; rintro e w' ⟨y50, y51, y52, y53, hy50, hy51, hy52, hy53, q5, rfl, rfl⟩)
  go_upto_region 8 with (go_at_call 60; refine (quarter_ex _ _ _ _ _ hy20.out hy31.out hy02.out hy13.out).mono ?_; rintro e w' ⟨y60, y61, y62, y63, hy60, hy61, hy62, hy63, q6, rfl, rfl⟩)
  go_upto_region 9 with (go_at_call 60; refine (quarter_ex _ _ _ _ _ hy30.out hy01.out hy12.out hy23.out).mono ?_; rintro e w' ⟨y70, y71, y72, y73, hy70, hy71, hy72, hy73, q7, rfl, rfl⟩)
  generalize hW : (w.alloc (.cells #[.int .u32 y40, .int .u32 y50, .int .u32 y60, .int .u32 y70, .int .u32 y71, .int .u32 y41, .int .u32 y51, .int .u32 y61, .int .u32 y62, .int .u32 y72, .int .u32 y42, .int .u32 y52, .int .u32 y53, .int .u32 y63, .int .u32 y73, .int .u32 y43] 57)).alloc (.cells #[.int .u32 0, .int .u32 0, .int .u32 0, .int .u32 0, .int .u32 0, .int .u32 0, .int .u32 0, .int .u32 0, .int .u32 0, .int .u32 0, .int .u32 0, .int .u32 0, .int .u32 0, .int .u32 0, .int .u32 0, .int .u32 0] 57) = W0
  have HW := Lib.hid (calm2 hW)
  have X0 := Lib.hid HW.out.1
  have X1 := Lib.hid HW.out.2.1
  have F0 : Hid (Fr (fun _ => False) w W0) := HW.out.2.2
  clear hW HW
  have e0 : qal [x0, x1, x2, x3, x4, x5, x6, x7, x8, x9, x10, x11, x12, x13, x14, x15] [0, 4, 8, 12] = [y00, x1, x2, x3, y01, x5, x6, x7, y02, x9, x10, x11, y03, x13, x14, x15] := (qal_eq _ _ _ _ _).trans (qat_eq rfl rfl rfl rfl q0.out)
  have e1 : qal [y00, x1, x2, x3, y01, x5, x6, x7, y02, x9, x10, x11, y03, x13, x14, x15] [1, 5, 9, 13] = [y00, y10, x2, x3, y01, y11, x6, x7, y02, y12, x10, x11, y03, y13, x14, x15] := (qal_eq _ _ _ _ _).trans (qat_eq rfl rfl rfl rfl q1.out)
  have e2 : qal [y00, y10, x2, x3, y01, y11, x6, x7, y02, y12, x10, x11, y03, y13, x14, x15] [2, 6, 10, 14] = [y00, y10, y20, x3, y01, y11, y21, x7, y02, y12, y22, x11, y03, y13, y23, x15] := (qal_eq _ _ _ _ _).trans (qat_eq rfl rfl rfl rfl q2.out)
  have e3 : qal [y00, y10, y20, x3, y01, y11, y21, x7, y02, y12, y22, x11, y03, y13, y23, x15] [3, 7, 11, 15] = [y00, y10, y20, y30, y01, y11, y21, y31, y02, y12, y22, y32, y03, y13, y23, y33] := (qal_eq _ _ _ _ _).trans (qat_eq rfl rfl rfl rfl q3.out)
  have e4 : qal [y00, y10, y20, y30, y01, y11, y21, y31, y02, y12, y22, y32, y03, y13, y23, y33] [0, 5, 10, 15] = [y40, y10, y20, y30, y01, y41, y21, y31, y02, y12, y42, y32, y03, y13, y23, y43] := (qal_eq _ _ _ _ _).trans (qat_eq rfl rfl rfl rfl q4.out)
  have e5 : qal [y40, y10, y20, y30, y01, y41, y21, y31, y02, y12, y42, y32, y03, y13, y23, y43] [1, 6, 11, 12] = [y40, y50, y20, y30, y01, y41, y51, y31, y02, y12, y42, y52, y53, y13, y23, y43] := (qal_eq _ _ _ _ _).trans (qat_eq rfl rfl rfl rfl q5.out)
  have e6 : qal [y40, y50, y20, y30, y01, y41, y51, y31, y02, y12, y42, y52, y53, y13, y23, y43] [2, 7, 8, 13] = [y40, y50, y60, y30, y01, y41, y51, y61, y62, y12, y42, y52, y53, y63, y23, y43] := (qal_eq _ _ _ _ _).trans (qat_eq rfl rfl rfl rfl q6.out)
  have e7 : qal [y40, y50, y60, y30, y01, y41, y51, y61, y62, y12, y42, y52, y53, y63, y23, y43] [3, 4, 9, 14] = [y40, y50, y60, y70, y71, y41, y51, y61, y62, y72, y42, y52, y53, y63, y73, y43] := (qal_eq _ _ _ _ _).trans (qat_eq rfl rfl rfl rfl q7.out)
  have HE : Hid (rds [x0, x1, x2, x3, x4, x5, x6, x7, x8, x9, x10, x11, x12, x13, x14, x15] = [y40, y50, y60, y70, y71, y41, y51, y61, y62, y72, y42, y52, y53, y63, y73, y43]) := by
    show _ = _
    unfold rds places
    simp only [List.foldl_cons, List.foldl_nil]
    rw [e0, e1, e2, e3, e4, e5, e6, e7]
  clear e0 q0 e1 q1 e2 q2 e3 q3 e4 q4 e5 q5 e6 q6 e7 q7
  have hs : (Try.prog.info? 57).map (·.size) = some (#[.int .u32 y40, .int .u32 y50, .int .u32 y60, .int .u32 y70, .int .u32 y71, .int .u32 y41, .int .u32 y51, .int .u32 y61, .int .u32 y62, .int .u32 y72, .int .u32 y42, .int .u32 y52, .int .u32 y53, .int .u32 y63, .int .u32 y73, .int .u32 y43] : Array Value).size := size16
  have ho : (#[.int .u32 y40, .int .u32 y50, .int .u32 y60, .int .u32 y70, .int .u32 y71, .int .u32 y41, .int .u32 y51, .int .u32 y61, .int .u32 y62, .int .u32 y72, .int .u32 y42, .int .u32 y52, .int .u32 y53, .int .u32 y63, .int .u32 y73, .int .u32 y43] : Array Value).all (·.oneCell') = true := vs_all .u32 [y40, y50, y60, y70, y71, y41, y51, y61, y62, y72, y42, y52, y53, y63, y73, y43]
  have hv : (Value.agg #[.int .u32 y40, .int .u32 y50, .int .u32 y60, .int .u32 y70, .int .u32 y71, .int .u32 y41, .int .u32 y51, .int .u32 y61, .int .u32 y62, .int .u32 y72, .int .u32 y42, .int .u32 y52, .int .u32 y53, .int .u32 y63, .int .u32 y73, .int .u32 y43]) = .agg (vs .u32 [y40, y50, y60, y70, y71, y41, y51, y61, y62, y72, y42, y52, y53, y63, y73, y43]) := rfl
  generalize hG : (#[.int .u32 y40, .int .u32 y50, .int .u32 y60, .int .u32 y70, .int .u32 y71, .int .u32 y41, .int .u32 y51, .int .u32 y61, .int .u32 y62, .int .u32 y72, .int .u32 y42, .int .u32 y52, .int .u32 y53, .int .u32 y63, .int .u32 y73, .int .u32 y43] : Array Value) = G at *
  have HG := Lib.hid hG
  clear hG
  refine wp_region_head (C := Calm W0) 1 (Fr.refl _ _) ?_
  simp only [List.take_succ_cons, List.take_zero, List.drop_succ_cons, List.drop_zero]
  refine BigFrame.wpQuiet_want rfl fun K hK => quiet_load 57 (.tmp 1) rfl (w.heap.size) rfl 57 G (0, 0) _ (fun _ h => Calm.at X0.out h) Try.underlying57 rfl hs (hK _ ?_)
  refine wpQuiet_nil ?_
  intro w9 hw9
  have X9 := Lib.hid (Calm.at X1.out hw9)
  have F9 : Hid (Fr (fun _ => False) w w9) := F0.out.trans hw9
  clear hw9 X0 X1 F0
  simp only [Act.put, List.setIfInBounds_toArray, List.set_cons_succ, List.set_cons_zero]
  refine wpList_store_row rfl 57 (.tmp 2) (.tmp 147) rfl (w.heap.size + 1) G rfl rfl 57 _ X9.out hs (by rw [← HG.out]; rfl) ho ?_

  go_wp2
  refine bodyPost_ret (results_cell_row Try.results47 _ _ _ 57 _ (0, 0) _ rfl (setRow_heap _ _ _ _ _ _ X9.out) Try.underlying57 rfl hs) rfl ⟨by rw [HE.out], F9.out.setRow _ (.inr (by omega))⟩
theorem rounds_is (s : List Int) (w : World) (hl : s.length = 16) (hs : Wds s) :
    Calls Try.prog 47 #[.agg (vs .u32 s)] w fun e w' => e = .returned (.agg (vs .u32 (rds s))) ∧ Fr (fun _ => False) w w' := by
  obtain ⟨x0, x1, x2, x3, x4, x5, x6, x7, x8, x9, x10, x11, x12, x13, x14, x15, rfl⟩ := sixteen hl
  exact rounds_16 x0 x1 x2 x3 x4 x5 x6 x7 x8 x9 x10 x11 x12 x13 x14 x15 w (hs _ (by simp)) (hs _ (by simp)) (hs _ (by simp)) (hs _ (by simp)) (hs _ (by simp)) (hs _ (by simp)) (hs _ (by simp)) (hs _ (by simp)) (hs _ (by simp)) (hs _ (by simp)) (hs _ (by simp)) (hs _ (by simp)) (hs _ (by simp)) (hs _ (by simp)) (hs _ (by simp)) (hs _ (by simp))
end Go.Proofs.Ytbafppdmlhogbaa

/- A word of four bytes; the sixteen words of a key, a counter and a nonce: contracts. Conditions: bytes, their numbers. -/
namespace Go.Proofs.Ytbafppdmlhogbaa
set_option linter.unusedSimpArgs false
set_option linter.unusedVariables false
open Go.RowKit

def By (b : Int) : Prop := 0 ≤ b ∧ b ≤ 255
def nb (b0 b1 b2 b3 : Int) : Int := b0 + b1 * 256 + b2 * 65536 + b3 * 16777216
theorem nb_wd {b0 b1 b2 b3 : Int} (h0 : By b0) (h1 : By b1) (h2 : By b2) (h3 : By b3) : Wd (nb b0 b1 b2 b3) := by
  unfold By at *
  unfold Wd nb
  omega
theorem join32 (j : Nat) (x y : Int) (hj : j ≤ 31) (h0 : 0 ≤ x) (h1 : x < 2 ^ j) (g0 : 0 ≤ y) (g1 : y * 2 ^ j < 4294967296) : bits .or .u32 x (y * 2 ^ j) = x + y * 2 ^ j := by
  obtain ⟨x, rfl⟩ := Int.eq_ofNat_of_zero_le h0
  obtain ⟨y, rfl⟩ := Int.eq_ofNat_of_zero_le g0
  have e : ((y : Int) * 2 ^ j) = ((y * 2 ^ j : Nat) : Int) := by rw [Int.natCast_mul, Int.natCast_pow]; rfl
  have e2 : (2 : Int) ^ j = ((2 ^ j : Nat) : Int) := by rw [Int.natCast_pow]; rfl
  have hx : x < 2 ^ j := by rw [e2] at h1; omega
  have hy : y * 2 ^ j < 4294967296 := by rw [e] at g1; omega
  have hj2 : 2 ^ j ≤ 2 ^ 31 := Nat.pow_le_pow_right (by decide) hj
  rw [e, u32_or_nat x (y * 2 ^ j) (by omega) hy, Nat.or_comm, nat_join j (y * 2 ^ j) x (Nat.mul_mod_left _ _) hx]
  omega
set_option maxHeartbeats 1000000 in
theorem number_is (b0 b1 b2 b3 : Int) (w : World) (h0 : By b0) (h1 : By b1) (h2 : By b2) (h3 : By b3) :
    Calls Try.prog 46 #[.int .u8 b0, .int .u8 b1, .int .u8 b2, .int .u8 b3] w fun e w' => e = .returned (.int .u32 (nb b0 b1 b2 b3)) ∧ w = w' := by
  unfold By at *
  have e1 : bits .or .u32 b0 (b1 * 256) = b0 + b1 * 256 := join32 8 b0 b1 (by decide) (by omega) (by omega) (by omega) (by omega)
  have e2 : bits .or .u32 (b0 + b1 * 256) (b2 * 65536) = b0 + b1 * 256 + b2 * 65536 := join32 16 (b0 + b1 * 256) b2 (by decide) (by omega) (by omega) (by omega) (by omega)
  have e3 : bits .or .u32 (b0 + b1 * 256 + b2 * 65536) (b3 * 16777216) = nb b0 b1 b2 b3 := join32 24 (b0 + b1 * 256 + b2 * 65536) b3 (by decide) (by omega) (by omega) (by omega) (by omega)
  have w0 : IntKind.u32.wrap b0 = b0 := by rw [wrap32]; omega
  have w1 : IntKind.u32.wrap b1 = b1 := by rw [wrap32]; omega
  have w2 : IntKind.u32.wrap b2 = b2 := by rw [wrap32]; omega
  have w3 : IntKind.u32.wrap b3 = b3 := by rw [wrap32]; omega
  have v1 : IntKind.u32.wrap (b1 * 256) = b1 * 256 := by rw [wrap32]; omega
  have v2 : IntKind.u32.wrap (b2 * 65536) = b2 * 65536 := by rw [wrap32]; omega
  have v3 : IntKind.u32.wrap (b3 * 16777216) = b3 * 16777216 := by rw [wrap32]; omega
  clear h0 h1 h2 h3
  go_enter Try.func46, Try.ntmps46
  go_wp2
  go_ret
  exact ⟨rfl, rfl⟩

def ws : List Int → List Int
  | a :: b :: c :: d :: r => nb a b c d :: ws r
  | _ => []
theorem ws_length (m : Nat) : ∀ l : List Int, l.length = 4 * m → (ws l).length = m := by
  induction m with
  | zero => intro l h; match l, h with | [], _ => rfl
  | succ m ih =>
    intro l h
    match l, h with
    | a :: b :: c :: d :: r, h =>
      show (nb a b c d :: ws r).length = m + 1
      rw [List.length_cons, ih r (by simp at h; omega)]
theorem ws_get (m : Nat) : ∀ (l : List Int) (i : Nat), l.length = 4 * m → i < m → (ws l)[i]? = some (nb (l.getD (4 * i) 0) (l.getD (4 * i + 1) 0) (l.getD (4 * i + 2) 0) (l.getD (4 * i + 3) 0)) := by
  induction m with
  | zero => intro l i _ hi; omega
  | succ m ih =>
    intro l i h hi
    match l, h with
    | a :: b :: c :: d :: r, h =>
      cases i with
      | zero => rfl
      | succ i =>
        show (nb a b c d :: ws r)[i + 1]? = _
        rw [List.getElem?_cons_succ, ih r i (by simp at h; omega) (by omega)]
        rfl
theorem ws_wds (m : Nat) : ∀ l : List Int, l.length = 4 * m → Bys l → Wds (ws l) := by
  induction m with
  | zero => intro l h _; match l, h with | [], _ => (intro x hx; cases hx)
  | succ m ih =>
    intro l h hb
    match l, h with
    | a :: b :: c :: d :: r, h =>
      intro x hx
      rcases List.mem_cons.1 hx with rfl | hx
      · exact nb_wd (hb a (by simp)) (hb b (by simp)) (hb c (by simp)) (hb d (by simp))
      · exact ih r (by simp at h; omega) (fun y hy => hb y (by simp [hy])) x hx
/-- The sixteen words at first. -/
def st (k : List Int) (c : Int) (n : List Int) : List Int := 1634760805 :: 857760878 :: 2036477234 :: 1797285236 :: (ws k ++ c :: ws n)
section
variable {k n : List Int} {c : Int}
theorem st_length (hk : k.length = 32) (hn : n.length = 12) : (st k c n).length = 16 := by
  have h1 := ws_length 8 k (by omega)
  have h2 := ws_length 3 n (by omega)
  simp [st, h1, h2]
theorem st_wds (hk : k.length = 32) (bk : Bys k) (hc : Wd c) (hn : n.length = 12) (bn : Bys n) : Wds (st k c n) := by
  have h1 := ws_wds 8 k (by omega) bk
  have h2 := ws_wds 3 n (by omega) bn
  intro x hx
  simp only [st, List.mem_cons, List.mem_append] at hx
  rcases hx with rfl | rfl | rfl | rfl | hx | rfl | hx
  · exact ⟨by decide, by decide⟩
  · exact ⟨by decide, by decide⟩
  · exact ⟨by decide, by decide⟩
  · exact ⟨by decide, by decide⟩
  · exact h1 x hx
  · exact hc
  · exact h2 x hx
theorem st_key (hk : k.length = 32) (i : Nat) (hi : i < 8) : (st k c n)[4 + i]? = some (nb (k.getD (4 * i) 0) (k.getD (4 * i + 1) 0) (k.getD (4 * i + 2) 0) (k.getD (4 * i + 3) 0)) := by
  have h1 := ws_length 8 k (by omega)
  rw [show 4 + i = i + 1 + 1 + 1 + 1 by omega]
  simp only [st, List.getElem?_cons_succ]
  rw [List.getElem?_append_left (by omega), ws_get 8 k i (by omega) hi]
theorem st_ctr (hk : k.length = 32) : (st k c n)[12]? = some c := by
  have h1 := ws_length 8 k (by omega)
  simp only [st, List.getElem?_cons_succ]
  rw [List.getElem?_append_right (by omega), h1]
  rfl
theorem st_nonce (hk : k.length = 32) (hn : n.length = 12) (i : Nat) (hi : i < 3) : (st k c n)[13 + i]? = some (nb (n.getD (4 * i) 0) (n.getD (4 * i + 1) 0) (n.getD (4 * i + 2) 0) (n.getD (4 * i + 3) 0)) := by
  have h1 := ws_length 8 k (by omega)
  rw [show 13 + i = 9 + i + 1 + 1 + 1 + 1 by omega]
  simp only [st, List.getElem?_cons_succ]
  rw [List.getElem?_append_right (by omega), h1, show 9 + i - 8 = i + 1 by omega, List.getElem?_cons_succ, ws_get 3 n i (by omega) hi]
end
theorem calm3 {w : World} {A B C : Obj} {W0 : World} (h : ((w.alloc A).alloc B).alloc C = W0) : W0.heap[w.heap.size]? = some A ∧ W0.heap[w.heap.size + 1]? = some B ∧ W0.heap[w.heap.size + 1 + 1]? = some C ∧ Fr (fun _ => False) w W0 := by
  obtain ⟨V, hV⟩ : ∃ V, (w.alloc A).alloc B = V := ⟨_, rfl⟩
  have h2 := calm2 hV
  have sV : V.heap.size = w.heap.size + 1 + 1 := by rw [← hV]; simp
  rw [hV] at h
  have h1 := calm1a h
  rw [sV] at h1
  exact ⟨(h1.2.block _ (by omega) (fun x => x)).trans h2.1, (h1.2.block _ (by omega) (fun x => x)).trans h2.2.1, h1.1, h2.2.2.trans h1.2⟩
theorem calm4 {w : World} {A B C D : Obj} {W0 : World} (h : (((w.alloc A).alloc B).alloc C).alloc D = W0) : W0.heap[w.heap.size]? = some A ∧ W0.heap[w.heap.size + 1]? = some B ∧ W0.heap[w.heap.size + 1 + 1]? = some C ∧ W0.heap[w.heap.size + 1 + 1 + 1]? = some D ∧ Fr (fun _ => False) w W0 := by
  obtain ⟨V, hV⟩ : ∃ V, ((w.alloc A).alloc B).alloc C = V := ⟨_, rfl⟩
  have h3 := calm3 hV
  have sV : V.heap.size = w.heap.size + 1 + 1 + 1 := by rw [← hV]; simp
  rw [hV] at h
  have h1 := calm1a h
  rw [sV] at h1
  exact ⟨(h1.2.block _ (by omega) (fun x => x)).trans h3.1, (h1.2.block _ (by omega) (fun x => x)).trans h3.2.1, (h1.2.block _ (by omega) (fun x => x)).trans h3.2.2.1, h1.1, h3.2.2.2.trans h1.2⟩
end Go.Proofs.Ytbafppdmlhogbaa
