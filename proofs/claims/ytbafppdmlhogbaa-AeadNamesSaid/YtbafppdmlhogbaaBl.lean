/- chacha's block of the sixteen words: contract. Condition: sixteen words. -/
import Derived.Test.YtbafppdmlhogbaaSw
namespace Go.Proofs.Ytbafppdmlhogbaa
set_option linter.unusedSimpArgs false
set_option linter.unusedVariables false
open Go.RowKit

/-- So many times both rounds. -/
def rn : Nat → List Int → List Int
  | 0, s => s
  | i + 1, s => rds (rn i s)
theorem rn_ok {s : List Int} (hl : s.length = 16) (hs : Wds s) (i : Nat) : (rn i s).length = 16 ∧ Wds (rn i s) := by
  induction i with
  | zero => exact ⟨hl, hs⟩
  | succ i ih => exact rds_ok ih.1 ih.2
/-- The bytes of words. -/
def bsw : List Int → List Int
  | [] => []
  | x :: r => x % 256 :: x / 256 % 256 :: x / 65536 % 256 :: x / 16777216 % 256 :: bsw r
theorem bsw_length (l : List Int) : (bsw l).length = 4 * l.length := by
  induction l with
  | nil => rfl
  | cons x r ih => simp only [bsw, List.length_cons, ih]; omega
theorem bsw_get (l : List Int) (i : Nat) (x : Int) (h : l[i]? = some x) : (bsw l)[4 * i]? = some (x % 256) ∧ (bsw l)[4 * i + 1]? = some (x / 256 % 256) ∧ (bsw l)[4 * i + 2]? = some (x / 65536 % 256) ∧ (bsw l)[4 * i + 3]? = some (x / 16777216 % 256) := by
  induction l generalizing i with
  | nil => simp at h
  | cons y r ih =>
    cases i with
    | zero => simp at h; subst h; exact ⟨rfl, rfl, rfl, rfl⟩
    | succ i => exact ih i (by simpa using h)
theorem bsw_bys (l : List Int) : Bys (bsw l) := by
  induction l with
  | nil => intro b hb; cases hb
  | cons x r ih =>
    intro b hb
    simp only [bsw, List.mem_cons] at hb
    rcases hb with rfl | rfl | rfl | rfl | hb
    · omega
    · omega
    · omega
    · omega
    · exact ih b hb
def zs (s x : List Int) : List Int := List.zipWith sm s x
theorem zs_length {s x : List Int} (hs : s.length = 16) (hx : x.length = 16) : (zs s x).length = 16 := by simp [zs, hs, hx]
theorem zs_get {s x : List Int} {i : Nat} {p q : Int} (hp : s[i]? = some p) (hq : x[i]? = some q) : (zs s x)[i]? = some (sm p q) := by
  unfold zs
  rw [List.getElem?_zipWith, hp, hq]
/-- The bytes of a block. -/
def blk (s : List Int) : List Int := bsw (zs s (rn 10 s))
theorem blk_length {s : List Int} (hl : s.length = 16) (hs : Wds s) : (blk s).length = 64 := by rw [blk, bsw_length, zs_length hl (rn_ok hl hs 10).1]
theorem blk_bys (s : List Int) : Bys (blk s) := bsw_bys _
theorem size64 : (Try.prog.info? 42).map (·.size) = some 64 := by kernel_rfl
theorem zero64 : ∀ W : World, (zeroValue 42).run Try.prog W = .ok (.agg (vs .u8 (List.replicate 64 0))) W := fun _ => by kernel_rfl

set_option maxRecDepth 100000 in
set_option maxHeartbeats 16000000 in
theorem block_is (s : List Int) (w : World) (hl : s.length = 16) (hs : Wds s) :
    Calls Try.prog 34 #[.agg (vs .u32 s)] w fun e w' => e = .returned (.agg (vs .u8 (blk s))) ∧ Fr (fun _ => False) w w' := by
  obtain ⟨B, hB⟩ : ∃ B, blk s = B := ⟨_, rfl⟩
  have HB1 : Hid (B.length = 64) := by show _ = _; rw [← hB]; exact blk_length hl hs
  have HB0 := Lib.hid hB
  have HS := Lib.hid (And.intro hl hs)
  have hz : ∀ W : World, (zeroValue 42).run Try.prog W = .ok (.agg (vs .u8 (fil B 0 0))) W := fun W => by
    rw [fil_zero, HB1.out]
    exact zero64 W
  have hi52 : Hid ((Try.prog.info? 57).map (·.size) = some (vs .u32 s).size) := by show _ = _; rw [size16, vs_size, hl]
  obtain ⟨Z, hZ⟩ : ∃ Z, Z = List.replicate 16 (0 : Int) := ⟨_, rfl⟩
  have hz2 : ∀ W : World, (zeroValue 57).run Try.prog W = .ok (.agg (vs .u32 Z)) W := fun W => by rw [hZ]; kernel_rfl
  have hez : Hid ((vs .u32 Z).size = (vs .u32 s).size) := by show _ = _; rw [vs_size, vs_size, hl, hZ]; rfl
  clear hB hl hs hZ
  go_enter Try.func34, Try.ntmps34
  go_upto_region 1 with (fail)
  generalize hW : (w.alloc (.cells (vs .u32 s) 57)).alloc (.cells (vs .u8 (fil B 0 0)) 42) = W0
  have HW := Lib.hid (calm2 hW)
  have X0 := Lib.hid HW.out.1
  have hsz : W0.heap.size = w.heap.size + 1 + 1 := by rw [← hW]; simp
  clear hW
  go_upto_region 2 with (first
    | refine wpList_load_row rfl 57 (.tmp 1) rfl (w.heap.size) rfl 57 (vs .u32 s) (0, 0) _ X0.out Try.underlying57 rfl hi52.out ?_
    | refine wpList_store_row rfl 57 (.tmp 3) (.tmp 7) rfl (w.heap.size + 1 + 1) (vs .u32 s) rfl rfl 57 (vs .u32 Z) (by have h := heap_alloc_new W0 (.cells (vs .u32 Z) 57); rw [hsz] at h; exact h) hi52.out hez.out (vs_all _ _) ?_)
  have P0 : Hid (Ar ((W0.alloc (.cells (vs .u32 Z) 57)).setRow (w.heap.size + 1 + 1) (vs .u32 s)) (w.heap.size + 1 + 1) 57 .u32 (rn 0 s)) := by
    have h := Ar.new W0 57 .u32 Z
    rw [hsz] at h
    exact h.row s
  have S0 : Hid (Ar ((W0.alloc (.cells (vs .u32 Z) 57)).setRow (w.heap.size + 1 + 1) (vs .u32 s)) w.heap.size 57 .u32 s) := (Ar.alloc (l := s) X0.out _).rowFar (by omega) _
  have R0 : Hid (Ar ((W0.alloc (.cells (vs .u32 Z) 57)).setRow (w.heap.size + 1 + 1) (vs .u32 s)) (w.heap.size + 1) 42 .u8 (fil B 0 0)) := (Ar.alloc (l := fil B 0 0) HW.out.2.1 _).rowFar (by omega) _
  have F0 : Hid (Fr (fun _ => False) w ((W0.alloc (.cells (vs .u32 Z) 57)).setRow (w.heap.size + 1 + 1) (vs .u32 s))) := (HW.out.2.2.alloc _).setRow _ (.inr (by omega))
  generalize (W0.alloc (.cells (vs .u32 Z) 57)).setRow (w.heap.size + 1 + 1) (vs .u32 s) = W1 at *
  clear HW X0 hsz hz2 hez
  go_wp2
  go_loopw [8] (fun u8 wr => ∃ i : Nat, u8 = .int .i64 i ∧ i ≤ 10 ∧ Hid (Ar wr w.heap.size 57 .u32 s) ∧ Hid (Ar wr (w.heap.size + 1) 42 .u8 (fil B 0 0)) ∧ Hid (Ar wr (w.heap.size + 1 + 1) 57 .u32 (rn i s)) ∧ Hid (Fr (fun _ => False) w wr))
    (fun u8 _ => 10 - (intOf u8).toNat)
  case atStart => exact ⟨0, rfl, by omega, S0, R0, P0, F0⟩
  case round =>
    obtain ⟨i, rfl, hi, hS, hR, hP, hF⟩ := hrel
    by_cases hlt : i < 10
    · obtain ⟨t, ht⟩ : ∃ t, t = rn i s := ⟨_, rfl⟩
      obtain ⟨u, hu⟩ : ∃ u, u = rds t := ⟨_, rfl⟩
      have ok := rn_ok HS.out.1 HS.out.2 i
      rw [← ht] at ok hP
      have C : ∀ W, Calls Try.prog 47 #[.agg (vs .u32 t)] W fun e w' => e = .returned (.agg (vs .u32 u)) ∧ Fr (fun _ => False) W w' := fun W => by rw [hu]; exact rounds_is t W ok.1 ok.2
      have lu : u.length = 16 := by rw [hu]; exact (rds_ok ok.1 ok.2).1
      have it : Hid ((Try.prog.info? 57).map (·.size) = some (vs .u32 t).size) := by show _ = _; rw [size16, vs_size, ok.1]
      have iu : Hid ((Try.prog.info? 57).map (·.size) = some (vs .u32 u).size) := by show _ = _; rw [size16, vs_size, lu]
      have ie : Hid ((vs .u32 t).size = (vs .u32 u).size) := by show _ = _; rw [vs_size, vs_size, ok.1, lu]
      have HU : Hid (u = rn (i + 1) s) := by show _ = _; rw [hu, ht]; rfl
      clear ht hu ok lu
      go_wp2_with (first
        | (go_at_call 47; refine (C _).mono ?_; rintro e w' ⟨rfl, hf⟩; replace hS : Hid (Ar w' w.heap.size 57 .u32 s) := hS.out.fr hf (fun x => x); replace hR : Hid (Ar w' (w.heap.size + 1) 42 .u8 (fil B 0 0)) := hR.out.fr hf (fun x => x); replace hP : Hid (Ar w' (w.heap.size + 1 + 1) 57 .u32 t) := hP.out.fr hf (fun x => x); replace hF : Hid (Fr (fun _ => False) w w') := hF.out.trans hf; clear hf)
        | refine wpList_load_row rfl 57 (.tmp 3) rfl (w.heap.size + 1 + 1) rfl 57 (vs .u32 t) (0, 0) _ hP.out Try.underlying57 rfl it.out ?_
        | refine wpList_store_row rfl 57 (.tmp 3) (.tmp 11) rfl (w.heap.size + 1 + 1) (vs .u32 u) rfl rfl 57 (vs .u32 t) hP.out iu.out ie.out (vs_all _ _) ?_)
      go_roundw
      case rel => exact ⟨i + 1, by go_num, by omega, hS.out.rowFar (by omega) _, hR.out.rowFar (by omega) _, by rw [← HU.out]; exact hP.out.row _, hF.out.setRow _ (.inr (by omega))⟩
      case measure => simp [intOf]; omega
    · have h10 : i = 10 := by omega
      obtain ⟨t, ht⟩ : ∃ t, t = rn 10 s := ⟨_, rfl⟩
      replace hP : Hid (Ar wr (w.heap.size + 1 + 1) 57 .u32 t) := by
        have h := hP.out
        rw [h10, ← ht] at h
        exact h
      have HT : Hid (t.length = 16) := by show _ = _; rw [ht]; exact (rn_ok HS.out.1 HS.out.2 10).1
      have HB2 : Hid (B = bsw (zs s t)) := by show _ = _; rw [ht, ← HB0.out]; rfl
      clear h10 ht
      obtain ⟨q, hq⟩ : ∃ q, q = wr.heap.size := ⟨_, rfl⟩
      have hql : w.heap.size + 1 + 1 < q := by rw [hq]; exact hP.out.lt
      have HQ := Lib.hid hql
      go_upto_region 7 with (fail)
      have S1 : Hid (Ar (wr.alloc (.cells (vs .u8 (fil B 0 0)) 42)) w.heap.size 57 .u32 s) := hS.out.alloc _
      have R1 : Hid (Ar (wr.alloc (.cells (vs .u8 (fil B 0 0)) 42)) (w.heap.size + 1) 42 .u8 (fil B 0 0)) := hR.out.alloc _
      have P1 : Hid (Ar (wr.alloc (.cells (vs .u8 (fil B 0 0)) 42)) (w.heap.size + 1 + 1) 57 .u32 t) := hP.out.alloc _
      have Q1 : Hid (Ar (wr.alloc (.cells (vs .u8 (fil B 0 0)) 42)) q 42 .u8 (fil B (4 * 0) 0)) := by rw [hq]; exact Ar.new wr 42 .u8 (fil B 0 0)
      have F1 : Hid (Fr (fun _ => False) w (wr.alloc (.cells (vs .u8 (fil B 0 0)) 42))) := hF.out.alloc _
      rw [← hq]
      generalize wr.alloc (.cells (vs .u8 (fil B 0 0)) 42) = W2 at *
      clear hS hR hP hF hq hql hz
      try simp only [Act.put, List.setIfInBounds_toArray, List.set_cons_succ, List.set_cons_zero]
      go_wp2
      go_loopw [5, 13] (fun u5 u13 wr => ∃ j : Nat, u13 = .int .i64 j ∧ j ≤ 16 ∧ Hid (Ar wr w.heap.size 57 .u32 s) ∧ Hid (Ar wr (w.heap.size + 1) 42 .u8 (fil B 0 0)) ∧ Hid (Ar wr (w.heap.size + 1 + 1) 57 .u32 t) ∧ Hid (Ar wr q 42 .u8 (fil B (4 * j) 0)) ∧ Hid (Fr (fun _ => False) w wr))
        (fun _ u13 _ => 16 - (intOf u13).toNat)
      case atStart => exact ⟨0, rfl, by omega, S1, R1, P1, Q1, F1⟩
      case round =>
        obtain ⟨j, rfl, hj, hS, hR, hP, hQ, hF⟩ := hrel
        by_cases hlt : j < 16
        · obtain ⟨x, hx⟩ : ∃ x, x = s.getD j 0 := ⟨_, rfl⟩
          obtain ⟨y, hy⟩ : ∃ y, y = t.getD j 0 := ⟨_, rfl⟩
          have gx := getD_some (l := s) (i := j) (by rw [HS.out.1]; exact hlt)
          have gy := getD_some (l := t) (i := j) (by rw [HT.out]; exact hlt)
          rw [← hx] at gx
          rw [← hy] at gy
          obtain ⟨z, hzz⟩ : ∃ z, z = sm x y := ⟨_, rfl⟩
          have hwz : IntKind.u32.wrap (x + y) = z := by rw [wrap32, hzz]; rfl
          have wz : Wd z := by rw [hzz]; exact sm_wd _ _
          have z0 := wz.1
          have z9 := wz.2
          have G := bsw_get _ j _ (zs_get gx gy)
          rw [← hzz, ← HB2.out] at G
          have kx := Ar.cell hS.out gx
          have ky := Ar.cell hP.out gy
          have t0 : (4 * (j : Int)).toNat = 4 * j := by omega
          have t1 : (4 * (j : Int) + 1).toNat = 4 * j + 1 := by omega
          have t2 : (4 * (j : Int) + 2).toNat = 4 * j + 2 := by omega
          have t3 : (4 * (j : Int) + 3).toNat = 4 * j + 3 := by omega
          have s0 : 0 ≤ 4 * (j : Int) := by omega
          have s1 : 4 * (j : Int) + 3 < 64 := by omega
          rw [show z / 16777216 % 256 = z / 16777216 by omega] at G
          have G2 := Lib.hid G
          clear hx hy gx gy hzz wz G
          go_wp2
          go_quiet (fail)
          replace hS : Hid (Ar (wr.drewN nq) w.heap.size 57 .u32 s) := hS
          replace hR : Hid (Ar (wr.drewN nq) (w.heap.size + 1) 42 .u8 (fil B 0 0)) := hR
          replace hP : Hid (Ar (wr.drewN nq) (w.heap.size + 1 + 1) 57 .u32 t) := hP
          replace hQ : Hid (Ar (wr.drewN nq) q 42 .u8 (fil B (4 * j) 0)) := hQ
          replace hF : Hid (Fr (fun _ => False) w (wr.drewN nq)) := hF.out.drewN nq
          clear kx ky
          generalize wr.drewN nq = w3 at *
          have c0 := Ar.cell hQ.out (fil_get B (4 * j) 0 (by have := HB1.out; omega))
          have f0 := Ar.frozen hQ.out (4 * j)
          have hB0 := Ar.set hQ.out (4 * j) (z % 256)
          rw [fil_set B (4 * j) 0 _ G2.out.1] at hB0
          have c1 := Ar.cell hB0 (fil_get B (4 * j + 1) 0 (by have := HB1.out; omega))
          have f1 := Ar.frozen hB0 (4 * j + 1)
          have hB1 := Ar.set hB0 (4 * j + 1) (z / 256 % 256)
          rw [fil_set B (4 * j + 1) 0 _ G2.out.2.1] at hB1
          have c2 := Ar.cell hB1 (fil_get B (4 * j + 2) 0 (by have := HB1.out; omega))
          have f2 := Ar.frozen hB1 (4 * j + 2)
          have hB2 := Ar.set hB1 (4 * j + 2) (z / 65536 % 256)
          rw [fil_set B (4 * j + 2) 0 _ G2.out.2.2.1] at hB2
          have c3 := Ar.cell hB2 (fil_get B (4 * j + 3) 0 (by have := HB1.out; omega))
          have f3 := Ar.frozen hB2 (4 * j + 3)
          have hB3 := Ar.set hB2 (4 * j + 3) (z / 16777216)
          rw [fil_set B (4 * j + 3) 0 _ G2.out.2.2.2] at hB3
          have HB9 := Lib.hid (show Ar _ _ _ _ (fil B (4 * (j + 1)) 0) from hB3)
          clear hB0 hB1 hB2 hB3
          go_wp2
          go_roundw
          case rel => exact ⟨j + 1, by go_num, by omega, (((hS.out.far (by simp <;> have := HQ.out <;> omega) _).far (by simp <;> have := HQ.out <;> omega) _).far (by simp <;> have := HQ.out <;> omega) _).far (by simp <;> have := HQ.out <;> omega) _, (((hR.out.far (by simp <;> have := HQ.out <;> omega) _).far (by simp <;> have := HQ.out <;> omega) _).far (by simp <;> have := HQ.out <;> omega) _).far (by simp <;> have := HQ.out <;> omega) _, (((hP.out.far (by simp <;> have := HQ.out <;> omega) _).far (by simp <;> have := HQ.out <;> omega) _).far (by simp <;> have := HQ.out <;> omega) _).far (by simp <;> have := HQ.out <;> omega) _, HB9, (((hF.out.setCell _ (.inr (by simp <;> have := HQ.out <;> omega))).setCell _ (.inr (by simp <;> have := HQ.out <;> omega))).setCell _ (.inr (by simp <;> have := HQ.out <;> omega))).setCell _ (.inr (by simp <;> have := HQ.out <;> omega))⟩
          case measure => simp [intOf]; omega
        · have h16 : j = 16 := by omega
          have Q9 : Hid (Ar wr q 42 .u8 B) := by
            have h := hQ.out
            have e := fil_all B (0 : Int)
            rw [HB1.out] at e
            rwa [h16, show 4 * 16 = 64 from rfl, e] at h
          have hsz : Hid ((Try.prog.info? 42).map (·.size) = some (vs .u8 B).size) := by show _ = _; rw [size64, vs_size, HB1.out]
          have hez : Hid ((vs .u8 (fil B 0 0)).size = (vs .u8 B).size) := by show _ = _; rw [vs_size, vs_size, fil_length B 0 0 (by omega)]
          clear hS hP hQ h16
          go_wp2_with (first
            | refine wpList_load_row rfl 42 (.tmp 4) rfl q rfl 42 (vs .u8 B) (0, 0) _ Q9.out Try.underlying42 rfl hsz.out ?_
            | refine wpList_store_row rfl 42 (.tmp 2) (.tmp 50) rfl (w.heap.size + 1) (vs .u8 B) rfl rfl 42 _ hR.out hsz.out hez.out (vs_all _ _) ?_)
          refine bodyPost_ret (results_cell_row Try.results34 _ _ _ 42 _ (0, 0) _ rfl (setRow_heap _ _ _ _ _ _ hR.out) Try.underlying42 rfl hsz.out) rfl ⟨by rw [HB0.out], hF.out.setRow _ (.inr (by omega))⟩
end Go.Proofs.Ytbafppdmlhogbaa

/- chacha's Block: contract. Conditions: a key of 32 bytes, a word, a nonce of 12 bytes. -/
namespace Go.Proofs.Ytbafppdmlhogbaa
set_option linter.unusedSimpArgs false
set_option linter.unusedVariables false
open Go.RowKit

/-- The bytes of the block of a key, a counter and a nonce. -/
def bk64 (k : List Int) (c : Int) (n : List Int) : List Int := blk (st k c n)
theorem bk64_length {k : List Int} {c : Int} {n : List Int} (hk : k.length = 32) (bk : Bys k) (hc : Wd c) (hn : n.length = 12) (bn : Bys n) : (bk64 k c n).length = 64 := blk_length (st_length hk hn) (st_wds hk bk hc hn bn)
theorem bk64_bys (k : List Int) (c : Int) (n : List Int) : Bys (bk64 k c n) := blk_bys _
theorem size28 : (Try.prog.info? 28).map (·.size) = some 32 := by kernel_rfl
theorem size29 : (Try.prog.info? 22).map (·.size) = some 12 := by kernel_rfl
set_option maxRecDepth 100000 in
set_option maxHeartbeats 4000000 in
theorem blockK_is (k : List Int) (c : Int) (n : List Int) (w : World) (hk : k.length = 32) (bk : Bys k) (hc : Wd c) (hn : n.length = 12) (bn : Bys n) :
    Calls Try.prog 23 #[.agg (vs .u8 k), .int .u32 c, .agg (vs .u8 n)] w fun e w' => e = .returned (.agg (vs .u8 (bk64 k c n))) ∧ Fr (fun _ => False) w w' := by
  obtain ⟨S, hS⟩ : ∃ S, S = st k c n := ⟨_, rfl⟩
  obtain ⟨B, hB⟩ : ∃ B, B = bk64 k c n := ⟨_, rfl⟩
  have C1 : ∀ W, Calls Try.prog 33 #[.agg (vs .u8 k), .int .u32 c, .agg (vs .u8 n)] W fun e w' => e = .returned (.agg (vs .u32 S)) ∧ Fr (fun _ => False) W w' := fun W => by rw [hS]; exact start_is k c n W hk bk hn bn
  have C2 : ∀ W, Calls Try.prog 34 #[.agg (vs .u32 S)] W fun e w' => e = .returned (.agg (vs .u8 B)) ∧ Fr (fun _ => False) W w' := fun W => by rw [hS, hB]; exact block_is _ W (st_length hk hn) (st_wds hk bk hc hn bn)
  have lB : B.length = 64 := by rw [hB]; exact bk64_length hk bk hc hn bn
  have HB := Lib.hid hB
  have ik : Hid ((Try.prog.info? 28).map (·.size) = some (vs .u8 k).size) := by show _ = _; rw [size28, vs_size, hk]
  have iN : Hid ((Try.prog.info? 22).map (·.size) = some (vs .u8 n).size) := by show _ = _; rw [size29, vs_size, hn]
  have iB : Hid ((Try.prog.info? 42).map (·.size) = some (vs .u8 B).size) := by show _ = _; rw [size64, vs_size, lB]
  obtain ⟨Z, hZ⟩ : ∃ Z, Z = List.replicate 64 (0 : Int) := ⟨_, rfl⟩
  have hz : ∀ W : World, (zeroValue 42).run Try.prog W = .ok (.agg (vs .u8 Z)) W := fun W => by rw [hZ]; exact zero64 W
  have ez : Hid ((vs .u8 Z).size = (vs .u8 B).size) := by show _ = _; rw [vs_size, vs_size, lB, hZ]; rfl
  clear hS hB lB hk bk hc hn bn hZ
  go_enter Try.func23, Try.ntmps23
  go_upto_region 1 with (fail)
  generalize hW : ((w.alloc (.cells (vs .u8 k) 28)).alloc (.cells (vs .u8 n) 22)).alloc (.cells (vs .u8 Z) 42) = W0
  have HW := Lib.hid (calm3 hW)
  have X0 := Lib.hid HW.out.1
  have X1 := Lib.hid HW.out.2.1
  have X2 : Hid (Ar W0 (w.heap.size + 1 + 1) 42 .u8 Z) := HW.out.2.2.1
  have F0 : Hid (Fr (fun _ => False) w W0) := HW.out.2.2.2
  clear hW HW
  go_wp2_with (first
    | (go_at_call 33; refine (C1 _).mono ?_; rintro e w' ⟨rfl, hf⟩; replace X2 : Hid (Ar w' (w.heap.size + 1 + 1) 42 .u8 Z) := X2.out.fr hf (fun x => x); replace F0 : Hid (Fr (fun _ => False) w w') := F0.out.trans hf; clear hf)
    | (go_at_call 34; refine (C2 _).mono ?_; rintro e w' ⟨rfl, hf⟩; replace X2 : Hid (Ar w' (w.heap.size + 1 + 1) 42 .u8 Z) := X2.out.fr hf (fun x => x); replace F0 : Hid (Fr (fun _ => False) w w') := F0.out.trans hf; clear hf)
    | refine wpList_load_row rfl 28 (.tmp 3) rfl (w.heap.size) rfl 28 (vs .u8 k) (0, 0) _ X0.out Try.underlying28 rfl ik.out ?_
    | refine wpList_load_row rfl 22 (.tmp 5) rfl (w.heap.size + 1) rfl 22 (vs .u8 n) (0, 0) _ X1.out Try.underlying22 rfl iN.out ?_
    | refine wpList_store_row rfl 42 (.tmp 6) (.tmp 11) rfl (w.heap.size + 1 + 1) (vs .u8 B) rfl rfl 42 _ X2.out iB.out ez.out (vs_all _ _) ?_)
  refine bodyPost_ret (results_cell_row Try.results23 _ _ _ 42 _ (0, 0) _ rfl (setRow_heap _ _ _ _ _ _ X2.out) Try.underlying42 rfl iB.out) rfl ⟨by rw [HB.out], F0.out.setRow _ (.inr (by omega))⟩
end Go.Proofs.Ytbafppdmlhogbaa
