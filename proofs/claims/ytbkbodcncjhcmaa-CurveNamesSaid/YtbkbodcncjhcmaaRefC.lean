/- The reference's Bytes: the 32 bytes of a number, below p. Its condition: digits. -/
import Derived.Test.YtbkbodcncjhcmaaRefB
namespace Go.Proofs.Ytbkbodcncjhcmaa
open Go.RowKit

/-- Two bytes of each digit. -/
def twos : List Int → List Int
  | [] => []
  | d :: r => d % 256 :: d / 256 :: twos r
theorem twos_length (y : List Int) : (twos y).length = 2 * y.length := by
  induction y with
  | nil => rfl
  | cons d r ih => simp [twos, ih]; omega
theorem twos_get (y : List Int) (k : Nat) (x : Int) (h : y[k]? = some x) : (twos y)[2 * k]? = some (x % 256) ∧ (twos y)[2 * k + 1]? = some (x / 256) := by
  induction y generalizing k with
  | nil => simp at h
  | cons d r ih =>
    cases k with
    | zero => simp at h; subst h; exact ⟨rfl, rfl⟩
    | succ k =>
      obtain ⟨h1, h2⟩ := ih k (by simpa using h)
      exact ⟨h1, h2⟩
theorem twos_bys (y : List Int) (h : Digs y) : Bys (twos y) := by
  induction y with
  | nil => intro b hb; cases hb
  | cons d r ih =>
    have h1 := h d (by simp)
    intro b hb
    simp only [twos, List.mem_cons] at hb
    rcases hb with rfl | rfl | hb
    · omega
    · omega
    · exact ih (fun x hx => h x (by simp [hx])) b hb
theorem twos_val (y : List Int) : vl (twos y) = vd y := by
  induction y with
  | nil => rfl
  | cons d r ih => simp only [twos, vl, vd, ih]; omega
theorem i64_and255 (n : Int) : bits .and .i64 n 255 = n % 256 := by
  have h127 : (BitVec.ofInt 64 255).toNat = 2 ^ 8 - 1 := by decide
  have key : (BitVec.ofInt 64 n &&& BitVec.ofInt 64 255).toNat = (n % ((2 ^ 64 : Nat) : Int)).toNat % 2 ^ 8 := by
    rw [BitVec.toNat_and, BitVec.toNat_ofInt, h127, Nat.and_two_pow_sub_one_eq_mod]
  show IntKind.i64.wrap ((BitVec.ofInt 64 n &&& BitVec.ofInt 64 255).toNat : Nat) = n % 256
  rw [key, IntKind.wrap_i64]
  omega
/-- The number that the bytes of a block are. -/
def blk (w : World) (g : Nat) : Int := match w.heap[g]? with
  | some (.cells cs _ _) => vl (cs.toList.map intOf)
  | _ => 0
theorem blk_ar {w : World} {g : Nat} {t : TypeId} {k : IntKind} {l : List Int} (h : Ar w g t k l) : blk w g = vl l := by
  unfold blk
  rw [h]
  simp [vs, intOf, Function.comp_def]

set_option maxHeartbeats 4000000 in
theorem rbytes_is (y : List Int) (v : Int) (w : World) (hy : NumOf y v) :
    Calls Try.prog 33 #[nm y] w fun e w' => e = .returned (by32 v) ∧ Fr (fun _ => False) w w' := by
  obtain ⟨D, hD⟩ : ∃ D, D = twos y := ⟨_, rfl⟩
  have hlen : Hid (D.length = 32) := by show _ = _; rw [hD, twos_length, hy.len]
  have HD := Lib.hid hD
  have HY := Lib.hid hy
  have hz : ∀ W : World, (zeroValue 22).run Try.prog W = .ok (.agg (vs .u8 (fil D 0 0))) W := fun W => by
    rw [fil_zero, hlen.out]
    kernel_rfl
  clear hD hy
  unfold nm
  go_enter Try.func33, Try.ntmps33
  go_wp2
  go_loopw [4] (fun u4 wr => ∃ k : Nat, u4 = .int .i64 k ∧ k ≤ 16 ∧ Hid (Ar wr w.heap.size 49 .i64 y) ∧ Hid (Ar wr (w.heap.size + 1) 22 .u8 (fil D 0 0)) ∧ Hid (Ar wr (w.heap.size + 1 + 1) 22 .u8 (fil D (2 * k) 0)) ∧ Hid (Fr (fun _ => False) w wr))
    (fun u4 _ => 16 - (intOf u4).toNat)
  case atStart =>
    have e := alloc3 w (.cells (vs .i64 y) 49) (.cells (vs .u8 (fil D 0 0)) 22) (.cells (vs .u8 (fil D 0 0)) 22)
    exact ⟨0, rfl, by omega, e.1, e.2.1, e.2.2, (((Fr.refl _ _).alloc _).alloc _).alloc _⟩
  case round =>
    obtain ⟨k, rfl, hk, hA, hR, hB, hF⟩ := hrel
    by_cases hlt : k < 16
    · obtain ⟨x, hx⟩ : ∃ x, x = y.getD k 0 := ⟨_, rfl⟩
      have gx := getD_some (l := y) (i := k) (by rw [HY.out.len]; exact hlt)
      rw [← hx] at gx
      have hxb := HY.out.digs x (List.mem_of_getElem? gx)
      obtain ⟨g1, g2⟩ := twos_get y k x gx
      rw [← HD.out] at g1 g2
      have cx := hA.out.cell gx
      have c1 := hB.out.cell (fil_get D (2 * k) 0 (by rw [hlen.out]; omega))
      have f1 := hB.out.frozen (2 * k)
      have hB1 := hB.out.set (2 * k) (x % 256)
      rw [fil_set D (2 * k) 0 _ g1] at hB1
      have c2 := hB1.cell (fil_get D (2 * k + 1) 0 (by rw [hlen.out]; omega))
      have f2 := hB1.frozen (2 * k + 1)
      have HB2 : Hid (Ar ((wr.setCell ⟨w.heap.size + 1 + 1, 2 * k, none⟩ (.int .u8 (x % 256))).setCell ⟨w.heap.size + 1 + 1, 2 * k + 1, none⟩ (.int .u8 (x / 256))) (w.heap.size + 1 + 1) 22 .u8 (fil D (2 * (k + 1)) 0)) := by
        have := hB1.set (2 * k + 1) (x / 256)
        rw [fil_set D (2 * k + 1) 0 _ g2] at this
        exact this
      have x0 := hxb.1
      have x1 := hxb.2
      have hand := i64_and255 x
      have t1 : (2 * (k : Int)).toNat = 2 * k := by omega
      have t2 : (2 * (k : Int) + 1).toNat = 2 * k + 1 := by omega
      have s0 : 0 ≤ 2 * (k : Int) := by omega
      have s1 : 2 * (k : Int) < 32 := by omega
      have s2 : 2 * (k : Int) + 1 < 32 := by omega
      clear hx gx hxb g1 g2 hB1
      go_wp2
      go_roundw
      case rel =>
        refine ⟨k + 1, by go_num, by omega, (hA.out.far (by simp <;> omega) _).far (by simp <;> omega) _, (hR.out.far (by simp) _).far (by simp) _, HB2, (hF.out.setCell _ (.inr (by simp <;> omega))).setCell _ (.inr (by simp <;> omega))⟩
      case measure => simp [intOf]; omega
    · obtain rfl : k = 16 := by omega
      have hB' : Hid (Ar wr (w.heap.size + 1 + 1) 22 .u8 D) := by
        have := hB.out
        have e := fil_all D (0 : Int)
        rw [hlen.out] at e
        rwa [e] at this
      go_wp2_with fail
      refine (prime_is _).mono ?_
      rintro e w1 ⟨rfl, hf1⟩
      have A1 : Hid (Ar w1 (w.heap.size + 1) 22 .u8 (fil D 0 0)) := hR.out.fr hf1 (fun x => x)
      have B1 : Hid (Ar w1 (w.heap.size + 1 + 1) 22 .u8 D) := hB'.out.fr hf1 (fun x => x)
      have F1 : Hid (Fr (fun _ => False) w w1) := hF.out.trans hf1
      have hs1 : w.heap.size + 1 + 1 < w1.heap.size := B1.out.lt
      clear hf1
      rw [by32_eq]
      go_wp2_with (refine wpList_store_row rfl 22 (.tmp 5) (.tmp 27) rfl w1.heap.size (vs .u8 (lb 32 pp)) rfl rfl 22 (vs .u8 (fil D 0 0)) ?c1 ?c2 ?c3 (vs_all _ _) ?_)
      case c1 => exact heap_alloc_new w1 _
      case c2 => show _ = _; rw [size22, vs_size, lb_length]
      case c3 => rw [vs_size, vs_size, lb_length, fil_length D 0 0 (by omega), hlen.out]
      have P2 : Hid (Ar ((w1.alloc (.cells (vs .u8 (fil D 0 0)) 22)).setRow w1.heap.size (vs .u8 (lb 32 pp))) w1.heap.size 22 .u8 (lb 32 pp)) := (Ar.new w1 22 .u8 (fil D 0 0)).row _
      have A2 : Hid (Ar ((w1.alloc (.cells (vs .u8 (fil D 0 0)) 22)).setRow w1.heap.size (vs .u8 (lb 32 pp))) (w.heap.size + 1) 22 .u8 (fil D 0 0)) := (A1.out.alloc _).rowFar (by omega) _
      have B2 : Hid (Ar ((w1.alloc (.cells (vs .u8 (fil D 0 0)) 22)).setRow w1.heap.size (vs .u8 (lb 32 pp))) (w.heap.size + 1 + 1) 22 .u8 (lb 32 (vd y))) := by
        have h := (B1.out.alloc (.cells (vs .u8 (fil D 0 0)) 22)).rowFar (by omega : w.heap.size + 1 + 1 ≠ w1.heap.size) (vs .u8 (lb 32 pp))
        have e : D = lb 32 (vd y) := by
          have := lb_vl (twos y) (twos_bys y HY.out.digs)
          rw [twos_val, twos_length, HY.out.len] at this
          rw [HD.out, this]
        rwa [← e]
      have F2 : Hid (Fr (fun _ => False) w ((w1.alloc (.cells (vs .u8 (fil D 0 0)) 22)).setRow w1.heap.size (vs .u8 (lb 32 pp)))) := Fr.setRow (F1.out.alloc _) _ (.inr (by omega))
      obtain ⟨w2, hw2⟩ : ∃ w2, w2 = ((w1.alloc (.cells (vs .u8 (fil D 0 0)) 22)).setRow w1.heap.size (vs .u8 (lb 32 pp))) := ⟨_, rfl⟩
      obtain ⟨q, hq⟩ : ∃ q, q = w1.heap.size := ⟨_, rfl⟩
      rw [← hw2] at P2 A2 B2 F2 ⊢
      rw [← hq] at P2 hs1 ⊢
      clear hw2 hq A1 B1 F1 hz
      simp only [Act.put]
      go_loopw [28] (fun u28 wi => ∃ x : Int, Hid (0 ≤ x ∧ x < pw ∧ x % pp = v) ∧ Hid (Ar wi q 22 .u8 (lb 32 pp)) ∧ Hid (Ar wi (w.heap.size + 1) 22 .u8 (fil D 0 0)) ∧ Hid (Ar wi (w.heap.size + 1 + 1) 22 .u8 (lb 32 x)) ∧ Hid (Fr (fun _ => False) w wi))
        (fun _ wi => (blk wi (w.heap.size + 1 + 1)).toNat)
      case atStart =>
        have h1 := vd_bd y HY.out.digs
        rw [HY.out.len] at h1
        exact ⟨vd y, ⟨h1.1, h1.2, HY.out.val⟩, P2, A2, B2, F2⟩
      case round =>
        obtain ⟨x, hx, hP, hA2, hB2, hF2⟩ := hrel
        have hvx : vl (lb 32 x) = x := by
          rw [vl_lb, p256_4]
          exact Int.emod_eq_of_lt hx.out.1 hx.out.2.1
        have hvp : vl (lb 32 pp) = pp := by
          rw [vl_lb, p256_4]
          exact Int.emod_eq_of_lt (by decide) (by decide)
        by_cases hlt2 : x < pp
        · have C : ∀ W, Calls Try.prog 45 #[.agg (vs .u8 (lb 32 x)), .agg (vs .u8 (lb 32 pp))] W fun e w' => e = .returned (.bool true) ∧ Fr (fun _ => False) W w' := fun W => by
            refine (less_is _ _ W (lb_length _ _) (lb_length _ _) (lb_bys _ _) (lb_bys _ _)).mono ?_
            rintro e w' ⟨rfl, h⟩
            rw [hvx, hvp, decide_eq_true hlt2]
            exact ⟨rfl, h⟩
          have hxv : Hid (v = x) := by
            obtain ⟨h0, _, h2⟩ := hx.out
            show _ = _
            rw [← h2]
            exact Int.emod_eq_of_lt h0 hlt2
          have HP1 : Hid ((Try.prog.info? 22).map (·.size) = some (vs .u8 (lb 32 pp)).size) := by show _ = _; rw [size22, vs_size, lb_length]
          have HX1 : Hid ((Try.prog.info? 22).map (·.size) = some (vs .u8 (lb 32 x)).size) := by show _ = _; rw [size22, vs_size, lb_length]
          have HX2 : Hid ((vs .u8 (fil D 0 0)).size = (vs .u8 (lb 32 x)).size) := by show _ = _; rw [vs_size, vs_size, lb_length, fil_length D 0 0 (by omega), hlen.out]
          clear hvx hvp hlt2
          go_wp2_with (first
            | refine wpList_load_row rfl 22 (.tmp 3) rfl (w.heap.size + 1 + 1) rfl 22 (vs .u8 (lb 32 x)) (0, 0) _ hB2.out Try.underlying22 rfl HX1.out ?_
            | refine wpList_load_row rfl 22 (.tmp 5) rfl q rfl 22 (vs .u8 (lb 32 pp)) (0, 0) _ hP.out Try.underlying22 rfl HP1.out ?_)
          refine (C _).mono ?_
          rintro e w3 ⟨rfl, hf3⟩
          have A3 : Hid (Ar w3 (w.heap.size + 1) 22 .u8 (fil D 0 0)) := hA2.out.fr hf3 (fun x => x)
          have B3 : Hid (Ar w3 (w.heap.size + 1 + 1) 22 .u8 (lb 32 x)) := hB2.out.fr hf3 (fun x => x)
          have F3 : Hid (Fr (fun _ => False) w w3) := hF2.out.trans hf3
          clear hf3
          go_wp2_with (first
            | refine wpList_load_row rfl 22 (.tmp 3) rfl (w.heap.size + 1 + 1) rfl 22 (vs .u8 (lb 32 x)) (0, 0) _ B3.out Try.underlying22 rfl HX1.out ?_
            | refine wpList_store_row rfl 22 (.tmp 2) (.tmp 35) rfl (w.heap.size + 1) (vs .u8 (lb 32 x)) rfl rfl 22 _ A3.out HX1.out HX2.out (vs_all _ _) ?_)
          exact bodyPost_ret (results_cell_row Try.results33 _ _ _ 22 _ (0, 0) _ rfl (A3.out.row _) Try.underlying22 rfl HX1.out) rfl ⟨by rw [hxv.out]; rfl, Fr.setRow F3.out _ (.inr (by omega))⟩
        · have C : ∀ W, Calls Try.prog 45 #[.agg (vs .u8 (lb 32 x)), .agg (vs .u8 (lb 32 pp))] W fun e w' => e = .returned (.bool false) ∧ Fr (fun _ => False) W w' := fun W => by
            refine (less_is _ _ W (lb_length _ _) (lb_length _ _) (lb_bys _ _) (lb_bys _ _)).mono ?_
            rintro e w' ⟨rfl, h⟩
            rw [hvx, hvp, decide_eq_false hlt2]
            exact ⟨rfl, h⟩
          have C2 : ∀ W, Calls Try.prog 46 #[.agg (vs .u8 (lb 32 x)), .agg (vs .u8 (lb 32 pp))] W fun e w' => e = .returned (.agg (vs .u8 (lb 32 (x - pp)))) ∧ Fr (fun _ => False) W w' := fun W => by
            refine (minus_is _ _ W (lb_length _ _) (lb_length _ _) (lb_bys _ _) (lb_bys _ _) (by rw [hvx, hvp]; omega)).mono ?_
            rintro e w' ⟨rfl, h⟩
            rw [hvx, hvp]
            exact ⟨rfl, h⟩
          have HE : Hid (0 ≤ x - pp ∧ x - pp < pw ∧ (x - pp) % pp = v) := by
            obtain ⟨h0, h1, h2⟩ := hx.out
            refine ⟨by omega, by unfold pp at *; omega, ?_⟩
            rw [← h2, Int.sub_emod_right]
          have HM : Hid (vl (lb 32 (x - pp)) = x - pp ∧ vl (lb 32 x) = x ∧ 0 ≤ x - pp) := by
            refine ⟨?_, hvx, HE.out.1⟩
            rw [vl_lb, p256_4]
            exact Int.emod_eq_of_lt HE.out.1 HE.out.2.1
          have HP1 : Hid ((Try.prog.info? 22).map (·.size) = some (vs .u8 (lb 32 pp)).size) := by show _ = _; rw [size22, vs_size, lb_length]
          have HX1 : Hid ((Try.prog.info? 22).map (·.size) = some (vs .u8 (lb 32 x)).size) := by show _ = _; rw [size22, vs_size, lb_length]
          have HX3 : Hid ((Try.prog.info? 22).map (·.size) = some (vs .u8 (lb 32 (x - pp))).size) := by show _ = _; rw [size22, vs_size, lb_length]
          have HX4 : Hid ((vs .u8 (lb 32 x)).size = (vs .u8 (lb 32 (x - pp))).size) := by show _ = _; rw [vs_size, vs_size, lb_length, lb_length]
          have hne : Hid (w.heap.size + 1 ≠ w.heap.size + 1 + 1 ∧ q ≠ w.heap.size + 1 + 1) := ⟨by omega, by omega⟩
          clear hvx hvp hlt2
          go_wp2_with (first
            | refine wpList_load_row rfl 22 (.tmp 3) rfl (w.heap.size + 1 + 1) rfl 22 (vs .u8 (lb 32 x)) (0, 0) _ hB2.out Try.underlying22 rfl HX1.out ?_
            | refine wpList_load_row rfl 22 (.tmp 5) rfl q rfl 22 (vs .u8 (lb 32 pp)) (0, 0) _ hP.out Try.underlying22 rfl HP1.out ?_)
          refine (C _).mono ?_
          rintro e w3 ⟨rfl, hf3⟩
          have A3 : Hid (Ar w3 (w.heap.size + 1) 22 .u8 (fil D 0 0)) := hA2.out.fr hf3 (fun x => x)
          have B3 : Hid (Ar w3 (w.heap.size + 1 + 1) 22 .u8 (lb 32 x)) := hB2.out.fr hf3 (fun x => x)
          have P3 : Hid (Ar w3 q 22 .u8 (lb 32 pp)) := hP.out.fr hf3 (fun x => x)
          have F3 : Hid (Fr (fun _ => False) w w3) := hF2.out.trans hf3
          clear hf3
          go_wp2_with (first
            | refine wpList_load_row rfl 22 (.tmp 3) rfl (w.heap.size + 1 + 1) rfl 22 (vs .u8 (lb 32 x)) (0, 0) _ B3.out Try.underlying22 rfl HX1.out ?_
            | refine wpList_load_row rfl 22 (.tmp 5) rfl q rfl 22 (vs .u8 (lb 32 pp)) (0, 0) _ P3.out Try.underlying22 rfl HP1.out ?_)
          refine (C2 _).mono ?_
          rintro e w4 ⟨rfl, hf3⟩
          have A4 : Hid (Ar w4 (w.heap.size + 1) 22 .u8 (fil D 0 0)) := A3.out.fr hf3 (fun x => x)
          have B4 : Hid (Ar w4 (w.heap.size + 1 + 1) 22 .u8 (lb 32 x)) := B3.out.fr hf3 (fun x => x)
          have P4 : Hid (Ar w4 q 22 .u8 (lb 32 pp)) := P3.out.fr hf3 (fun x => x)
          have F4 : Hid (Fr (fun _ => False) w w4) := F3.out.trans hf3
          clear hf3
          go_wp2_with (refine wpList_store_row rfl 22 (.tmp 3) (.tmp 34) rfl (w.heap.size + 1 + 1) (vs .u8 (lb 32 (x - pp))) rfl rfl 22 _ B4.out HX3.out HX4.out (vs_all _ _) ?_)
          simp only [Act.put]
          go_roundw
          case rel => exact ⟨x - pp, HE, P4.out.rowFar hne.out.2 _, A4.out.rowFar hne.out.1 _, B4.out.row _, Fr.setRow F4.out _ (.inr (by omega))⟩
          case measure =>
            rw [blk_ar (B4.out.row (lb 32 (x - pp))), blk_ar hB2.out, HM.out.1, HM.out.2.1]
            have := HM.out.2.2
            unfold pp at *
            omega
end Go.Proofs.Ytbkbodcncjhcmaa
