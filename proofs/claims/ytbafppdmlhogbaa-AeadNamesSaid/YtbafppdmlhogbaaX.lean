/- Xor: contracts. Conditions: a key of 32 bytes, a word, a nonce of 12 bytes, a slice that lies in memory. -/
import Derived.Test.YtbafppdmlhogbaaBl
import Derived.Test.YtbafppdmlhogbaaK
import Derived.StillTailTactics
namespace Go.Proofs.Ytbafppdmlhogbaa
set_option linter.unusedSimpArgs false
set_option linter.unusedVariables false
open Go.RowKit

def x8 (p q : Int) : Int := bits .xor .u8 p q
/-- The byte of the stream at a place. -/
def ks (k : List Int) (c : Int) (n : List Int) (j : Nat) : Int := (bk64 k (sm c ((j / 64 : Nat) : Int)) n).getD (j % 64) 0
/-- Bytes, xored with the stream. -/
def xo (k : List Int) (c : Int) (n : List Int) (b : List Int) : List Int := (List.range b.length).map fun j => x8 (b.getD j 0) (ks k c n j)
theorem xo_length (k : List Int) (c : Int) (n b : List Int) : (xo k c n b).length = b.length := by simp [xo]
theorem xo_get {k : List Int} {c : Int} {n b : List Int} {j : Nat} (h : j < b.length) : (xo k c n b)[j]? = some (x8 (b.getD j 0) (ks k c n j)) := by simp [xo, h]
theorem ks_at (k : List Int) (c : Int) (n : List Int) (q i : Nat) (hi : i < 64) : ks k c n (64 * q + i) = (bk64 k (sm c q) n).getD i 0 := by
  unfold ks
  rw [show (64 * q + i) / 64 = q by omega, show (64 * q + i) % 64 = i by omega]
theorem st_set {k n : List Int} {c d : Int} (hk : k.length = 32) : (st k c n).set 12 d = st k d n := by
  have h1 := ws_length 8 k (by omega)
  unfold st
  simp only [List.set_cons_succ]
  rw [List.set_append_right _ _ (by omega), h1]
  rfl
theorem sm_succ (c : Int) (q : Nat) : IntKind.u32.wrap (sm c q + 1) = sm c ((q + 1 : Nat) : Int) := by
  rw [wrap32]
  unfold sm
  omega
theorem sm_zero {c : Int} (h : Wd c) : sm c ((0 : Nat) : Int) = c := by
  unfold Wd at h
  unfold sm
  omega
set_option maxRecDepth 100000 in
set_option maxHeartbeats 4000000 in
theorem xor_no (k : List Int) (c : Int) (n : List Int) (A : Option Addr) (m cap : Nat) (w : World) (hc : Wd c) (hm : m ≤ 140737488355328) (hlim : (4294967296 - c) * 64 < m) :
    Calls Try.prog 22 #[.agg (vs .u8 k), .int .u32 c, .agg (vs .u8 n), .slice A m cap] w fun e w' => e = .returned (.tuple #[.slice none 0 0, .int .i64 5]) ∧ Fr (fun _ => False) w w' := by
  have h0 := hc.1
  have h1 := hc.2
  have v0 : IntKind.i64.wrap c = c := by rw [IntKind.wrap_i64]; omega
  have v1 : IntKind.i64.wrap (4294967296 - c) = 4294967296 - c := by rw [IntKind.wrap_i64]; omega
  have v2 : IntKind.i64.wrap ((4294967296 - c) * 64) = (4294967296 - c) * 64 := by rw [IntKind.wrap_i64]; omega
  have hd : decide ((4294967296 - c) * 64 < (m : Int)) = true := decide_eq_true hlim
  go_enter Try.func22, Try.ntmps22
  go_wp2
  go_ret2
  exact ⟨rfl, ((Fr.refl _ _).alloc _).alloc _⟩

set_option maxRecDepth 100000 in
set_option maxHeartbeats 16000000 in
theorem xor_yes (k : List Int) (c : Int) (n : List Int) (gb : Nat) (A : Option Addr) (m cap : Nat) (l : List Int) (w : World) (hk : k.length = 32) (bk : Bys k) (hc : Wd c) (hn : n.length = 12) (bn : Bys n)
    (hs : Sl w gb (.slice A m cap) l) (hm : m ≤ 140737488355328) (hlim : (m : Int) ≤ (4294967296 - c) * 64) (hgb : 0 < m → gb < w.heap.size) :
    Calls Try.prog 22 #[.agg (vs .u8 k), .int .u32 c, .agg (vs .u8 n), .slice A m cap] w fun e w' => e = .returned (.tuple #[.slice (some ⟨w.heap.size + 1 + 1, 0, none⟩) m m, .int .i64 0]) ∧ Ar w' (w.heap.size + 1 + 1) 5 .u8 (xo k c n l) ∧ Fr (fun _ => False) w w' := by
  have hl := hs.len
  obtain ⟨X, hX⟩ : ∃ X, X = xo k c n l := ⟨_, rfl⟩
  have HX1 : Hid (X.length = m) := by show _ = _; rw [hX, xo_length, hl]
  have HX0 : Unit → X = xo k c n l := fun _ => hX
  have HS := Lib.hid hs
  have HL := Lib.hid hl
  have HG := Lib.hid hgb
  have h0 := hc.1
  have h1 := hc.2
  have HA := Lib.hid (And.intro hk (And.intro bk (And.intro hc (And.intro hn bn))))
  have v0 : IntKind.i64.wrap c = c := by rw [IntKind.wrap_i64]; omega
  have v1 : IntKind.i64.wrap (4294967296 - c) = 4294967296 - c := by rw [IntKind.wrap_i64]; omega
  have v2 : IntKind.i64.wrap ((4294967296 - c) * 64) = (4294967296 - c) * 64 := by rw [IntKind.wrap_i64]; omega
  have hd : decide ((4294967296 - c) * 64 < (m : Int)) = false := decide_eq_false (by omega)
  have hmk := run_mk m hm
  have ik : Hid ((Try.prog.info? 28).map (·.size) = some (vs .u8 k).size) := by show _ = _; rw [size28, vs_size, hk]
  have iN : Hid ((Try.prog.info? 22).map (·.size) = some (vs .u8 n).size) := by show _ = _; rw [size29, vs_size, hn]
  obtain ⟨S, hS⟩ : ∃ S, S = st k (sm c ((0 : Nat) : Int)) n := ⟨_, rfl⟩
  have C1 : ∀ W, Calls Try.prog 33 #[.agg (vs .u8 k), .int .u32 c, .agg (vs .u8 n)] W fun e w' => e = .returned (.agg (vs .u32 S)) ∧ Fr (fun _ => False) W w' := fun W => by rw [hS, sm_zero hc]; exact start_is k c n W hk bk hn bn
  have HS0 : Unit → S = st k (sm c ((0 : Nat) : Int)) n := fun _ => hS
  have lS : S.length = 16 := by rw [hS]; exact st_length hk hn
  obtain ⟨Z, hZ⟩ : ∃ Z, Z = List.replicate 16 (0 : Int) := ⟨_, rfl⟩
  have hz2 : ∀ W : World, (zeroValue 57).run Try.prog W = .ok (.agg (vs .u32 Z)) W := fun W => by rw [hZ]; kernel_rfl
  have hez : Hid ((vs .u32 Z).size = (vs .u32 S).size) := by show _ = _; rw [vs_size, vs_size, lS, hZ]; rfl
  have iS : Hid ((Try.prog.info? 57).map (·.size) = some (vs .u32 S).size) := by show _ = _; rw [size16, vs_size, lS]
  clear hk bk hn bn hs hl hX hS lS hZ hgb
  go_enter Try.func22, Try.ntmps22
  go_upto_region 4 with (fail)
  generalize hW : ((w.alloc (.cells (vs .u8 k) 28)).alloc (.cells (vs .u8 n) 22)).alloc (.cells (Array.replicate m (Value.int .u8 0)) 5) = W0
  have HW := Lib.hid (calm3 hW)
  have K0 := Lib.hid HW.out.1
  have N0 := Lib.hid HW.out.2.1
  have O0 : Hid (Ar W0 (w.heap.size + 1 + 1) 5 .u8 (fil X 0 0)) := by
    have h := HW.out.2.2.1
    show _ = _
    rw [fil_zero, HX1.out]
    simpa [vs] using h
  have F0 : Hid (Fr (fun _ => False) w W0) := HW.out.2.2.2
  clear hW HW hmk
  try simp only [Act.put, List.setIfInBounds_toArray, List.set_cons_succ, List.set_cons_zero]
  go_upto_region 5 with (first
    | (go_at_call 33; refine (C1 _).mono ?_; rintro e w1 ⟨rfl, hf⟩; replace O0 : Hid (Ar w1 (w.heap.size + 1 + 1) 5 .u8 (fil X 0 0)) := O0.out.fr hf (fun x => x); replace F0 : Hid (Fr (fun _ => False) w w1) := F0.out.trans hf; clear hf)
    | refine wpList_load_row rfl 28 (.tmp 4) rfl (w.heap.size) rfl 28 (vs .u8 k) (0, 0) _ K0.out Try.underlying28 rfl ik.out ?_
    | refine wpList_load_row rfl 22 (.tmp 6) rfl (w.heap.size + 1) rfl 22 (vs .u8 n) (0, 0) _ N0.out Try.underlying22 rfl iN.out ?_
    | refine wpList_store_row rfl 57 (.tmp 11) (.tmp 28) rfl w1.heap.size (vs .u32 S) rfl rfl 57 (vs .u32 Z) (heap_alloc_new w1 (.cells (vs .u32 Z) 57)) iS.out hez.out (vs_all _ _) ?_)
  obtain ⟨sq, hsq⟩ : ∃ q, q = w1.heap.size := ⟨_, rfl⟩
  have hq0 : w.heap.size + 1 + 1 < sq := by rw [hsq]; exact O0.out.lt
  have O1 : Hid (Ar ((w1.alloc (.cells (vs .u32 Z) 57)).setRow w1.heap.size (vs .u32 S)) (w.heap.size + 1 + 1) 5 .u8 (fil X 0 0)) := (O0.out.alloc _).rowFar (by omega) _
  have S1 : Hid (Ar ((w1.alloc (.cells (vs .u32 Z) 57)).setRow w1.heap.size (vs .u32 S)) sq 57 .u32 (st k (sm c ((0 : Nat) : Int)) n)) := by rw [hsq, ← HS0 ()]; exact (Ar.new w1 57 .u32 Z).row S
  have F1 : Hid (Fr (fun _ => False) w ((w1.alloc (.cells (vs .u32 Z) 57)).setRow w1.heap.size (vs .u32 S))) := (F0.out.alloc _).setRow _ (.inr F0.out.size)
  rw [← hsq] at O1 S1 F1 ⊢
  generalize (w1.alloc (.cells (vs .u32 Z) 57)).setRow sq (vs .u32 S) = W2 at *
  have HQ := Lib.hid hq0
  clear O0 F0 hsq hq0 hez K0 N0 C1 ik iN iS hz2 HS0 hd
  try simp only [Act.put, List.setIfInBounds_toArray, List.set_cons_succ, List.set_cons_zero]
  have hz : ∀ W : World, (zeroValue 42).run Try.prog W = .ok (.agg (vs .u8 (List.replicate 64 0))) W := zero64
  obtain ⟨Y, hY⟩ : ∃ Y, Y = List.replicate 64 (0 : Int) := ⟨_, rfl⟩
  rw [← hY] at hz
  have lY : Hid ((vs .u8 Y).size = 64) := by show _ = _; rw [vs_size, hY]; rfl
  clear hY
  go_wp2
  go_loopw [12] (fun u12 wr => ∃ q : Nat, u12 = .int .i64 (64 * (q : Int)) ∧ 64 * q < m + 64 ∧ Hid (Ar wr (w.heap.size + 1 + 1) 5 .u8 (fil X (min (64 * q) m) 0)) ∧ Hid (Ar wr sq 57 .u32 (st k (sm c q) n)) ∧ Hid (Fr (fun _ => False) w wr))
    (fun u12 _ => m + 64 - (intOf u12).toNat)
  case atStart => exact ⟨0, rfl, by omega, by simpa using O1, S1, F1⟩
  case round =>
    obtain ⟨q, rfl, hq, hO, hS, hF⟩ := hrel
    by_cases hql : 64 * q < m
    · have hsl := (HS.out.fr hF.out (fun _ x => x)).at_ (by omega)
      obtain ⟨o, rfl, hcell⟩ := hsl
      have hcell := Lib.hid hcell
      have HG2 : Hid (gb < w.heap.size) := HG.out (by omega)
      obtain ⟨T, hT⟩ : ∃ T, T = st k (sm c q) n := ⟨_, rfl⟩
      obtain ⟨K, hK⟩ : ∃ K, K = bk64 k (sm c q) n := ⟨_, rfl⟩
      have wT := st_wds (k := k) (c := sm c q) (n := n) HA.out.1 HA.out.2.1 (sm_wd _ _) HA.out.2.2.2.1 HA.out.2.2.2.2
      have lT : T.length = 16 := by rw [hT]; exact st_length HA.out.1 HA.out.2.2.2.1
      have lK : K.length = 64 := by rw [hK]; exact bk64_length HA.out.1 HA.out.2.1 (sm_wd _ _) HA.out.2.2.2.1 HA.out.2.2.2.2
      have CB : ∀ W, Calls Try.prog 34 #[.agg (vs .u32 T)] W fun e w' => e = .returned (.agg (vs .u8 K)) ∧ Fr (fun _ => False) W w' := fun W => by
        rw [hK]
        have h := block_is T W lT (by rw [hT]; exact wT)
        rw [hT] at h ⊢
        exact h
      rw [← hT] at hS
      have hnext : Unit → T.set 12 (sm c ((q + 1 : Nat) : Int)) = st k (sm c ((q + 1 : Nat) : Int)) n := fun _ => by rw [hT]; exact st_set HA.out.1
      have t12 : T[12]? = some (sm c q) := by rw [hT]; exact st_ctr HA.out.1
      have iT : Hid ((Try.prog.info? 57).map (·.size) = some (vs .u32 T).size) := by show _ = _; rw [size16, vs_size, lT]
      have iK : Hid ((Try.prog.info? 42).map (·.size) = some (vs .u8 K).size) := by show _ = _; rw [size64, vs_size, lK]
      have eK : Hid ((vs .u8 Y).size = (vs .u8 K).size) := by show _ = _; rw [lY.out, vs_size, lK]
      have HK : Hid (K.length = 64) := lK
      have HKX : Unit → ∀ i, i < 64 → 64 * q + i < m → X[64 * q + i]? = some (x8 (l.getD (64 * q + i) 0) (K.getD i 0)) := fun _ i hi hj => by
        rw [HX0 (), xo_get (by rw [HL.out]; exact hj), ks_at _ _ _ _ _ hi, hK]
      have HT12 := Lib.hid t12
      clear hT hK wT lT lK t12
      go_upto_region 9 with (first
        | (go_at_call 34; refine (CB _).mono ?_; rintro e w3 ⟨rfl, hf⟩; replace hO : Hid (Ar w3 (w.heap.size + 1 + 1) 5 .u8 (fil X (min (64 * q) m) 0)) := hO.out.fr hf (fun x => x); replace hS : Hid (Ar w3 sq 57 .u32 T) := hS.out.fr hf (fun x => x); replace hF : Hid (Fr (fun _ => False) w w3) := hF.out.trans hf; clear hf)
        | refine wpList_load_row rfl 57 (.tmp 11) rfl sq rfl 57 (vs .u32 T) (0, 0) _ hS.out Try.underlying57 rfl iT.out ?_
        | refine wpList_store_row rfl 42 (.tmp 13) (.tmp 36) rfl w3.heap.size (vs .u8 K) rfl rfl 42 (vs .u8 Y) (heap_alloc_new w3 (.cells (vs .u8 Y) 42)) iK.out eK.out (vs_all _ _) ?_)
      obtain ⟨bq, hbq⟩ : ∃ q, q = w3.heap.size := ⟨_, rfl⟩
      have hq1 : sq < bq := by rw [hbq]; exact hS.out.lt
      have O3 : Hid (Ar ((w3.alloc (.cells (vs .u8 Y) 42)).setRow w3.heap.size (vs .u8 K)) (w.heap.size + 1 + 1) 5 .u8 (fil X (min (64 * q) m) 0)) := (hO.out.alloc _).rowFar (by have := HQ.out; omega) _
      have S3 : Hid (Ar ((w3.alloc (.cells (vs .u8 Y) 42)).setRow w3.heap.size (vs .u8 K)) sq 57 .u32 T) := (hS.out.alloc _).rowFar (by omega) _
      have B3 : Hid (Ar ((w3.alloc (.cells (vs .u8 Y) 42)).setRow w3.heap.size (vs .u8 K)) bq 42 .u8 K) := by rw [hbq]; exact (Ar.new w3 42 .u8 Y).row K
      have F3 : Hid (Fr (fun _ => False) w ((w3.alloc (.cells (vs .u8 Y) 42)).setRow w3.heap.size (vs .u8 K))) := (hF.out.alloc _).setRow _ (.inr hF.out.size)
      rw [← hbq] at O3 S3 B3 F3 ⊢
      generalize (w3.alloc (.cells (vs .u8 Y) 42)).setRow bq (vs .u8 K) = W4 at *
      have HQ1 := Lib.hid hq1
      clear hO hS hF hbq hq1 CB iT iK eK hcell
      try simp only [Act.put, List.setIfInBounds_toArray, List.set_cons_succ, List.set_cons_zero]
      obtain ⟨M, hM⟩ : ∃ M, M = min 64 (m - 64 * q) := ⟨_, rfl⟩
      have u1 : IntKind.i64.wrap ((m : Int) - 64 * (q : Int)) = (m : Int) - 64 * (q : Int) := by rw [IntKind.wrap_i64]; omega
      have u2 : (if (m : Int) - 64 * (q : Int) < 64 then (m : Int) - 64 * (q : Int) else 64) = (M : Int) := by
        rw [hM]
        split <;> omega
      have HM := Lib.hid hM
      have O4 : Hid (Ar W4 (w.heap.size + 1 + 1) 5 .u8 (fil X (64 * q + 0) 0)) := by
        have h := O3.out
        rw [Nat.min_eq_left (by omega)] at h
        exact h
      clear hM O3
      go_wp2
      try generalize decide (64 * (q : Int) < (m : Int)) = bz
      clear u1 u2
      go_loopw [14, 42] (fun u14 u42 wr => ∃ i : Nat, u42 = .int .i64 i ∧ i ≤ M ∧ Hid (Ar wr (w.heap.size + 1 + 1) 5 .u8 (fil X (64 * q + i) 0)) ∧ Hid (Ar wr sq 57 .u32 T) ∧ Hid (Ar wr bq 42 .u8 K) ∧ Hid (Fr (fun _ => False) w wr))
        (fun _ u42 _ => M - (intOf u42).toNat)
      case atStart => exact ⟨0, rfl, by omega, O4, S3, B3, F3⟩
      case round =>
        obtain ⟨i, rfl, hi, hO, hS, hB, hF⟩ := hrel
        by_cases hil : i < M
        · have i64' : i < 64 := by have := HM.out; omega
          have im : 64 * q + i < m := by have := HM.out; omega
          have hcell := ((HS.out.fr hF.out (fun _ x => x)).at_ (by omega))
          obtain ⟨o', ho', hcell⟩ := hcell
          injection ho' with ho'
          injection ho' with _ ho'
          subst ho'
          have hc1 := hcell (64 * q + i) im
          have hX := HKX () i i64' im
          obtain ⟨p, hp⟩ : ∃ p, l.getD (64 * q + i) 0 = p := ⟨_, rfl⟩
          obtain ⟨r, hr⟩ : ∃ r, K.getD i 0 = r := ⟨_, rfl⟩
          have gr := getD_some (l := K) (i := i) (by rw [HK.out]; exact i64')
          rw [hr] at gr hX
          rw [hp] at hX hc1
          obtain ⟨y, hy⟩ : ∃ y, x8 p r = y := ⟨_, rfl⟩
          rw [hy] at hX
          have hxr : bits .xor .u8 p r = y := hy
          have kr := Ar.cell hB.out gr
          have co := Ar.cell hO.out (fil_get X (64 * q + i) 0 (by rw [HX1.out]; exact im))
          have fo := Ar.frozen hO.out (64 * q + i)
          have O5 : Hid (Ar (wr.drew.setCell ⟨(w.heap.size + 1 + 1), 64 * q + i, none⟩ (.int .u8 y)) (w.heap.size + 1 + 1) 5 .u8 (fil X (64 * q + (i + 1)) 0)) := by
            show Ar _ _ _ _ (fil X (64 * q + i + 1) 0)
            rw [← fil_set X (64 * q + i) 0 _ hX]
            exact Ar.set (w := wr.drew) hO.out (64 * q + i) y
          have j0 : IntKind.i64.wrap (64 * (q : Int) + (i : Int)) = 64 * q + i := by rw [IntKind.wrap_i64]; omega
          have j1 : (64 * (q : Int) + (i : Int)).toNat = 64 * q + i := by omega
          have j2 : 0 ≤ 64 * (q : Int) + (i : Int) := by omega
          have j3 : 64 * (q : Int) + (i : Int) < m := by omega
          have j4 : (i : Int) < 64 := by omega
          have j5 : ((i : Int)).toNat = i := by omega
          have j6 : 0 ≤ (i : Int) := by omega
          have HI := Lib.hid (And.intro i64' im)
          clear hX hp hr gr hy hcell hO i64' im
          go_upto_region 12 with (fail)
          refine wp_region_still_tail 15 (by kernel_rfl) (by kernel_rfl) ?_
          simp only [List.take_succ_cons, List.take_zero, List.drop_succ_cons, List.drop_zero]
          iterate 15 still_step
          refine wpStill_nil ?_
          change wpList _ _ _ _ _ wr.drew
          replace hS : Hid (Ar wr.drew sq 57 .u32 T) := hS
          replace hB : Hid (Ar wr.drew bq 42 .u8 K) := hB
          replace hF : Hid (Fr (fun _ => False) w wr.drew) := hF.out.drew
          replace co : wr.drew.cell? _ = _ := co
          replace fo : wr.drew.frozen? _ = _ := fo
          clear kr hc1
          generalize wr.drew = w5 at *
          go_wp2
          go_roundw
          case rel => exact ⟨i + 1, by go_num, by omega, O5, hS.out.far (by simp <;> have := HQ.out <;> omega) _, hB.out.far (by simp <;> have := HQ.out <;> have := HQ1.out <;> omega) _, hF.out.setCell _ (.inr (by simp <;> omega))⟩
          case measure => simp [intOf]; omega
        · have hM2 : i = M := by omega
          have O5 : Hid (Ar wr (w.heap.size + 1 + 1) 5 .u8 (fil X (min (64 * (q + 1)) m) 0)) := by
            have e : min (64 * (q + 1)) m = 64 * q + i := by have := HM.out; omega
            show _
            rw [e]
            exact hO.out
          have cs := Ar.cell hS.out HT12.out
          have fs := Ar.frozen hS.out 12
          have ew := sm_succ c q
          have S5 := Lib.hid (hS.out.set 12 (sm c ((q + 1 : Nat) : Int)))
          rw [hnext ()] at S5
          obtain ⟨d, hd⟩ : ∃ d, sm c ((q + 1 : Nat) : Int) = d := ⟨_, rfl⟩
          obtain ⟨d0, hd0⟩ : ∃ d, sm c (q : Int) = d := ⟨_, rfl⟩
          rw [hd] at S5
          rw [hd, hd0] at ew
          rw [hd0] at cs
          have HD : Unit → sm c ((q + 1 : Nat) : Int) = d := fun _ => hd
          have v9 : IntKind.i64.wrap (64 * (q : Int) + 64) = 64 * q + 64 := by rw [IntKind.wrap_i64]; omega
          clear hM2 hO hS hB hd hd0
          go_wp2
          go_roundw
          case rel => exact ⟨q + 1, by first | rfl | (congr 1; omega), by omega, O5.out.far (by simp <;> have := HQ.out <;> omega) _, by rw [HD ()]; exact S5, hF.out.setCell _ (.inr (by simp <;> have := HQ.out <;> omega))⟩
          case measure => simp [intOf]; omega
    · have O5 : Hid (Ar wr (w.heap.size + 1 + 1) 5 .u8 X) := by
        have h := hO.out
        have e := fil_all X (0 : Int)
        rw [HX1.out] at e
        rwa [Nat.min_eq_right (by omega), e] at h
      clear hO hS
      go_wp2
      go_ret2
      exact ⟨rfl, by rw [← HX0 ()]; exact O5.out, hF.out⟩
end Go.Proofs.Ytbafppdmlhogbaa
