/- The reference's Xor: contracts. Conditions: a key of 32 bytes, a word, a nonce of 12 bytes, a slice that lies in memory. -/
import Derived.Test.YtbafppdmlhogbaaRb
import Derived.Test.YtbafppdmlhogbaaX
import Derived.Test.YtbafppdmlhogbaaQ
import Derived.Great.BuildSlice
namespace Go.Proofs.Ytbafppdmlhogbaa
set_option linter.unusedSimpArgs false
set_option linter.unusedVariables false
open Go.RowKit

theorem one_cell (y : Int) (j : Nat) (h : j < [y].length) : (#[Value.int .u8 y])[j]? = (bs [y])[j]? := by
  have e : j = 0 := by simp only [List.length_cons, List.length_nil] at h; omega
  subst e
  rfl
theorem fill1 {a : Act} {x : Operand} {y : Int} (hx : a.eval x = .int .u8 y) : Instr.fill (fun i => some (i * 1, 1)) ((Array.range (1 * 1)).map ((Value.int .u8 0).cells[· % (Value.int .u8 0).cells.size]!)) ((#[(0, x)] : Array (Nat × Operand)).map fun (i, x) => (i, a.eval x)).toList = some #[.int .u8 y] := by
  have e2 : ((#[(0, x)] : Array (Nat × Operand)).map fun (i, x) => (i, a.eval x)).toList = [(0, .int .u8 y)] := by simp [hx]
  rw [e2]
  exact Great.fill_whole (s := 1) (by decide) [.int .u8 y] ((Array.range (1 * 1)).map ((Value.int .u8 0).cells[· % (Value.int .u8 0).cells.size]!)) (by intro v hv; simp only [List.mem_cons, List.not_mem_nil, or_false] at hv; subst hv; rfl) (by simp)
theorem x8_nat (x y : Nat) (hx : x < 256) (hy : y < 256) : x8 x y = ((x ^^^ y : Nat) : Int) := u8_xor_nat x y hx hy
theorem x8_by {x y : Int} (hx : 0 ≤ x ∧ x ≤ 255) (hy : 0 ≤ y ∧ y ≤ 255) : 0 ≤ x8 x y ∧ x8 x y ≤ 255 := by
  obtain ⟨x, rfl⟩ := Int.eq_ofNat_of_zero_le hx.1
  obtain ⟨y, rfl⟩ := Int.eq_ofNat_of_zero_le hy.1
  rw [x8_nat x y (by omega) (by omega)]
  have h : x ^^^ y < 2 ^ 8 := Nat.xor_lt_two_pow (by omega) (by omega)
  omega
theorem x8_x8 {x y : Int} (hx : 0 ≤ x ∧ x ≤ 255) (hy : 0 ≤ y ∧ y ≤ 255) : x8 (x8 x y) y = x := by
  obtain ⟨x, rfl⟩ := Int.eq_ofNat_of_zero_le hx.1
  obtain ⟨y, rfl⟩ := Int.eq_ofNat_of_zero_le hy.1
  have h : x ^^^ y < 2 ^ 8 := Nat.xor_lt_two_pow (by omega) (by omega)
  rw [x8_nat x y (by omega) (by omega), x8_nat _ y (by omega) (by omega), Nat.xor_assoc, Nat.xor_self, Nat.xor_zero]
theorem xo_bys {k : List Int} {c : Int} {n b : List Int} (hb : Bys b) (hk : ∀ c, Bys (bk64 k c n)) : Bys (xo k c n b) := by
  intro y hy
  simp only [xo, List.mem_map, List.mem_range] at hy
  obtain ⟨j, hj, rfl⟩ := hy
  have h1 := hb (b.getD j 0) (List.mem_of_getElem? (getD_some hj))
  have h2 : 0 ≤ ks k c n j ∧ ks k c n j ≤ 255 := by
    unfold ks
    rw [List.getD_eq_getElem?_getD]
    rcases h : (bk64 k (sm c ((j / 64 : Nat) : Int)) n)[j % 64]? with _ | z
    · simp
    · exact hk _ z (List.mem_of_getElem? h)
  exact x8_by h1 h2
theorem Ow.lt {w : World} {v : Value} {l : List Int} (h : Ow w v l) : ∀ k, v.ownBlock = some k → k < w.heap.size := by
  intro k hk
  rcases h.1.2 with ⟨hv, _⟩ | ⟨g, cap, cur, hv, _, hh, _⟩
  · rw [hv] at hk; cases hk
  · rw [hv] at hk
    have hk : some g = some k := hk
    injection hk with hk
    have := heap_lt hh
    omega
theorem take_snoc {X : List Int} {j : Nat} {y : Int} (h : X[j]? = some y) : X.take j ++ [y] = X.take (j + 1) := by
  have hj : j < X.length := (List.getElem?_eq_some_iff.1 h).1
  have hy : X[j] = y := by rw [List.getElem?_eq_getElem hj] at h; injection h
  rw [List.take_succ_eq_append_getElem hj, hy]
set_option maxRecDepth 100000 in
set_option maxHeartbeats 4000000 in
theorem rxor_no (k : List Int) (c : Int) (n : List Int) (A : Option Addr) (m cap : Nat) (w : World) (hc : Wd c) (hm : m ≤ 140737488355328) (hlim : (4294967296 - c) * 64 < m) :
    Calls Try.prog 30 #[.agg (vs .u8 k), .int .u32 c, .agg (vs .u8 n), .slice A m cap] w fun e w' => e = .returned (.tuple #[.slice none 0 0, .int .i64 5]) ∧ Fr (fun _ => False) w w' := by
  have h0 := hc.1
  have h1 := hc.2
  have v0 : IntKind.i64.wrap c = c := by rw [IntKind.wrap_i64]; omega
  have v1 : IntKind.i64.wrap (4294967296 - c) = 4294967296 - c := by rw [IntKind.wrap_i64]; omega
  have v2 : IntKind.i64.wrap ((m : Int) + 63) = (m : Int) + 63 := by rw [IntKind.wrap_i64]; omega
  have v4 : (((m : Int) + 63).tdiv 64) = ((m : Int) + 63) / 64 := Int.tdiv_eq_ediv_of_nonneg (by omega)
  have v3 : IntKind.i64.wrap (((m : Int) + 63) / 64) = ((m : Int) + 63) / 64 := by rw [IntKind.wrap_i64]; omega
  have hd : decide (4294967296 - c < ((m : Int) + 63) / 64) = true := decide_eq_true (by omega)
  go_enter Try.func30, Try.ntmps30
  go_wp2
  go_ret2
  exact ⟨rfl, ((Fr.refl _ _).alloc _).alloc _⟩

set_option maxRecDepth 100000 in
set_option maxHeartbeats 16000000 in
theorem rxor_yes (k : List Int) (c : Int) (n : List Int) (gb : Nat) (A : Option Addr) (m cap : Nat) (l : List Int) (w : World) (hk : k.length = 32) (bk : Bys k) (hc : Wd c) (hn : n.length = 12) (bn : Bys n)
    (hs : Sl w gb (.slice A m cap) l) (hm : m ≤ 140737488351232) (hlim : (m : Int) ≤ (4294967296 - c) * 64) (hgb : 0 < m → gb < w.heap.size) :
    Calls Try.prog 30 #[.agg (vs .u8 k), .int .u32 c, .agg (vs .u8 n), .slice A m cap] w fun e w' => ∃ v, e = .returned (.tuple #[v, .int .i64 0]) ∧ Ow w' v (xo k c n l) ∧ (∀ g, v.ownBlock = some g → w.heap.size ≤ g) ∧ Fr (fun _ => False) w w' := by
  have hl := hs.len
  obtain ⟨X, hX⟩ : ∃ X, X = xo k c n l := ⟨_, rfl⟩
  have HX1 : Hid (X.length = m) := by show _ = _; rw [hX, xo_length, hl]
  have HX0 : Unit → X = xo k c n l := fun _ => hX
  have HXB : Hid (Bys X) := by show Bys X; rw [hX]; exact xo_bys hs.1 (fun _ => bk64_bys _ _ _)
  have HS := Lib.hid hs
  have HL := Lib.hid hl
  have HG := Lib.hid hgb
  have HA := Lib.hid (And.intro hk (And.intro bk (And.intro hc (And.intro hn bn))))
  have HM := Lib.hid hm
  have h0 := hc.1
  have h1 := hc.2
  have v0 : IntKind.i64.wrap c = c := by rw [IntKind.wrap_i64]; omega
  have v1 : IntKind.i64.wrap (4294967296 - c) = 4294967296 - c := by rw [IntKind.wrap_i64]; omega
  have v2 : IntKind.i64.wrap ((m : Int) + 63) = (m : Int) + 63 := by rw [IntKind.wrap_i64]; omega
  have v4 : (((m : Int) + 63).tdiv 64) = ((m : Int) + 63) / 64 := Int.tdiv_eq_ediv_of_nonneg (by omega)
  have v3 : IntKind.i64.wrap (((m : Int) + 63) / 64) = ((m : Int) + 63) / 64 := by rw [IntKind.wrap_i64]; omega
  have hd : decide (4294967296 - c < ((m : Int) + 63) / 64) = false := decide_eq_false (by omega)
  have ik : Hid ((Try.prog.info? 28).map (·.size) = some (vs .u8 k).size) := by show _ = _; rw [size28, vs_size, hk]
  have iN : Hid ((Try.prog.info? 22).map (·.size) = some (vs .u8 n).size) := by show _ = _; rw [size29, vs_size, hn]
  obtain ⟨Y, hY⟩ : ∃ Y, Y = List.replicate 64 (0 : Int) := ⟨_, rfl⟩
  have hz : ∀ W : World, (zeroValue 42).run Try.prog W = .ok (.agg (vs .u8 Y)) W := fun W => by rw [hY]; exact zero64 W
  have lY : Hid ((vs .u8 Y).size = 64) := by show _ = _; rw [vs_size, hY]; rfl
  clear hk bk hn bn hs hl hX hY hgb
  go_enter Try.func30, Try.ntmps30
  go_upto_region 3 with (fail)
  generalize hW : (w.alloc (.cells (vs .u8 k) 28)).alloc (.cells (vs .u8 n) 22) = W0
  have HW := Lib.hid (calm2 hW)
  have K0 : Hid (Ar W0 w.heap.size 28 .u8 k) := HW.out.1
  have N0 : Hid (Ar W0 (w.heap.size + 1) 22 .u8 n) := HW.out.2.1
  have F0 : Hid (Fr (fun _ => False) w W0) := HW.out.2.2
  clear hW HW hd v2 v3 v4
  go_wp2
  go_loopw [10, 11] (fun u10 u11 wr => ∃ q : Nat, u11 = .int .i64 (64 * (q : Int)) ∧ 64 * q < m + 64 ∧ Hid (Ow wr u10 (X.take (64 * q))) ∧ Hid (∀ g, u10.ownBlock = some g → w.heap.size + 1 + 1 ≤ g) ∧ Hid (Ar wr w.heap.size 28 .u8 k) ∧ Hid (Ar wr (w.heap.size + 1) 22 .u8 n) ∧ Hid (Fr (fun _ => False) w wr))
    (fun _ u11 _ => m + 64 - (intOf u11).toNat)
  case atStart => exact ⟨0, rfl, by omega, Ow.nil W0, Lib.hid (fun g hg => by cases hg), K0, N0, F0⟩
  case round =>
    obtain ⟨q, rfl, hq, hO, hU, hK, hN, hF⟩ := hrel
    by_cases hql : 64 * q < m
    · have hsl := (HS.out.fr hF.out (fun _ x => x)).at_ (by omega)
      obtain ⟨o, rfl, hcell⟩ := hsl
      clear hcell
      have HG2 : Hid (gb < w.heap.size) := HG.out (by omega)
      obtain ⟨K, hK6⟩ : ∃ K, K = bk64 k (sm c q) n := ⟨_, rfl⟩
      have lK : K.length = 64 := by rw [hK6]; exact bk64_length HA.out.1 HA.out.2.1 (sm_wd _ _) HA.out.2.2.2.1 HA.out.2.2.2.2
      have HK : Hid (K.length = 64) := lK
      obtain ⟨d, hd⟩ : ∃ d, sm c (q : Int) = d := ⟨_, rfl⟩
      have CB : ∀ W, Calls Try.prog 42 #[.agg (vs .u8 k), .int .u32 d, .agg (vs .u8 n)] W fun e w' => e = .returned (.agg (vs .u8 K)) ∧ Fr (fun _ => False) W w' := fun W => by
        rw [hK6, ← hd]
        exact rblock_is k (sm c q) n W HA.out.1 HA.out.2.1 (sm_wd _ _) HA.out.2.2.2.1 HA.out.2.2.2.2
      have iK : Hid ((Try.prog.info? 42).map (·.size) = some (vs .u8 K).size) := by show _ = _; rw [size64, vs_size, lK]
      have eK : Hid ((vs .u8 Y).size = (vs .u8 K).size) := by show _ = _; rw [lY.out, vs_size, lK]
      have HKX : Unit → ∀ i, i < 64 → 64 * q + i < m → X[64 * q + i]? = some (x8 (l.getD (64 * q + i) 0) (K.getD i 0)) := fun _ i hi hj => by
        rw [HX0 (), xo_get (by rw [HL.out]; exact hj), ks_at _ _ _ _ _ hi, hK6]
      have j1 : (64 * (q : Int)).tdiv 64 = q := by rw [Int.tdiv_eq_ediv_of_nonneg (by omega)]; omega
      have j2 : IntKind.i64.wrap (q : Int) = q := by rw [IntKind.wrap_i64]; omega
      have j3 : IntKind.u32.wrap (q : Int) = q := by rw [wrap32]; omega
      have j4 : IntKind.u32.wrap (c + (q : Int)) = d := by rw [wrap32, ← hd]; rfl
      clear hK6 lK hd
      go_upto_region 8 with (first
        | (go_at_call 42; refine (CB _).mono ?_; rintro e w3 ⟨rfl, hf⟩; replace hO : Hid (Ow w3 u10 (X.take (64 * q))) := hO.out.keep hf (fun _ _ x => x); replace hK : Hid (Ar w3 w.heap.size 28 .u8 k) := hK.out.fr hf (fun x => x); replace hN : Hid (Ar w3 (w.heap.size + 1) 22 .u8 n) := hN.out.fr hf (fun x => x); replace hF : Hid (Fr (fun _ => False) w w3) := hF.out.trans hf; clear hf)
        | refine wpList_load_row rfl 28 (.tmp 4) rfl (w.heap.size) rfl 28 (vs .u8 k) (0, 0) _ hK.out Try.underlying28 rfl ik.out ?_
        | refine wpList_load_row rfl 22 (.tmp 6) rfl (w.heap.size + 1) rfl 22 (vs .u8 n) (0, 0) _ hN.out Try.underlying22 rfl iN.out ?_
        | refine wpList_store_row rfl 42 (.tmp 12) (.tmp 35) rfl w3.heap.size (vs .u8 K) rfl rfl 42 (vs .u8 Y) (heap_alloc_new w3 (.cells (vs .u8 Y) 42)) iK.out eK.out (vs_all _ _) ?_)
      obtain ⟨bq, hbq⟩ : ∃ q, q = w3.heap.size := ⟨_, rfl⟩
      have FQ : Fr (fun _ => False) w3 ((w3.alloc (.cells (vs .u8 Y) 42)).setRow w3.heap.size (vs .u8 K)) := ((Fr.refl _ w3).alloc _).setRow _ (.inr (Nat.le_refl _))
      have O3 := Lib.hid (hO.out.keep FQ (fun _ _ x => x))
      have K3 := Lib.hid (hK.out.fr FQ (fun x => x))
      have N3 := Lib.hid (hN.out.fr FQ (fun x => x))
      have F3 := Lib.hid (hF.out.trans FQ)
      have B3 : Hid (Ar ((w3.alloc (.cells (vs .u8 Y) 42)).setRow w3.heap.size (vs .u8 K)) bq 42 .u8 K) := by rw [hbq]; exact (Ar.new w3 42 .u8 Y).row K
      have U3 : Hid (∀ g, u10.ownBlock = some g → w.heap.size + 1 + 1 ≤ g ∧ g ≠ bq) := Lib.hid (fun g hg => ⟨hU.out g hg, by have := hO.out.lt g hg; omega⟩)
      have hq0 : w.heap.size ≤ bq := by rw [hbq]; exact hF.out.size
      rw [← hbq] at O3 K3 N3 F3 B3 ⊢
      generalize (w3.alloc (.cells (vs .u8 Y) 42)).setRow bq (vs .u8 K) = W4 at *
      have HQ := Lib.hid hq0
      have HW2 : Hid (w.heap.size + 1 < W4.heap.size) := N3.out.lt
      clear hO hK hN hF hU FQ hbq hq0 CB iK eK j1 j2 j3 j4
      try simp only [Act.put, List.setIfInBounds_toArray, List.set_cons_succ, List.set_cons_zero]
      obtain ⟨M, hM⟩ : ∃ M, M = min 64 (m - 64 * q) := ⟨_, rfl⟩
      have HMM := Lib.hid hM
      clear hM
      go_wp2
      go_loopw [10, 13] (fun u10 u13 wr => ∃ i : Nat, u13 = .int .i64 (64 * (q : Int) + i) ∧ i ≤ M ∧ Hid (Ow wr u10 (X.take (64 * q + i))) ∧ Hid (∀ g, u10.ownBlock = some g → w.heap.size + 1 + 1 ≤ g ∧ g ≠ bq) ∧ Hid (Ar wr w.heap.size 28 .u8 k) ∧ Hid (Ar wr (w.heap.size + 1) 22 .u8 n) ∧ Hid (Ar wr bq 42 .u8 K) ∧ Hid (Fr (fun _ => False) w wr))
        (fun _ u13 _ => 64 * q + 64 - (intOf u13).toNat)
      case atStart => exact ⟨0, by simp, by omega, O3, U3, K3, N3, B3, F3⟩
      case round =>
        obtain ⟨i, rfl, hi, hO, hU, hK, hN, hB, hF⟩ := hrel
        have j9 : IntKind.i64.wrap (64 * (q : Int) + 64) = 64 * q + 64 := by rw [IntKind.wrap_i64]; omega
        by_cases hil : i < M
        · have i64' : i < 64 := by have := HMM.out; omega
          have im : 64 * q + i < m := by have := HMM.out; omega
          have e1 : decide (64 * (q : Int) + (i : Int) < (m : Int)) = true := decide_eq_true (by omega)
          have e2 : decide (64 * (q : Int) + (i : Int) < 64 * (q : Int) + 64) = true := decide_eq_true (by omega)
          have hcell := ((HS.out.fr hF.out (fun _ x => x)).at_ (by omega))
          obtain ⟨o', ho', hcell⟩ := hcell
          injection ho' with ho'
          injection ho' with _ ho'
          subst ho'
          have hc1 := hcell (64 * q + i) im
          have hX := HKX () i i64' im
          obtain ⟨p, hp⟩ : ∃ p, l.getD (64 * q + i) 0 = p := ⟨_, rfl⟩
          obtain ⟨r, hr⟩ : ∃ r, K.getD i 0 = r := ⟨_, rfl⟩
          have gr := getD_some (l := K) (i := i) (by rw [HK.out]; exact i64')
          rw [hr] at gr hX
          rw [hp] at hX hc1
          obtain ⟨y, hy⟩ : ∃ y, x8 p r = y := ⟨_, rfl⟩
          rw [hy] at hX
          have hxr : bits .xor .u8 p r = y := hy
          have hyb := HXB.out y (List.mem_of_getElem? hX)
          have HY : Hid (Bys [y]) := Lib.hid (by intro b hb; simp only [List.mem_singleton] at hb; subst hb; exact hyb)
          have HTK := Lib.hid (take_snoc hX)
          have GR := Lib.hid gr
          have HGW : Hid (gb < wr.heap.size) := by have h := hF.out.size; have h2 := HG2.out; show _ < _; omega
          have j0 : IntKind.i64.wrap (64 * (q : Int) + (i : Int) - 64 * (q : Int)) = i := by rw [IntKind.wrap_i64]; omega
          have j0' : IntKind.i64.wrap ((i : Int)) = i := by rw [IntKind.wrap_i64]; omega
          have j00 : 64 * (q : Int) + (i : Int) - 64 * (q : Int) = i := by omega
          have j1 : (64 * (q : Int) + (i : Int)).toNat = 64 * q + i := by omega
          have j2 : 0 ≤ 64 * (q : Int) + (i : Int) := by omega
          have j3 : 64 * (q : Int) + (i : Int) < m := by omega
          have j4 : (i : Int) < 64 := by omega
          have j5 : ((i : Int)).toNat = i := by omega
          have j6 : 0 ≤ (i : Int) := by omega
          have HI := Lib.hid (And.intro i64' im)
          clear hX hp hr gr hy hcell hyb i64' im
          go_upto_region 11 with (fail)
          refine wp_region_inv2 (fun b a w' => ∃ (nb : Nat) (vv : Value), Fr (fun g => u10.ownBlock = some g) wr w' ∧ (b 12 = false → Fr (fun _ => False) wr w') ∧ (b 11 = true → wr.heap.size ≤ nb ∧ (b 12 = false → w'.heap[nb]? = some (.cells #[.int .u8 y] 5 (0, 0)))) ∧ (b 12 = true → Ow w' vv (X.take (64 * q + i) ++ [y]) ∧ ∀ g, vv.ownBlock = some g → u10.ownBlock = some g ∨ wr.heap.size ≤ g) ∧ (b 12 = true → b 11 = true) ∧ (b 13 = true → b 0 = true ∧ b 12 = true) ∧ a = ⟨#[.agg (vs .u8 k), .int .u32 c, .agg (vs .u8 n), .slice (some ⟨gb, o, none⟩) m cap, .pointer (some ⟨w.heap.size, 0, none⟩), undef, .pointer (some ⟨w.heap.size + 1, 0, none⟩), undef, .slice none 0 0, .int .i64 (0), if b 13 = true then vv else u10, .int .i64 (64 * (q : Int)), .pointer (some ⟨bq, 0, none⟩), .int .i64 (64 * (q : Int) + i), .slice (some ⟨gb, o, none⟩) m cap, .int .i64 (m), .int .i64 ((m : Int) + 63), .int .i64 (((m : Int) + 63) / 64), .int .u32 c, .int .i64 (c), .int .i64 (4294967296 - c), .bool false, .int .i64 (64 * (q : Int)), .slice (some ⟨gb, o, none⟩) m cap, .int .i64 (m), .bool true, u26, u27, .agg (vs .u8 k), .int .u32 c, .int .i64 (64 * (q : Int)), .int .i64 (q), .int .u32 q, .int .u32 d, .agg (vs .u8 n), .agg (vs .u8 K), .int .i64 (64 * (q : Int)), .int .i64 (64 * (q : Int) + i), .slice (some ⟨gb, o, none⟩) m cap, .int .i64 (m), .bool true, .bool true, .int .i64 (64 * (q : Int) + i), .int .i64 (64 * (q : Int)), .int .i64 (64 * (q : Int) + 64), .bool true, .bool true, u47, u48, if b 0 = true then u10 else u49, if b 1 = true then .slice (some ⟨gb, o, none⟩) m cap else u50, if b 2 = true then .int .i64 (64 * (q : Int) + i) else u51, if b 3 = true then .pointer (some ⟨gb, o + (64 * q + i), none⟩) else u52, if b 4 = true then .int .u8 p else u53, if b 5 = true then .int .i64 (64 * (q : Int) + i) else u54, if b 6 = true then .int .i64 (64 * (q : Int)) else u55, if b 7 = true then .int .i64 (i) else u56, if b 8 = true then .pointer (some ⟨bq, i, none⟩) else u57, if b 9 = true then .int .u8 r else u58, if b 10 = true then .int .u8 y else u59, if b 11 = true then .slice (some ⟨nb, 0, none⟩) 1 1 else u60, if b 12 = true then vv else u61, undef], []⟩) (by kernel_rfl) (by kernel_rfl) ?start11 ?step11 ?done11
          case start11 => exact ⟨0, undef, ⟨rfl, rfl, rfl, Nat.le_refl _, fun _ _ _ => rfl⟩, fun _ => ⟨rfl, rfl, rfl, Nat.le_refl _, fun _ _ _ => rfl⟩, fun h => by simp at h, fun h => by simp at h, fun h => by simp at h, fun h => by simp at h, by simp⟩
          case step11 =>
            intro i5 o5 b a w1 ho hI hb hr hc
            obtain ⟨nb, vv, hF1, hF2, hB1, hO1, hQ1, hZ1, rfl⟩ := hI
            match i5, ho with
            | 0, ho =>
              injection ho with ho
              subst ho
              have n13 : b 13 = false := by
                rcases hbs : b 13 with _ | _
                · rfl
                · rw [(hZ1 hbs).1] at hb
                  cases hb
              simp only [n13, Bool.false_eq_true, if_false]
              refine wp_quiet_here (u10) (BigFrame.quiet_move _ rfl rfl) (fun w2 hw2 => ?_)
              refine ⟨nb, vv, hF1.trans hw2.any, fun h => (hF2 (by simpa [upd] using h)).trans hw2, fun h => ?_, fun h => ?_, fun h => by simp [upd] at h ⊢; exact hQ1 h, fun h => by simp [upd] at h ⊢; exact (hZ1 h).2, ?_⟩
              · obtain ⟨g1, g2⟩ := hB1 (by simpa [upd] using h)
                exact ⟨g1, fun h' => (hw2.block _ (heap_lt (g2 (by simpa [upd] using h'))) (fun x => x)).trans (g2 (by simpa [upd] using h'))⟩
              · obtain ⟨g1, g2⟩ := hO1 (by simpa [upd] using h)
                exact ⟨g1.keep hw2 (fun _ _ x => x), g2⟩
              · simp [upd, Act.put, n13]
            | 1, ho =>
              injection ho with ho
              subst ho
              refine wp_quiet_here (.slice (some ⟨gb, o, none⟩) m cap) (BigFrame.quiet_move _ rfl rfl) (fun w2 hw2 => ?_)
              refine ⟨nb, vv, hF1.trans hw2.any, fun h => (hF2 (by simpa [upd] using h)).trans hw2, fun h => ?_, fun h => ?_, fun h => by simp [upd] at h ⊢; exact hQ1 h, fun h => by simp [upd] at h ⊢; exact hZ1 h, ?_⟩
              · obtain ⟨g1, g2⟩ := hB1 (by simpa [upd] using h)
                exact ⟨g1, fun h' => (hw2.block _ (heap_lt (g2 (by simpa [upd] using h'))) (fun x => x)).trans (g2 (by simpa [upd] using h'))⟩
              · obtain ⟨g1, g2⟩ := hO1 (by simpa [upd] using h)
                exact ⟨g1.keep hw2 (fun _ _ x => x), g2⟩
              · simp [upd, Act.put]
            | 2, ho =>
              injection ho with ho
              subst ho
              refine wp_quiet_here (.int .i64 (64 * (q : Int) + i)) (BigFrame.quiet_move _ rfl rfl) (fun w2 hw2 => ?_)
              refine ⟨nb, vv, hF1.trans hw2.any, fun h => (hF2 (by simpa [upd] using h)).trans hw2, fun h => ?_, fun h => ?_, fun h => by simp [upd] at h ⊢; exact hQ1 h, fun h => by simp [upd] at h ⊢; exact hZ1 h, ?_⟩
              · obtain ⟨g1, g2⟩ := hB1 (by simpa [upd] using h)
                exact ⟨g1, fun h' => (hw2.block _ (heap_lt (g2 (by simpa [upd] using h'))) (fun x => x)).trans (g2 (by simpa [upd] using h'))⟩
              · obtain ⟨g1, g2⟩ := hO1 (by simpa [upd] using h)
                exact ⟨g1.keep hw2 (fun _ _ x => x), g2⟩
              · simp [upd, Act.put]
            | 3, ho =>
              injection ho with ho
              subst ho
              simp [Region.binds] at hr
              have d1 : b 1 = true := by simp only [hr]
              have d2 : b 2 = true := by simp only [hr]
              simp only [hr, if_true]
              refine wp_quiet_here (.pointer (some ⟨gb, o + (64 * q + i), none⟩)) ?_ (fun w2 hw2 => ?_)
              · go_big_quiet_op
                first
                  | (simp [Act.put]; done)
                  | exact ⟨_, fun _ _ => rfl, by simp [Act.put]⟩
              refine ⟨nb, vv, hF1.trans hw2.any, fun h => (hF2 (by simpa [upd] using h)).trans hw2, fun h => ?_, fun h => ?_, fun h => by simp [upd] at h ⊢; exact hQ1 h, fun h => by simp [upd] at h ⊢; exact hZ1 h, ?_⟩
              · obtain ⟨g1, g2⟩ := hB1 (by simpa [upd] using h)
                exact ⟨g1, fun h' => (hw2.block _ (heap_lt (g2 (by simpa [upd] using h'))) (fun x => x)).trans (g2 (by simpa [upd] using h'))⟩
              · obtain ⟨g1, g2⟩ := hO1 (by simpa [upd] using h)
                exact ⟨g1.keep hw2 (fun _ _ x => x), g2⟩
              · simp [upd, Act.put, hr]
            | 4, ho =>
              injection ho with ho
              subst ho
              simp [Region.binds] at hr
              have d3 : b 3 = true := by simp only [hr]
              simp only [hr, if_true]
              refine wp_quiet_here (.int .u8 p) (quiet_one 5 .u8 (.tmp 52) rfl gb (o + (64 * q + i)) rfl p Try.underlying5 (fun W hW => (World.cell?_of_block (w := w1) (hW.block gb (by have := HGW.out; have := hF1.size; omega) (fun x => x))).trans ((World.cell?_of_block (w := wr) (hF1.block gb HGW.out (fun hx => by have := hU.out _ hx; have := HG2.out; omega))).trans hc1)) rfl) (fun w2 hw2 => ?_)
              refine ⟨nb, vv, hF1.trans hw2.any, fun h => (hF2 (by simpa [upd] using h)).trans hw2, fun h => ?_, fun h => ?_, fun h => by simp [upd] at h ⊢; exact hQ1 h, fun h => by simp [upd] at h ⊢; exact hZ1 h, ?_⟩
              · obtain ⟨g1, g2⟩ := hB1 (by simpa [upd] using h)
                exact ⟨g1, fun h' => (hw2.block _ (heap_lt (g2 (by simpa [upd] using h'))) (fun x => x)).trans (g2 (by simpa [upd] using h'))⟩
              · obtain ⟨g1, g2⟩ := hO1 (by simpa [upd] using h)
                exact ⟨g1.keep hw2 (fun _ _ x => x), g2⟩
              · simp [upd, Act.put, hr]
            | 5, ho =>
              injection ho with ho
              subst ho
              refine wp_quiet_here (.int .i64 (64 * (q : Int) + i)) (BigFrame.quiet_move _ rfl rfl) (fun w2 hw2 => ?_)
              refine ⟨nb, vv, hF1.trans hw2.any, fun h => (hF2 (by simpa [upd] using h)).trans hw2, fun h => ?_, fun h => ?_, fun h => by simp [upd] at h ⊢; exact hQ1 h, fun h => by simp [upd] at h ⊢; exact hZ1 h, ?_⟩
              · obtain ⟨g1, g2⟩ := hB1 (by simpa [upd] using h)
                exact ⟨g1, fun h' => (hw2.block _ (heap_lt (g2 (by simpa [upd] using h'))) (fun x => x)).trans (g2 (by simpa [upd] using h'))⟩
              · obtain ⟨g1, g2⟩ := hO1 (by simpa [upd] using h)
                exact ⟨g1.keep hw2 (fun _ _ x => x), g2⟩
              · simp [upd, Act.put]
            | 6, ho =>
              injection ho with ho
              subst ho
              refine wp_quiet_here (.int .i64 (64 * (q : Int))) (BigFrame.quiet_move _ rfl rfl) (fun w2 hw2 => ?_)
              refine ⟨nb, vv, hF1.trans hw2.any, fun h => (hF2 (by simpa [upd] using h)).trans hw2, fun h => ?_, fun h => ?_, fun h => by simp [upd] at h ⊢; exact hQ1 h, fun h => by simp [upd] at h ⊢; exact hZ1 h, ?_⟩
              · obtain ⟨g1, g2⟩ := hB1 (by simpa [upd] using h)
                exact ⟨g1, fun h' => (hw2.block _ (heap_lt (g2 (by simpa [upd] using h'))) (fun x => x)).trans (g2 (by simpa [upd] using h'))⟩
              · obtain ⟨g1, g2⟩ := hO1 (by simpa [upd] using h)
                exact ⟨g1.keep hw2 (fun _ _ x => x), g2⟩
              · simp [upd, Act.put]
            | 7, ho =>
              injection ho with ho
              subst ho
              simp [Region.binds] at hr
              have d5 : b 5 = true := by simp only [hr]
              have d6 : b 6 = true := by simp only [hr]
              simp only [hr, if_true]
              refine wp_quiet_here (.int .i64 (i)) ?_ (fun w2 hw2 => ?_)
              · go_big_quiet_op
                first
                  | (simp [Act.put]; done)
                  | exact ⟨_, fun _ _ => rfl, by simp [Act.put]⟩
              refine ⟨nb, vv, hF1.trans hw2.any, fun h => (hF2 (by simpa [upd] using h)).trans hw2, fun h => ?_, fun h => ?_, fun h => by simp [upd] at h ⊢; exact hQ1 h, fun h => by simp [upd] at h ⊢; exact hZ1 h, ?_⟩
              · obtain ⟨g1, g2⟩ := hB1 (by simpa [upd] using h)
                exact ⟨g1, fun h' => (hw2.block _ (heap_lt (g2 (by simpa [upd] using h'))) (fun x => x)).trans (g2 (by simpa [upd] using h'))⟩
              · obtain ⟨g1, g2⟩ := hO1 (by simpa [upd] using h)
                exact ⟨g1.keep hw2 (fun _ _ x => x), g2⟩
              · simp [upd, Act.put, hr]
            | 8, ho =>
              injection ho with ho
              subst ho
              simp [Region.binds] at hr
              have d7 : b 7 = true := by simp only [hr]
              simp only [hr, if_true]
              refine wp_quiet_here (.pointer (some ⟨bq, i, none⟩)) ?_ (fun w2 hw2 => ?_)
              · go_big_quiet_op
                first
                  | (simp [Act.put]; done)
                  | exact ⟨_, fun _ _ => rfl, by simp [Act.put]⟩
              refine ⟨nb, vv, hF1.trans hw2.any, fun h => (hF2 (by simpa [upd] using h)).trans hw2, fun h => ?_, fun h => ?_, fun h => by simp [upd] at h ⊢; exact hQ1 h, fun h => by simp [upd] at h ⊢; exact hZ1 h, ?_⟩
              · obtain ⟨g1, g2⟩ := hB1 (by simpa [upd] using h)
                exact ⟨g1, fun h' => (hw2.block _ (heap_lt (g2 (by simpa [upd] using h'))) (fun x => x)).trans (g2 (by simpa [upd] using h'))⟩
              · obtain ⟨g1, g2⟩ := hO1 (by simpa [upd] using h)
                exact ⟨g1.keep hw2 (fun _ _ x => x), g2⟩
              · simp [upd, Act.put, hr]
            | 9, ho =>
              injection ho with ho
              subst ho
              simp [Region.binds] at hr
              have d8 : b 8 = true := by simp only [hr]
              simp only [hr, if_true]
              refine wp_quiet_here (.int .u8 r) (quiet_cell (.tmp 57) 5 .u8 rfl bq i rfl K _ GR.out 42 (fun W hW => Ar.fr (Ar.fr hB.out hF1 (fun hx => (hU.out _ hx).2 rfl)) hW (fun x => x)) Try.underlying5 rfl) (fun w2 hw2 => ?_)
              refine ⟨nb, vv, hF1.trans hw2.any, fun h => (hF2 (by simpa [upd] using h)).trans hw2, fun h => ?_, fun h => ?_, fun h => by simp [upd] at h ⊢; exact hQ1 h, fun h => by simp [upd] at h ⊢; exact hZ1 h, ?_⟩
              · obtain ⟨g1, g2⟩ := hB1 (by simpa [upd] using h)
                exact ⟨g1, fun h' => (hw2.block _ (heap_lt (g2 (by simpa [upd] using h'))) (fun x => x)).trans (g2 (by simpa [upd] using h'))⟩
              · obtain ⟨g1, g2⟩ := hO1 (by simpa [upd] using h)
                exact ⟨g1.keep hw2 (fun _ _ x => x), g2⟩
              · simp [upd, Act.put, hr]
            | 10, ho =>
              injection ho with ho
              subst ho
              simp [Region.binds] at hr
              have d4 : b 4 = true := by simp only [hr]
              have d9 : b 9 = true := by simp only [hr]
              simp only [hr, if_true]
              refine wp_quiet_here (.int .u8 y) ?_ (fun w2 hw2 => ?_)
              · go_big_quiet_op
                first
                  | (simp [Act.put]; done)
                  | exact ⟨_, fun _ _ => rfl, by simp [Act.put]⟩
              refine ⟨nb, vv, hF1.trans hw2.any, fun h => (hF2 (by simpa [upd] using h)).trans hw2, fun h => ?_, fun h => ?_, fun h => by simp [upd] at h ⊢; exact hQ1 h, fun h => by simp [upd] at h ⊢; exact hZ1 h, ?_⟩
              · obtain ⟨g1, g2⟩ := hB1 (by simpa [upd] using h)
                exact ⟨g1, fun h' => (hw2.block _ (heap_lt (g2 (by simpa [upd] using h'))) (fun x => x)).trans (g2 (by simpa [upd] using h'))⟩
              · obtain ⟨g1, g2⟩ := hO1 (by simpa [upd] using h)
                exact ⟨g1.keep hw2 (fun _ _ x => x), g2⟩
              · simp [upd, Act.put, hr]
            | 11, ho =>
              injection ho with ho
              subst ho
              simp [Region.binds] at hr
              have d10 : b 10 = true := by simp only [hr]
              simp only [hr, if_true]
              have n12 : b 12 = false := by
                rcases hbs : b 12 with _ | _
                · rfl
                · rw [hQ1 hbs] at hb
                  cases hb
              obtain ⟨i0, hi0, hz0, hz1, hz2⟩ := info_parts Try.info5
              refine wp_buildSlice 29 5 1 #[(0, .tmp 59)] rfl #[.int .u8 y] i0 _ Try.underlying29 hi0 hz0 (by rw [hz1]; decide) (by rw [hz1]; decide) (by rw [hz1]; exact fill1 rfl) ?_
              refine ⟨w1.heap.size, vv, hF1.alloc _, fun _ => (hF2 n12).alloc _, fun _ => ⟨hF1.size, fun _ => heap_alloc_new w1 _⟩, fun h => ?_, fun h => by simp [upd], fun h => by simp [upd] at h ⊢; exact hZ1 h, ?_⟩
              · simp [upd, n12] at h
              · simp [upd, Act.put, hr, n12]
            | 12, ho =>
              injection ho with ho
              subst ho
              simp [Region.binds] at hr
              have d0 : b 0 = true := by simp only [hr]
              have d11 : b 11 = true := by simp only [hr]
              simp only [hr, if_true]
              have n13 : b 13 = false := by
                rcases hbs : b 13 with _ | _
                · rfl
                · rw [(hZ1 hbs).2] at hb
                  cases hb
              obtain ⟨g1, g2⟩ := hB1 d11
              have F3 := hF2 hb
              have S3 : Sl w1 nb (.slice (some ⟨nb, 0, none⟩) 1 1) [y] := Sl.block (cs := #[.int .u8 y]) HY.out (g2 hb) (fun j hj => one_cell y j hj) (by simp) (by simp [maxLen])
              obtain ⟨A', N', c', w2, hrun, hap, hN'⟩ := run_own (w := w1) 29 (hO.out.keep F3 (fun _ _ x => x)) S3 (by have := HX1.out; have := HI.out.2; have := HM.out; simp [List.length_take]; omega)
              refine wp_value (.slice A' N' c') w2 ?_ ?_
              · unfold execOp
                simp only [resolve, invoke, builtin, Sem.run_bind, Sem.run_pure, Result.andThen_ok, List.map_toArray, List.map_cons, List.map_nil]
                first | (show ((Builtin.append_ #[29, 29] 29 #[u10, .slice (some ⟨nb, 0, none⟩) 1 1]).run Try.prog w1).andThen _ = _; rw [hrun]; rfl) | (rw [hrun]; rfl)
              refine ⟨nb, .slice A' N' c', hF1.grown hap.grown (fun k' hk' => .inl hk'), fun h => by simp [upd] at h, fun _ => ⟨g1, fun h => by simp [upd] at h⟩, fun _ => ⟨hap.own, fun g hg => ?_⟩, fun _ => by simp [upd, d11], fun h => by simp [upd] at h ⊢; exact (hZ1 h).1, ?_⟩
              · rcases hap.at_ with e9 | e9
                · rw [e9] at hg; exact .inl hg
                · rw [e9] at hg; injection hg with hg; exact .inr (by have := hF1.size; omega)
              · simp [upd, Act.put, hr, n13]
            | 13, ho =>
              injection ho with ho
              subst ho
              simp [Region.binds] at hr
              have d0 : b 0 = true := by simp only [hr]
              have d1 : b 1 = true := by simp only [hr]
              have d2 : b 2 = true := by simp only [hr]
              have d3 : b 3 = true := by simp only [hr]
              have d4 : b 4 = true := by simp only [hr]
              have d5 : b 5 = true := by simp only [hr]
              have d6 : b 6 = true := by simp only [hr]
              have d7 : b 7 = true := by simp only [hr]
              have d8 : b 8 = true := by simp only [hr]
              have d9 : b 9 = true := by simp only [hr]
              have d10 : b 10 = true := by simp only [hr]
              have d11 : b 11 = true := by simp only [hr]
              have d12 : b 12 = true := by simp only [hr]
              simp only [hr, if_true]
              refine wp_quiet_here (vv) (BigFrame.quiet_assign _ rfl rfl) (fun w2 hw2 => ?_)
              refine ⟨nb, vv, hF1.trans hw2.any, fun h => (hF2 (by simpa [upd] using h)).trans hw2, fun h => ?_, fun h => ?_, fun h => by simp [upd] at h ⊢; exact hQ1 h, fun _ => by simp [upd, d0, d12], ?_⟩
              · obtain ⟨g1, g2⟩ := hB1 (by simpa [upd] using h)
                exact ⟨g1, fun h' => (hw2.block _ (heap_lt (g2 (by simpa [upd] using h'))) (fun x => x)).trans (g2 (by simpa [upd] using h'))⟩
              · obtain ⟨g1, g2⟩ := hO1 (by simpa [upd] using h)
                exact ⟨g1.keep hw2 (fun _ _ x => x), g2⟩
              · simp [upd, Act.put, hr]
            | j + 14, ho => exact absurd ho (by simp)
          intro b a W11 hall hI
          obtain ⟨nb, vv, hF1, hF2, hB1, hO1, hQ1, hZ1, rfl⟩ := hI
          have t0 : b 0 = true := hall 0 (by simp)
          have t1 : b 1 = true := hall 1 (by simp)
          have t2 : b 2 = true := hall 2 (by simp)
          have t3 : b 3 = true := hall 3 (by simp)
          have t4 : b 4 = true := hall 4 (by simp)
          have t5 : b 5 = true := hall 5 (by simp)
          have t6 : b 6 = true := hall 6 (by simp)
          have t7 : b 7 = true := hall 7 (by simp)
          have t8 : b 8 = true := hall 8 (by simp)
          have t9 : b 9 = true := hall 9 (by simp)
          have t10 : b 10 = true := hall 10 (by simp)
          have t11 : b 11 = true := hall 11 (by simp)
          have t12 : b 12 = true := hall 12 (by simp)
          have t13 : b 13 = true := hall 13 (by simp)
          obtain ⟨O6, U6⟩ := hO1 t12
          simp only [t0, t1, t2, t3, t4, t5, t6, t7, t8, t9, t10, t11, t12, t13, if_true]
          have O7 : Hid (Ow W11 vv (X.take (64 * q + (i + 1)))) := by
            show _
            rw [← Nat.add_assoc, ← HTK.out]
            exact O6
          have U7 : Hid (∀ g, vv.ownBlock = some g → w.heap.size + 1 + 1 ≤ g ∧ g ≠ bq) := Lib.hid (fun g hg => by
            rcases U6 g hg with h5 | h5
            · exact hU.out g h5
            · have e1 := hF.out.size
              have e2 := hB.out.lt
              have e3 := hN.out.lt
              exact ⟨by omega, by omega⟩)
          have K7 : Hid (Ar W11 w.heap.size 28 .u8 k) := hK.out.fr hF1 (fun hx => by have := (hU.out _ hx).1; omega)
          have N7 : Hid (Ar W11 (w.heap.size + 1) 22 .u8 n) := hN.out.fr hF1 (fun hx => by have := (hU.out _ hx).1; omega)
          have B7 : Hid (Ar W11 bq 42 .u8 K) := hB.out.fr hF1 (fun hx => (hU.out _ hx).2 rfl)
          have F7 : Hid (Fr (fun _ => False) w W11) := hF.out.trans' hF1 (fun g hg hx => by have := (hU.out _ hx).1; omega)
          clear hall hF1 hF2 hB1 hO1 hQ1 O6 U6 hO hU hK hN hB hF hc1 t0 t1 t2 t3 t4 t5 t6 t7 t8 t9 t10 t11 t12 t13
          go_wp2
          go_roundw
          case rel => exact ⟨i + 1, by go_num, by omega, O7, U7, K7, N7, B7, F7⟩
          case measure => simp [intOf]; omega
        · by_cases hlm : 64 * q + i < m
          · have e1 : decide (64 * (q : Int) + (i : Int) < (m : Int)) = true := decide_eq_true (by omega)
            have h64 : 64 ≤ i := by have := HMM.out; omega
            have O5 : Hid (Ow wr u10 (X.take (64 * (q + 1)))) := by
              have e : 64 * (q + 1) = 64 * q + i := by have := HMM.out; omega
              show _
              rw [e]
              exact hO.out
            have U5 : Hid (∀ g, u10.ownBlock = some g → w.heap.size + 1 + 1 ≤ g) := Lib.hid (fun g hg => (hU.out g hg).1)
            clear hO hU hB
            go_wp2
            go_roundw
            case rel => exact ⟨q + 1, by first | rfl | (congr 1; omega), by omega, O5, U5, hK, hN, hF⟩
            case measure => simp [intOf]; omega
          · have e1 : decide (64 * (q : Int) + (i : Int) < (m : Int)) = false := decide_eq_false (by omega)
            have O5 : Hid (Ow wr u10 (X.take (64 * (q + 1)))) := by
              have e : X.take (64 * (q + 1)) = X.take (64 * q + i) := by
                have := HMM.out
                rw [List.take_of_length_le (by rw [HX1.out]; omega), List.take_of_length_le (by rw [HX1.out]; omega)]
              show _
              rw [e]
              exact hO.out
            have U5 : Hid (∀ g, u10.ownBlock = some g → w.heap.size + 1 + 1 ≤ g) := Lib.hid (fun g hg => (hU.out g hg).1)
            clear hO hU hB
            go_wp2
            go_roundw
            case rel => exact ⟨q + 1, by first | rfl | (congr 1; omega), by omega, O5, U5, hK, hN, hF⟩
            case measure => simp [intOf]; omega
    · have O5 : Hid (Ow wr u10 X) := by
        have h := hO.out
        rwa [List.take_of_length_le (by rw [HX1.out]; omega)] at h
      clear hO hK hN
      go_wp2
      go_ret2
      exact ⟨u10, rfl, by rw [← HX0 ()]; exact O5.out, fun g hg => by have := hU.out g hg; omega, hF.out⟩
end Go.Proofs.Ytbafppdmlhogbaa
