/- FieldNames answers true: the given statement FieldNamesSaid. No condition. -/
import Derived.Test.YtmhoblefpkjdlaaLift
import Derived.Test.YtmhoblefpkjdlaaInvR
import Derived.Test.YtmhoblefpkjdlaaNamesM
import Derived.Test.YtmhoblefpkjdlaaTail
import Derived.Test.YtmhoblefpkjdlaaLawFrom
import Derived.Test.YtmhoblefpkjdlaaLawAdd
import Derived.Test.YtmhoblefpkjdlaaLawSub
import Derived.Test.YtmhoblefpkjdlaaLawMul
import Derived.Test.YtmhoblefpkjdlaaLawBytes
import Derived.Test.YtmhoblefpkjdlaaLawInverse
import Derived.Test.YtmhoblefpkjdlaaLawSwap
import Derived.Deep.Cut
namespace Go.Proofs.Ytmhoblefpkjdlaa
open Go.ChangeShapes Go.WideShapes Go.ChangeAt Go.RowKit

theorem get_some {l : List Int} (h : l.length = 32) (i : Nat) (hi : i < 32) : l[i]? = some (l.getD i 0) := getD_some (by omega)
set_option maxRecDepth 100000 in
set_option maxHeartbeats 8000000 in
theorem law_names_any (w : World) : Calls Try.prog 13 #[] w fun e w' => e = .returned (.bool true) ∧ Fr (fun _ => False) w w' := by
  obtain ⟨Z, hZ⟩ : ∃ Z, Z = List.replicate 32 (0 : Int) := ⟨_, rfl⟩
  have hz : ∀ W : World, (zeroValue 22).run Try.prog W = .ok (.agg (vs .u8 Z)) W := fun W => by rw [hZ]; kernel_rfl
  have lZ : Z.length = 32 := by rw [hZ]; rfl
  have bZ : Bys Z := by rw [hZ]; intro b hb; rw [List.eq_of_mem_replicate hb]; decide
  have HZ := Lib.hid (And.intro lZ bZ)
  clear hZ lZ bZ
  go_enter Try.func13, Try.ntmps13
  go_wp2
  go_loopw [1, 2] (fun u1 u2 wz => ∃ (i : Nat), u2 = .int .i64 (i : Int) ∧ i ≤ 40 ∧ Hid (Ent wz w.heap.size u1 (2 * i)) ∧ Hid (Fr (fun _ => False) w wz))
    (fun _ u2 _ => 40 - (intOf u2).toNat)
  case atStart => exact ⟨0, rfl, by omega, Ent.nil _ _, Fr.refl _ _⟩
  case round =>
    obtain ⟨i, rfl, hi, E1, F1⟩ := hrel
    by_cases hlt : i < 40
    · go_upto_region 6 with (fail)
      generalize hW : (wr.alloc (.cells (vs .u8 Z) 22)).alloc (.cells (vs .u8 Z) 22) = w1
      have hc := calm2 hW
      clear hW
      obtain ⟨q, hq⟩ : ∃ q, q = wr.heap.size := ⟨_, rfl⟩
      have E2 : Hid (Ent w1 w.heap.size u1 (2 * i)) := E1.out.keep hc.2.2 (fun _ _ x => x)
      have F2 : Hid (Fr (fun _ => False) w w1) := F1.out.trans hc.2.2
      have sq : w.heap.size ≤ q := by rw [hq]; exact F1.out.size
      have bq : Hid (∀ k, u1.ownBlock = some k → k < q) := by rw [hq]; exact E1.out.lt
      rw [← hq] at hc
      rw [← hq]
      have A2 : Hid (Ar w1 q 22 .u8 Z) := hc.1
      have B2 : Hid (Ar w1 (q + 1) 22 .u8 Z) := hc.2.1
      clear hq hc E1 F1
      have k1 := A2.out.cell (get_some HZ.out.1 0 (by omega))
      have k2 := A2.out.frozen 0
      go_upto_region 7 with (fail)
      have A3 : Hid (Ar (w1.setCell ⟨q, 0, none⟩ (.int .u8 i)) q 22 .u8 (Z.set 0 i)) := A2.out.set 0 i
      have B3 : Hid (Ar (w1.setCell ⟨q, 0, none⟩ (.int .u8 i)) (q + 1) 22 .u8 Z) := B2.out.far (by simp <;> omega) _
      have F3 : Hid (Fr (fun _ => False) w (w1.setCell ⟨q, 0, none⟩ (.int .u8 i))) := F2.out.setCell _ (.inr (by simp <;> omega))
      have E3 : Hid (Ent (w1.setCell ⟨q, 0, none⟩ (.int .u8 i)) w.heap.size u1 (2 * i)) := E2.out.keep (S := fun k => q ≤ k) ((Fr.refl _ _).setCell _ (.inl (Nat.le_refl q))) (fun k hk h => by have := bq.out k hk; omega)
      generalize (w1.setCell ⟨q, 0, none⟩ (.int .u8 i)) = w3 at *
      clear A2 B2 F2 E2 k1 k2
      obtain ⟨X, hX⟩ : ∃ X, X = Z.set 0 (i : Int) := ⟨_, rfl⟩
      have HX : Hid (X.length = 32 ∧ Bys X) := ⟨by rw [hX, List.length_set]; exact HZ.out.1, by rw [hX]; exact bys_set HZ.out.2 0 (by omega)⟩
      rw [← hX] at A3
      clear hX
      go_wp2
      go_loopw [5] (fun u5 wz => ∃ (k : Nat) (Y : List Int), u5 = .int .i64 (k : Int) ∧ k ≤ 32 ∧ Hid (Y.length = 32 ∧ Bys Y) ∧ Hid (Ar wz q 22 .u8 X) ∧ Hid (Ar wz (q + 1) 22 .u8 Y) ∧ Hid (Ent wz w.heap.size u1 (2 * i)) ∧ Hid (Fr (fun _ => False) w wz))
        (fun u5 _ => 32 - (intOf u5).toNat)
      case atStart => exact ⟨0, Z, rfl, by omega, HZ, A3, B3, E3, F3⟩
      case round =>
        obtain ⟨k, Y, rfl, hk, HY, A4, B4, E4, F4⟩ := hrel
        clear A3 B3 E3 F3
        by_cases hlk : k < 32
        · have k1 := B4.out.cell (get_some HY.out.1 k hlk)
          have k2 := B4.out.frozen k
          have hkk : ((k : Nat) : Int) < 32 := by omega
          have hk0 : (0 : Int) ≤ ((k : Nat) : Int) := by omega
          have htn : (((k : Nat) : Int)).toNat = k := by omega
          have A5 : Hid (Ar (wr.setCell ⟨q + 1, k, none⟩ (.int .u8 255)) q 22 .u8 X) := A4.out.far (by simp <;> omega) _
          have B5 : Hid (Ar (wr.setCell ⟨q + 1, k, none⟩ (.int .u8 255)) (q + 1) 22 .u8 (Y.set k 255)) := B4.out.set k 255
          have F5 : Hid (Fr (fun _ => False) w (wr.setCell ⟨q + 1, k, none⟩ (.int .u8 255))) := F4.out.setCell _ (.inr (by simp <;> omega))
          have E5 : Hid (Ent (wr.setCell ⟨q + 1, k, none⟩ (.int .u8 255)) w.heap.size u1 (2 * i)) := E4.out.keep (S := fun k => q ≤ k) ((Fr.refl _ _).setCell _ (.inl (by simp))) (fun k hk h => by have := bq.out k hk; omega)
          have HY5 : Hid ((Y.set k 255).length = 32 ∧ Bys (Y.set k 255)) := ⟨by rw [List.length_set]; exact HY.out.1, bys_set HY.out.2 k (by decide)⟩
          clear A4 B4 E4 F4
          go_wp2
          go_roundw
          case rel => exact ⟨k + 1, Y.set k 255, by go_num, by omega, HY5, A5, B5, E5, F5⟩
          case measure => simp [intOf]; omega
        · obtain rfl : k = 32 := by omega
          have k1 := B4.out.cell (get_some HY.out.1 31 (by omega))
          have k2 := B4.out.frozen 31
          have hi0 : (0 : Int) ≤ (i : Int) := by omega
          have hi40 : (i : Int) < 40 := by omega
          go_upto_region 12 with (fail)
          obtain ⟨y, hy⟩ : ∃ y, y = bits .or .i64 127 ((i : Int) * 128) % 256 := ⟨_, rfl⟩
          have hy0 : 0 ≤ y := by rw [hy]; exact Int.emod_nonneg _ (by decide)
          have hy1 : y < 256 := by rw [hy]; exact Int.emod_lt_of_pos _ (by decide)
          rw [← hy]
          clear hy
          have A6 : Hid (Ar (wr.setCell ⟨q + 1, 31, none⟩ (.int .u8 y)) q 22 .u8 X) := A4.out.far (by simp <;> omega) _
          have B6 : Hid (Ar (wr.setCell ⟨q + 1, 31, none⟩ (.int .u8 y)) (q + 1) 22 .u8 (Y.set 31 y)) := B4.out.set 31 y
          have F6 : Hid (Fr (fun _ => False) w (wr.setCell ⟨q + 1, 31, none⟩ (.int .u8 y))) := F4.out.setCell _ (.inr (by simp <;> omega))
          have E6 : Hid (Ent (wr.setCell ⟨q + 1, 31, none⟩ (.int .u8 y)) w.heap.size u1 (2 * i)) := E4.out.keep (S := fun k => q ≤ k) ((Fr.refl _ _).setCell _ (.inl (by simp))) (fun k hk h => by have := bq.out k hk; omega)
          have HY6 : Hid ((Y.set 31 y).length = 32 ∧ Bys (Y.set 31 y)) := ⟨by rw [List.length_set]; exact HY.out.1, bys_set HY.out.2 31 (by omega)⟩
          generalize (wr.setCell ⟨q + 1, 31, none⟩ (.int .u8 y)) = w6 at *
          generalize Y.set 31 y = Y6 at *
          clear A4 B4 F4 E4 k1 k2 HY
          have k1 := B6.out.cell (get_some HY6.out.1 0 (by omega))
          have k2 := B6.out.frozen 0
          go_upto_region 13 with (fail)
          obtain ⟨z, hz'⟩ : ∃ z, z = 255 - (i : Int) := ⟨_, rfl⟩
          have hz0 : 0 ≤ z ∧ z ≤ 255 := by omega
          rw [← hz']
          clear hz'
          have A7 : Hid (Ar (w6.setCell ⟨q + 1, 0, none⟩ (.int .u8 z)) q 22 .u8 X) := A6.out.far (by simp <;> omega) _
          have B7 : Hid (Ar (w6.setCell ⟨q + 1, 0, none⟩ (.int .u8 z)) (q + 1) 22 .u8 (Y6.set 0 z)) := B6.out.set 0 z
          have F7 : Hid (Fr (fun _ => False) w (w6.setCell ⟨q + 1, 0, none⟩ (.int .u8 z))) := F6.out.setCell _ (.inr (by simp <;> omega))
          have E7 : Hid (Ent (w6.setCell ⟨q + 1, 0, none⟩ (.int .u8 z)) w.heap.size u1 (2 * i)) := E6.out.keep (S := fun k => q ≤ k) ((Fr.refl _ _).setCell _ (.inl (by simp))) (fun k hk h => by have := bq.out k hk; omega)
          have HY7 : Hid ((Y6.set 0 z).length = 32 ∧ Bys (Y6.set 0 z)) := ⟨by rw [List.length_set]; exact HY6.out.1, bys_set HY6.out.2 0 (by omega)⟩
          generalize (w6.setCell ⟨q + 1, 0, none⟩ (.int .u8 z)) = w7 at *
          generalize Y6.set 0 z = Y7 at *
          clear A6 B6 F6 E6 k1 k2 HY6
          have E8 : Hid (Ent (w7.alloc (.cells (vs .u8 (X ++ Y7)) 22)) w.heap.size u1 (2 * i)) := E7.out.keep ((Fr.refl (fun _ => False) _).alloc _) (fun _ _ x => x)
          have F8 : Hid (Fr (fun _ => False) w (w7.alloc (.cells (vs .u8 (X ++ Y7)) 22))) := F7.out.alloc _
          have HXY : Hid (Bys (X ++ Y7) ∧ (X ++ Y7).length = 2 * 32) := ⟨fun b hb => (List.mem_append.1 hb).elim (HX.out.2 b) (HY7.out.2 b), by rw [List.length_append, HX.out.1, HY7.out.1]⟩
          go_upto_region 4 with (first
            | refine wpList_load_row rfl 22 (.tmp 3) rfl q rfl 22 (vs .u8 X) (0, 0) _ A7.out Try.underlying22 rfl (by rw [size22, vs_size, HX.out.1]) ?_
            | refine wpList_load_row rfl 22 (.tmp 4) rfl (q + 1) rfl 22 (vs .u8 Y7) (0, 0) _ B7.out Try.underlying22 rfl (by rw [size22, vs_size, HY7.out.1]) ?_
            | refine wpList_lit2 rfl (.tmp 35) (.tmp 36) rfl X Y7 HX.out.1 HY7.out.1 rfl rfl ?_
            | (refine wpList_ent rfl (.tmp 34) (.tmp 37) rfl E8.out rfl rfl HXY.out.1 HXY.out.2 (Ar.new _ _ _ _) (by omega) F8.out.size ?_; intro v9 w9 he hgr; have E9 := Lib.hid he; have G9 := Lib.hid hgr; clear he hgr))
          have F9 : Hid (Fr (fun _ => False) w w9) := F8.out.grown G9.out (fun k hk => .inr (E8.out.base k hk))
          clear A7 B7 F7 E7 E8 F8 G9 HXY HY7 HX
          go_wp2
          go_roundw
          case rel => exact ⟨i + 1, by go_num, by omega, E9, F9⟩
          case measure => simp [intOf]; omega
    · have h40 : i = 40 := by omega
      have E1' : Hid (Ent wr w.heap.size u1 80) := by show Ent _ _ _ _; have h := E1.out; rwa [h40] at h
      clear E1
      have hn40 : ¬ ((i : Int) < 40) := by omega
      go_wp2
      clear hn40 h40 hlt
      go_loopw [1, 6] (fun u1 u6 wz => ∃ (i : Nat), u6 = .int .i64 (i : Int) ∧ i ≤ 8 ∧ Hid (Ent wz w.heap.size u1 (80 + i)) ∧ Hid (Fr (fun _ => False) w wz))
        (fun _ u6 _ => 8 - (intOf u6).toNat)
      case atStart => exact ⟨0, rfl, by omega, E1', F1⟩
      case round =>
        obtain ⟨i, rfl, hi, E2, F2⟩ := hrel
        clear E1' F1
        by_cases hlt8 : i < 8
        · go_upto_region 18 with (fail)
          generalize hW : wr.alloc (.cells (vs .u8 Z) 22) = w3
          have hc := calm1a hW
          clear hW
          obtain ⟨q, hq⟩ : ∃ q, q = wr.heap.size := ⟨_, rfl⟩
          have E3 : Hid (Ent w3 w.heap.size u1 (80 + i)) := E2.out.keep hc.2 (fun _ _ x => x)
          have F3 : Hid (Fr (fun _ => False) w w3) := F2.out.trans hc.2
          have sq : w.heap.size ≤ q := by rw [hq]; exact F2.out.size
          have bq : Hid (∀ k, u1.ownBlock = some k → k < q) := by rw [hq]; exact E2.out.lt
          rw [← hq] at hc
          rw [← hq]
          have A3 : Hid (Ar w3 q 22 .u8 Z) := hc.1
          clear hq hc E2 F2
          have k1 := A3.out.cell (get_some HZ.out.1 (4 * i) (by omega))
          have k2 := A3.out.frozen (4 * i)
          have hi0 : (0 : Int) ≤ (i : Int) := by omega
          have hi8 : (i : Int) < 8 := by omega
          have hm0 : (0 : Int) ≤ 4 * (i : Int) := by omega
          have hm8 : 4 * (i : Int) < 32 := by omega
          have htn : (4 * (i : Int)).toNat = 4 * i := by omega
          go_upto_region 19 with (fail)
          have A4 : Hid (Ar (w3.setCell ⟨q, 4 * i, none⟩ (.int .u8 128)) q 22 .u8 (Z.set (4 * i) 128)) := A3.out.set (4 * i) 128
          have F4 : Hid (Fr (fun _ => False) w (w3.setCell ⟨q, 4 * i, none⟩ (.int .u8 128))) := F3.out.setCell _ (.inr (by simp <;> omega))
          have E4 : Hid (Ent (w3.setCell ⟨q, 4 * i, none⟩ (.int .u8 128)) w.heap.size u1 (80 + i)) := E3.out.keep (S := fun k => q ≤ k) ((Fr.refl _ _).setCell _ (.inl (Nat.le_refl q))) (fun k hk h => by have := bq.out k hk; omega)
          have HX : Hid ((Z.set (4 * i) 128).length = 32 ∧ Bys (Z.set (4 * i) 128)) := ⟨by rw [List.length_set]; exact HZ.out.1, bys_set HZ.out.2 (4 * i) (by decide)⟩
          generalize (w3.setCell ⟨q, 4 * i, none⟩ (.int .u8 128)) = w4 at *
          generalize Z.set (4 * i) 128 = X at *
          clear A3 F3 E3 k1 k2
          have E5 : Hid (Ent (w4.alloc (.cells (vs .u8 X) 22)) w.heap.size u1 (80 + i)) := E4.out.keep ((Fr.refl (fun _ => False) _).alloc _) (fun _ _ x => x)
          have F5 : Hid (Fr (fun _ => False) w (w4.alloc (.cells (vs .u8 X) 22))) := F4.out.alloc _
          go_upto_region 16 with (first
            | refine wpList_load_row rfl 22 (.tmp 7) rfl q rfl 22 (vs .u8 X) (0, 0) _ A4.out Try.underlying22 rfl (by rw [size22, vs_size, HX.out.1]) ?_
            | refine wpList_lit1 rfl (.tmp 47) rfl X HX.out.1 rfl ?_
            | (refine wpList_ent rfl (.tmp 46) (.tmp 48) rfl E5.out rfl rfl HX.out.2 HX.out.1 (Ar.new _ _ _ _) (by omega) F5.out.size ?_; intro v9 w9 he hgr; have E9 := Lib.hid he; have G9 := Lib.hid hgr; clear he hgr))
          have F9 : Hid (Fr (fun _ => False) w w9) := F5.out.grown G9.out (fun k hk => .inr (E5.out.base k hk))
          clear A4 E4 F4 E5 F5 G9 HX
          go_wp2
          go_roundw
          case rel => exact ⟨i + 1, by go_num, by omega, E9, F9⟩
          case measure => simp [intOf]; omega
        · have h8 : i = 8 := by omega
          have E2' : Hid (Ent wr w.heap.size u1 88) := by show Ent _ _ _ _; have h := E2.out; rwa [h8] at h
          clear E2
          obtain ⟨q, c, rfl⟩ := E2'.out.shape2
          have hn8 : ¬ ((i : Int) < 8) := by omega
          go_wp2
          clear hn8 h8 hlt8
          go_loopw [8] (fun u8 wz => ∃ (i : Nat), u8 = .int .i64 (i : Int) ∧ i ≤ 88 ∧ Hid (Ent wz w.heap.size (.slice (some ⟨q, 0, none⟩) 88 c) 88) ∧ Hid (Fr (fun _ => False) w wz))
            (fun u8 _ => 88 - (intOf u8).toNat)
          case atStart => exact ⟨0, rfl, by omega, E2', F2⟩
          case round =>
            obtain ⟨i, rfl, hi88, E3, F3⟩ := hrel
            clear E2' F2
            by_cases hlt88 : i < 88
            · have hi0 : (0 : Int) ≤ (i : Int) := by omega
              have hi9 : (i : Int) < 88 := by omega
              obtain ⟨xs, bxs, lxs, _, cur, hcur, hcut⟩ := E3.out.get
              obtain ⟨k, hk⟩ : ∃ k : Nat, k = (7 * i + 3) % 88 := ⟨_, rfl⟩
              have hk88 : k < 88 := by omega
              have hki : (7 * (i : Int) + 3) % 88 = (k : Int) := by omega
              obtain ⟨X, hX⟩ : ∃ X, X = (xs.drop (i * 32)).take 32 := ⟨_, rfl⟩
              obtain ⟨Y, hY⟩ : ∃ Y, Y = (xs.drop (k * 32)).take 32 := ⟨_, rfl⟩
              have lX : X.length = 32 := by rw [hX, List.length_take, List.length_drop]; omega
              have lY : Y.length = 32 := by rw [hY, List.length_take, List.length_drop]; omega
              have bX : Bys X := by rw [hX]; exact fun b hb => bxs b (List.mem_of_mem_drop (List.mem_of_mem_take hb))
              have bY : Bys Y := by rw [hY]; exact fun b hb => bxs b (List.mem_of_mem_drop (List.mem_of_mem_take hb))
              have gX : Hid (∀ W, Calm wr W → W.rangeAt q (i * 32) (bs X)) := fun W hW => by rw [hX]; exact range_of (Calm.at hcur hW) hcut lxs hlt88
              have gY : Hid (∀ W, Calm wr W → W.rangeAt q (k * 32) (bs Y)) := fun W hW => by rw [hY]; exact range_of (Calm.at hcur hW) hcut lxs hk88
              have d4 := fun W => law_add_any X Y W lX bX lY bY
              have d5 := fun W => law_sub_any X Y W lX bX lY bY
              have d6 := fun W => law_mul_any X Y W lX bX lY bY
              have d11 := fun W => law_bytes_any X W lX bX
              have d10 := fun W => law_inverse_any X W lX bX
              have d8 := fun W => law_swap_any X Y i W lX bX lY bY ⟨by omega, by omega⟩
              have d9 := fun W => law_swap_any X Y (-(i : Int)) W lX bX lY bY ⟨by omega, by omega⟩
              have d3 : ∀ z : Int, 0 ≤ z ∧ z ≤ 4294967295 → ∀ W, Calls Try.prog 3 #[.agg (vs .u8 X), .int .u32 z] W fun e w' => e = .returned (.bool true) ∧ Fr (fun _ => False) W w' := fun z hz W => law_from_any X z W lX bX hz
              have D3 := Lib.hid d3
              have LX : Hid (X.length = 32) := lX
              have LY : Hid (Y.length = 32) := lY
              clear hX hY lX lY bX bY hcut bxs lxs hcur d3
              go_upto_region 24 with (fail)
              rw [hki]
              clear hki hk
              refine wp_region_quiet (C := Calm wr) (by kernel_rfl) (by kernel_rfl) (Calm.start _ _ (Fr.refl _ _)) ?_
              refine BigFrame.wpQuiet_want rfl fun K hK => ?_
              try simp only [Act.put, List.setIfInBounds_toArray, List.set_cons_succ, List.set_cons_zero]
              go_big_quiet_op
              refine hK _ ?_
              refine BigFrame.wpQuiet_want rfl fun K hK => ?_
              try simp only [Act.put, List.setIfInBounds_toArray, List.set_cons_succ, List.set_cons_zero]
              go_big_quiet_op
              refine hK _ ?_
              refine BigFrame.wpQuiet_want rfl fun K hK => quiet_index (.tmp 62) (.tmp 63) rfl q 88 c i rfl _ rfl rfl (by omega) (hK _ ?_)
              try simp only [Act.put, List.setIfInBounds_toArray, List.set_cons_succ, List.set_cons_zero]
              refine BigFrame.wpQuiet_want rfl fun K hK => quiet_mid (.tmp 64) rfl q (i * 32) rfl X LX.out gX.out (hK _ ?_)
              try simp only [Act.put, List.setIfInBounds_toArray, List.set_cons_succ, List.set_cons_zero]
              refine BigFrame.wpQuiet_want rfl fun K hK => ?_
              try simp only [Act.put, List.setIfInBounds_toArray, List.set_cons_succ, List.set_cons_zero]
              go_big_quiet_op
              refine hK _ ?_
              refine BigFrame.wpQuiet_want rfl fun K hK => ?_
              try simp only [Act.put, List.setIfInBounds_toArray, List.set_cons_succ, List.set_cons_zero]
              go_big_quiet_op
              refine ⟨_, fun _ _ => rfl, hK _ ?_⟩
              refine BigFrame.wpQuiet_want rfl fun K hK => ?_
              try simp only [Act.put, List.setIfInBounds_toArray, List.set_cons_succ, List.set_cons_zero]
              go_big_quiet_op
              refine ⟨_, fun _ _ => rfl, hK _ ?_⟩
              refine BigFrame.wpQuiet_want rfl fun K hK => ?_
              try simp only [Act.put, List.setIfInBounds_toArray, List.set_cons_succ, List.set_cons_zero]
              go_big_quiet_op
              refine ⟨_, Calm.calls (D3.out _ ⟨by omega, by omega⟩), hK _ ?_⟩
              refine BigFrame.wpQuiet_want rfl fun K hK => ?_
              try simp only [Act.put, List.setIfInBounds_toArray, List.set_cons_succ, List.set_cons_zero]
              go_big_quiet_op
              refine ⟨_, fun _ _ => rfl, hK _ ?_⟩
              refine BigFrame.wpQuiet_want rfl fun K hK => ?_
              try simp only [Act.put, List.setIfInBounds_toArray, List.set_cons_succ, List.set_cons_zero]
              go_big_quiet_op
              refine hK _ ?_
              refine BigFrame.wpQuiet_want rfl fun K hK => ?_
              try simp only [Act.put, List.setIfInBounds_toArray, List.set_cons_succ, List.set_cons_zero]
              go_big_quiet_op
              refine hK _ ?_
              refine BigFrame.wpQuiet_want rfl fun K hK => ?_
              try simp only [Act.put, List.setIfInBounds_toArray, List.set_cons_succ, List.set_cons_zero]
              go_big_quiet_op
              refine hK _ ?_
              refine BigFrame.wpQuiet_want rfl fun K hK => quiet_index (.tmp 72) (.tmp 73) rfl q 88 c i rfl _ rfl rfl (by omega) (hK _ ?_)
              try simp only [Act.put, List.setIfInBounds_toArray, List.set_cons_succ, List.set_cons_zero]
              refine BigFrame.wpQuiet_want rfl fun K hK => quiet_mid (.tmp 74) rfl q (i * 32) rfl X LX.out gX.out (hK _ ?_)
              try simp only [Act.put, List.setIfInBounds_toArray, List.set_cons_succ, List.set_cons_zero]
              refine BigFrame.wpQuiet_want rfl fun K hK => ?_
              try simp only [Act.put, List.setIfInBounds_toArray, List.set_cons_succ, List.set_cons_zero]
              go_big_quiet_op
              refine hK _ ?_
              refine BigFrame.wpQuiet_want rfl fun K hK => ?_
              try simp only [Act.put, List.setIfInBounds_toArray, List.set_cons_succ, List.set_cons_zero]
              go_big_quiet_op
              refine hK _ ?_
              refine BigFrame.wpQuiet_want rfl fun K hK => quiet_index (.tmp 76) (.tmp 77) rfl q 88 c k rfl _ rfl rfl (by omega) (hK _ ?_)
              try simp only [Act.put, List.setIfInBounds_toArray, List.set_cons_succ, List.set_cons_zero]
              refine BigFrame.wpQuiet_want rfl fun K hK => quiet_mid (.tmp 78) rfl q (k * 32) rfl Y LY.out gY.out (hK _ ?_)
              try simp only [Act.put, List.setIfInBounds_toArray, List.set_cons_succ, List.set_cons_zero]
              refine BigFrame.wpQuiet_want rfl fun K hK => ?_
              try simp only [Act.put, List.setIfInBounds_toArray, List.set_cons_succ, List.set_cons_zero]
              go_big_quiet_op
              refine ⟨_, Calm.calls d4, hK _ ?_⟩
              refine BigFrame.wpQuiet_want rfl fun K hK => ?_
              try simp only [Act.put, List.setIfInBounds_toArray, List.set_cons_succ, List.set_cons_zero]
              go_big_quiet_op
              refine ⟨_, fun _ _ => rfl, hK _ ?_⟩
              refine BigFrame.wpQuiet_want rfl fun K hK => ?_
              try simp only [Act.put, List.setIfInBounds_toArray, List.set_cons_succ, List.set_cons_zero]
              go_big_quiet_op
              refine ⟨_, fun _ _ => rfl, hK _ ?_⟩
              refine BigFrame.wpQuiet_want rfl fun K hK => ?_
              try simp only [Act.put, List.setIfInBounds_toArray, List.set_cons_succ, List.set_cons_zero]
              go_big_quiet_op
              refine hK _ ?_
              refine BigFrame.wpQuiet_want rfl fun K hK => ?_
              try simp only [Act.put, List.setIfInBounds_toArray, List.set_cons_succ, List.set_cons_zero]
              go_big_quiet_op
              refine hK _ ?_
              refine BigFrame.wpQuiet_want rfl fun K hK => ?_
              try simp only [Act.put, List.setIfInBounds_toArray, List.set_cons_succ, List.set_cons_zero]
              go_big_quiet_op
              refine hK _ ?_
              refine BigFrame.wpQuiet_want rfl fun K hK => quiet_index (.tmp 84) (.tmp 85) rfl q 88 c i rfl _ rfl rfl (by omega) (hK _ ?_)
              try simp only [Act.put, List.setIfInBounds_toArray, List.set_cons_succ, List.set_cons_zero]
              refine BigFrame.wpQuiet_want rfl fun K hK => quiet_mid (.tmp 86) rfl q (i * 32) rfl X LX.out gX.out (hK _ ?_)
              try simp only [Act.put, List.setIfInBounds_toArray, List.set_cons_succ, List.set_cons_zero]
              refine BigFrame.wpQuiet_want rfl fun K hK => ?_
              try simp only [Act.put, List.setIfInBounds_toArray, List.set_cons_succ, List.set_cons_zero]
              go_big_quiet_op
              refine hK _ ?_
              refine BigFrame.wpQuiet_want rfl fun K hK => ?_
              try simp only [Act.put, List.setIfInBounds_toArray, List.set_cons_succ, List.set_cons_zero]
              go_big_quiet_op
              refine hK _ ?_
              refine BigFrame.wpQuiet_want rfl fun K hK => quiet_index (.tmp 88) (.tmp 89) rfl q 88 c k rfl _ rfl rfl (by omega) (hK _ ?_)
              try simp only [Act.put, List.setIfInBounds_toArray, List.set_cons_succ, List.set_cons_zero]
              refine BigFrame.wpQuiet_want rfl fun K hK => quiet_mid (.tmp 90) rfl q (k * 32) rfl Y LY.out gY.out (hK _ ?_)
              try simp only [Act.put, List.setIfInBounds_toArray, List.set_cons_succ, List.set_cons_zero]
              refine BigFrame.wpQuiet_want rfl fun K hK => ?_
              try simp only [Act.put, List.setIfInBounds_toArray, List.set_cons_succ, List.set_cons_zero]
              go_big_quiet_op
              refine ⟨_, Calm.calls d5, hK _ ?_⟩
              refine BigFrame.wpQuiet_want rfl fun K hK => ?_
              try simp only [Act.put, List.setIfInBounds_toArray, List.set_cons_succ, List.set_cons_zero]
              go_big_quiet_op
              refine ⟨_, fun _ _ => rfl, hK _ ?_⟩
              refine BigFrame.wpQuiet_want rfl fun K hK => ?_
              try simp only [Act.put, List.setIfInBounds_toArray, List.set_cons_succ, List.set_cons_zero]
              go_big_quiet_op
              refine ⟨_, fun _ _ => rfl, hK _ ?_⟩
              refine BigFrame.wpQuiet_want rfl fun K hK => ?_
              try simp only [Act.put, List.setIfInBounds_toArray, List.set_cons_succ, List.set_cons_zero]
              go_big_quiet_op
              refine hK _ ?_
              refine BigFrame.wpQuiet_want rfl fun K hK => ?_
              try simp only [Act.put, List.setIfInBounds_toArray, List.set_cons_succ, List.set_cons_zero]
              go_big_quiet_op
              refine hK _ ?_
              refine BigFrame.wpQuiet_want rfl fun K hK => ?_
              try simp only [Act.put, List.setIfInBounds_toArray, List.set_cons_succ, List.set_cons_zero]
              go_big_quiet_op
              refine hK _ ?_
              refine BigFrame.wpQuiet_want rfl fun K hK => quiet_index (.tmp 96) (.tmp 97) rfl q 88 c i rfl _ rfl rfl (by omega) (hK _ ?_)
              try simp only [Act.put, List.setIfInBounds_toArray, List.set_cons_succ, List.set_cons_zero]
              refine BigFrame.wpQuiet_want rfl fun K hK => quiet_mid (.tmp 98) rfl q (i * 32) rfl X LX.out gX.out (hK _ ?_)
              try simp only [Act.put, List.setIfInBounds_toArray, List.set_cons_succ, List.set_cons_zero]
              refine BigFrame.wpQuiet_want rfl fun K hK => ?_
              try simp only [Act.put, List.setIfInBounds_toArray, List.set_cons_succ, List.set_cons_zero]
              go_big_quiet_op
              refine hK _ ?_
              refine BigFrame.wpQuiet_want rfl fun K hK => ?_
              try simp only [Act.put, List.setIfInBounds_toArray, List.set_cons_succ, List.set_cons_zero]
              go_big_quiet_op
              refine hK _ ?_
              refine BigFrame.wpQuiet_want rfl fun K hK => quiet_index (.tmp 100) (.tmp 101) rfl q 88 c k rfl _ rfl rfl (by omega) (hK _ ?_)
              try simp only [Act.put, List.setIfInBounds_toArray, List.set_cons_succ, List.set_cons_zero]
              refine BigFrame.wpQuiet_want rfl fun K hK => quiet_mid (.tmp 102) rfl q (k * 32) rfl Y LY.out gY.out (hK _ ?_)
              try simp only [Act.put, List.setIfInBounds_toArray, List.set_cons_succ, List.set_cons_zero]
              refine BigFrame.wpQuiet_want rfl fun K hK => ?_
              try simp only [Act.put, List.setIfInBounds_toArray, List.set_cons_succ, List.set_cons_zero]
              go_big_quiet_op
              refine ⟨_, Calm.calls d6, hK _ ?_⟩
              refine BigFrame.wpQuiet_want rfl fun K hK => ?_
              try simp only [Act.put, List.setIfInBounds_toArray, List.set_cons_succ, List.set_cons_zero]
              go_big_quiet_op
              refine ⟨_, fun _ _ => rfl, hK _ ?_⟩
              refine BigFrame.wpQuiet_want rfl fun K hK => ?_
              try simp only [Act.put, List.setIfInBounds_toArray, List.set_cons_succ, List.set_cons_zero]
              go_big_quiet_op
              refine ⟨_, fun _ _ => rfl, hK _ ?_⟩
              refine BigFrame.wpQuiet_want rfl fun K hK => ?_
              try simp only [Act.put, List.setIfInBounds_toArray, List.set_cons_succ, List.set_cons_zero]
              go_big_quiet_op
              refine hK _ ?_
              refine BigFrame.wpQuiet_want rfl fun K hK => ?_
              try simp only [Act.put, List.setIfInBounds_toArray, List.set_cons_succ, List.set_cons_zero]
              go_big_quiet_op
              refine hK _ ?_
              refine BigFrame.wpQuiet_want rfl fun K hK => ?_
              try simp only [Act.put, List.setIfInBounds_toArray, List.set_cons_succ, List.set_cons_zero]
              go_big_quiet_op
              refine hK _ ?_
              refine BigFrame.wpQuiet_want rfl fun K hK => quiet_index (.tmp 108) (.tmp 109) rfl q 88 c i rfl _ rfl rfl (by omega) (hK _ ?_)
              try simp only [Act.put, List.setIfInBounds_toArray, List.set_cons_succ, List.set_cons_zero]
              refine BigFrame.wpQuiet_want rfl fun K hK => quiet_mid (.tmp 110) rfl q (i * 32) rfl X LX.out gX.out (hK _ ?_)
              try simp only [Act.put, List.setIfInBounds_toArray, List.set_cons_succ, List.set_cons_zero]
              refine BigFrame.wpQuiet_want rfl fun K hK => ?_
              try simp only [Act.put, List.setIfInBounds_toArray, List.set_cons_succ, List.set_cons_zero]
              go_big_quiet_op
              refine ⟨_, Calm.calls d11, hK _ ?_⟩
              refine BigFrame.wpQuiet_want rfl fun K hK => ?_
              try simp only [Act.put, List.setIfInBounds_toArray, List.set_cons_succ, List.set_cons_zero]
              go_big_quiet_op
              refine ⟨_, fun _ _ => rfl, hK _ ?_⟩
              refine BigFrame.wpQuiet_want rfl fun K hK => ?_
              try simp only [Act.put, List.setIfInBounds_toArray, List.set_cons_succ, List.set_cons_zero]
              go_big_quiet_op
              refine ⟨_, fun _ _ => rfl, hK _ ?_⟩
              refine BigFrame.wpQuiet_want rfl fun K hK => ?_
              try simp only [Act.put, List.setIfInBounds_toArray, List.set_cons_succ, List.set_cons_zero]
              go_big_quiet_op
              refine hK _ ?_
              refine BigFrame.wpQuiet_want rfl fun K hK => ?_
              try simp only [Act.put, List.setIfInBounds_toArray, List.set_cons_succ, List.set_cons_zero]
              go_big_quiet_op
              refine hK _ ?_
              refine BigFrame.wpQuiet_want rfl fun K hK => ?_
              try simp only [Act.put, List.setIfInBounds_toArray, List.set_cons_succ, List.set_cons_zero]
              go_big_quiet_op
              refine hK _ ?_
              refine BigFrame.wpQuiet_want rfl fun K hK => quiet_index (.tmp 116) (.tmp 117) rfl q 88 c i rfl _ rfl rfl (by omega) (hK _ ?_)
              try simp only [Act.put, List.setIfInBounds_toArray, List.set_cons_succ, List.set_cons_zero]
              refine BigFrame.wpQuiet_want rfl fun K hK => quiet_mid (.tmp 118) rfl q (i * 32) rfl X LX.out gX.out (hK _ ?_)
              try simp only [Act.put, List.setIfInBounds_toArray, List.set_cons_succ, List.set_cons_zero]
              refine BigFrame.wpQuiet_want rfl fun K hK => ?_
              try simp only [Act.put, List.setIfInBounds_toArray, List.set_cons_succ, List.set_cons_zero]
              go_big_quiet_op
              refine ⟨_, Calm.calls d10, hK _ ?_⟩
              refine BigFrame.wpQuiet_want rfl fun K hK => ?_
              try simp only [Act.put, List.setIfInBounds_toArray, List.set_cons_succ, List.set_cons_zero]
              go_big_quiet_op
              refine ⟨_, fun _ _ => rfl, hK _ ?_⟩
              refine BigFrame.wpQuiet_want rfl fun K hK => ?_
              try simp only [Act.put, List.setIfInBounds_toArray, List.set_cons_succ, List.set_cons_zero]
              go_big_quiet_op
              refine ⟨_, fun _ _ => rfl, hK _ ?_⟩
              refine BigFrame.wpQuiet_want rfl fun K hK => ?_
              try simp only [Act.put, List.setIfInBounds_toArray, List.set_cons_succ, List.set_cons_zero]
              go_big_quiet_op
              refine hK _ ?_
              refine BigFrame.wpQuiet_want rfl fun K hK => ?_
              try simp only [Act.put, List.setIfInBounds_toArray, List.set_cons_succ, List.set_cons_zero]
              go_big_quiet_op
              refine hK _ ?_
              refine BigFrame.wpQuiet_want rfl fun K hK => ?_
              try simp only [Act.put, List.setIfInBounds_toArray, List.set_cons_succ, List.set_cons_zero]
              go_big_quiet_op
              refine hK _ ?_
              refine BigFrame.wpQuiet_want rfl fun K hK => quiet_index (.tmp 124) (.tmp 125) rfl q 88 c i rfl _ rfl rfl (by omega) (hK _ ?_)
              try simp only [Act.put, List.setIfInBounds_toArray, List.set_cons_succ, List.set_cons_zero]
              refine BigFrame.wpQuiet_want rfl fun K hK => quiet_mid (.tmp 126) rfl q (i * 32) rfl X LX.out gX.out (hK _ ?_)
              try simp only [Act.put, List.setIfInBounds_toArray, List.set_cons_succ, List.set_cons_zero]
              refine BigFrame.wpQuiet_want rfl fun K hK => ?_
              try simp only [Act.put, List.setIfInBounds_toArray, List.set_cons_succ, List.set_cons_zero]
              go_big_quiet_op
              refine hK _ ?_
              refine BigFrame.wpQuiet_want rfl fun K hK => ?_
              try simp only [Act.put, List.setIfInBounds_toArray, List.set_cons_succ, List.set_cons_zero]
              go_big_quiet_op
              refine hK _ ?_
              refine BigFrame.wpQuiet_want rfl fun K hK => quiet_index (.tmp 128) (.tmp 129) rfl q 88 c k rfl _ rfl rfl (by omega) (hK _ ?_)
              try simp only [Act.put, List.setIfInBounds_toArray, List.set_cons_succ, List.set_cons_zero]
              refine BigFrame.wpQuiet_want rfl fun K hK => quiet_mid (.tmp 130) rfl q (k * 32) rfl Y LY.out gY.out (hK _ ?_)
              try simp only [Act.put, List.setIfInBounds_toArray, List.set_cons_succ, List.set_cons_zero]
              refine BigFrame.wpQuiet_want rfl fun K hK => ?_
              try simp only [Act.put, List.setIfInBounds_toArray, List.set_cons_succ, List.set_cons_zero]
              go_big_quiet_op
              refine hK _ ?_
              refine BigFrame.wpQuiet_want rfl fun K hK => ?_
              try simp only [Act.put, List.setIfInBounds_toArray, List.set_cons_succ, List.set_cons_zero]
              go_big_quiet_op
              refine ⟨_, Calm.calls d8, hK _ ?_⟩
              refine BigFrame.wpQuiet_want rfl fun K hK => ?_
              try simp only [Act.put, List.setIfInBounds_toArray, List.set_cons_succ, List.set_cons_zero]
              go_big_quiet_op
              refine ⟨_, fun _ _ => rfl, hK _ ?_⟩
              refine BigFrame.wpQuiet_want rfl fun K hK => ?_
              try simp only [Act.put, List.setIfInBounds_toArray, List.set_cons_succ, List.set_cons_zero]
              go_big_quiet_op
              refine ⟨_, fun _ _ => rfl, hK _ ?_⟩
              refine BigFrame.wpQuiet_want rfl fun K hK => ?_
              try simp only [Act.put, List.setIfInBounds_toArray, List.set_cons_succ, List.set_cons_zero]
              go_big_quiet_op
              refine hK _ ?_
              refine BigFrame.wpQuiet_want rfl fun K hK => ?_
              try simp only [Act.put, List.setIfInBounds_toArray, List.set_cons_succ, List.set_cons_zero]
              go_big_quiet_op
              refine hK _ ?_
              refine BigFrame.wpQuiet_want rfl fun K hK => ?_
              try simp only [Act.put, List.setIfInBounds_toArray, List.set_cons_succ, List.set_cons_zero]
              go_big_quiet_op
              refine hK _ ?_
              refine BigFrame.wpQuiet_want rfl fun K hK => quiet_index (.tmp 137) (.tmp 138) rfl q 88 c i rfl _ rfl rfl (by omega) (hK _ ?_)
              try simp only [Act.put, List.setIfInBounds_toArray, List.set_cons_succ, List.set_cons_zero]
              refine BigFrame.wpQuiet_want rfl fun K hK => quiet_mid (.tmp 139) rfl q (i * 32) rfl X LX.out gX.out (hK _ ?_)
              try simp only [Act.put, List.setIfInBounds_toArray, List.set_cons_succ, List.set_cons_zero]
              refine BigFrame.wpQuiet_want rfl fun K hK => ?_
              try simp only [Act.put, List.setIfInBounds_toArray, List.set_cons_succ, List.set_cons_zero]
              go_big_quiet_op
              refine hK _ ?_
              refine BigFrame.wpQuiet_want rfl fun K hK => ?_
              try simp only [Act.put, List.setIfInBounds_toArray, List.set_cons_succ, List.set_cons_zero]
              go_big_quiet_op
              refine hK _ ?_
              refine BigFrame.wpQuiet_want rfl fun K hK => quiet_index (.tmp 141) (.tmp 142) rfl q 88 c k rfl _ rfl rfl (by omega) (hK _ ?_)
              try simp only [Act.put, List.setIfInBounds_toArray, List.set_cons_succ, List.set_cons_zero]
              refine BigFrame.wpQuiet_want rfl fun K hK => quiet_mid (.tmp 143) rfl q (k * 32) rfl Y LY.out gY.out (hK _ ?_)
              try simp only [Act.put, List.setIfInBounds_toArray, List.set_cons_succ, List.set_cons_zero]
              refine BigFrame.wpQuiet_want rfl fun K hK => ?_
              try simp only [Act.put, List.setIfInBounds_toArray, List.set_cons_succ, List.set_cons_zero]
              go_big_quiet_op
              refine hK _ ?_
              refine BigFrame.wpQuiet_want rfl fun K hK => ?_
              try simp only [Act.put, List.setIfInBounds_toArray, List.set_cons_succ, List.set_cons_zero]
              go_big_quiet_op
              refine ⟨_, fun _ _ => rfl, hK _ ?_⟩
              refine BigFrame.wpQuiet_want rfl fun K hK => ?_
              try simp only [Act.put, List.setIfInBounds_toArray, List.set_cons_succ, List.set_cons_zero]
              go_big_quiet_op
              refine ⟨_, Calm.calls d9, hK _ ?_⟩
              refine BigFrame.wpQuiet_want rfl fun K hK => ?_
              try simp only [Act.put, List.setIfInBounds_toArray, List.set_cons_succ, List.set_cons_zero]
              go_big_quiet_op
              refine ⟨_, fun _ _ => rfl, hK _ ?_⟩
              refine BigFrame.wpQuiet_want rfl fun K hK => ?_
              try simp only [Act.put, List.setIfInBounds_toArray, List.set_cons_succ, List.set_cons_zero]
              go_big_quiet_op
              refine ⟨_, fun _ _ => rfl, hK _ ?_⟩
              refine wpQuiet_nil ?_
              intro w5 hw5
              try simp only [Act.put, List.setIfInBounds_toArray, List.set_cons_succ, List.set_cons_zero]
              have E5 : Hid (Ent w5 w.heap.size (.slice (some ⟨q, 0, none⟩) 88 c) 88) := E3.out.keep hw5 (fun _ _ x => x)
              have F5 : Hid (Fr (fun _ => False) w w5) := F3.out.trans hw5
              clear hw5 E3 F3 gX gY D3 LX LY d4 d5 d6 d8 d9 d10 d11
              go_wp2
              go_roundw
              case rel => exact ⟨i + 1, by go_num, by omega, E5, F5⟩
              case measure => simp [intOf]; omega
            · have hn88 : ¬ ((i : Int) < 88) := by omega
              have hi0 : (0 : Int) ≤ (i : Int) := by omega
              have hz28 := z28c
              go_upto_region 27 with (fail)
              clear hn88 hlt88
              obtain ⟨q10, hq10⟩ : ∃ q, q = wr.heap.size := ⟨_, rfl⟩
              generalize hW : wr.alloc (.cells #[.int .u64 0, .int .u64 0, .int .u64 0, .int .u64 0] 28) = w11
              have hc := calm1a hW
              clear hW
              rw [← hq10] at hc
              rw [← hq10]
              have O11 : Hid (w11.heap[q10]? = some (.cells #[.int .u64 0, .int .u64 0, .int .u64 0, .int .u64 0] 28 (0, 0))) := hc.1
              have F11 : Hid (Fr (fun _ => False) w w11) := F3.out.trans hc.2
              clear hc hq10 E3 F3
              obtain ⟨H, v2, vh, v0, v1, lH, g0, g1, g31, b1, b2, b3, b5, b6, b7, b8, b9, b10⟩ := tail_facts
              have b4 := awake_is
              have G0 := Lib.hid g0
              have G1 := Lib.hid g1
              have G31 := Lib.hid g31
              have LH := Lib.hid lH
              clear lH g0 g1 g31
              refine wp_region_head (C := Calm w11) 3 (Fr.refl _ _) ?_
              simp only [List.take_succ_cons, List.take_zero, List.drop_succ_cons, List.drop_zero]
              refine BigFrame.wpQuiet_want rfl fun K hK => ?_
              try simp only [Act.put, List.setIfInBounds_toArray, List.set_cons_succ, List.set_cons_zero]
              go_big_quiet_op
              refine ⟨_, Calm.calls b1, hK _ ?_⟩
              refine BigFrame.wpQuiet_want rfl fun K hK => ?_
              try simp only [Act.put, List.setIfInBounds_toArray, List.set_cons_succ, List.set_cons_zero]
              go_big_quiet_op
              refine ⟨_, Calm.calls b2, hK _ ?_⟩
              refine BigFrame.wpQuiet_want rfl fun K hK => ?_
              try simp only [Act.put, List.setIfInBounds_toArray, List.set_cons_succ, List.set_cons_zero]
              go_big_quiet_op
              refine ⟨_, Calm.calls b3, hK _ ?_⟩
              refine wpQuiet_nil ?_
              intro w12 hw12
              try simp only [Act.put, List.setIfInBounds_toArray, List.set_cons_succ, List.set_cons_zero]
              have O12 : Hid (w12.heap[q10]? = some (.cells #[.int .u64 0, .int .u64 0, .int .u64 0, .int .u64 0] 28 (0, 0))) := Calm.at O11.out hw12
              have F12 : Hid (Fr (fun _ => False) w w12) := F11.out.trans hw12
              have s12 : q10 < w12.heap.size := heap_lt O12.out
              clear hw12 O11 F11 b1 b2 b3
              obtain ⟨q11, hq11⟩ : ∃ q, q = w12.heap.size := ⟨_, rfl⟩
              go_upto_region 28 with (refine wpList_store_row rfl 22 (.tmp 11) (.tmp 152) rfl w12.heap.size (vs .u8 H) rfl rfl 22 (vs .u8 Z) (heap_alloc_new w12 _) (by rw [size22, vs_size, LH.out]) (by rw [vs_size, vs_size, LH.out, HZ.out.1]) (vs_all _ _) ?_)
              try simp only [Act.put, List.setIfInBounds_toArray, List.set_cons_succ, List.set_cons_zero]
              rw [← hq11]
              have O13 : Hid (((w12.alloc (.cells (vs .u8 Z) 22)).setRow q11 (vs .u8 H)).heap[q10]? = some (.cells #[.int .u64 0, .int .u64 0, .int .u64 0, .int .u64 0] 28 (0, 0))) := (setRow_other _ _ _ _ (by omega)).trans ((Below.heap_alloc _ _ _ s12).trans O12.out)
              have A13 : Hid (Ar ((w12.alloc (.cells (vs .u8 Z) 22)).setRow q11 (vs .u8 H)) q11 22 .u8 H) := by
                show Ar _ _ _ _ _
                rw [hq11]
                exact (Ar.new w12 22 .u8 Z).row H
              have F13 : Hid (Fr (fun _ => False) w ((w12.alloc (.cells (vs .u8 Z) 22)).setRow q11 (vs .u8 H))) := (F12.out.alloc _).setRow _ (.inr (by rw [hq11]; exact F12.out.size))
              generalize ((w12.alloc (.cells (vs .u8 Z) 22)).setRow q11 (vs .u8 H)) = w13 at *
              clear O12 F12 hq11 s12
              refine wp_region_quiet (C := Calm w13) (by kernel_rfl) (by kernel_rfl) (Calm.start _ _ (Fr.refl _ _)) ?_
              refine BigFrame.wpQuiet_want rfl fun K hK => ?_
              try simp only [Act.put, List.setIfInBounds_toArray, List.set_cons_succ, List.set_cons_zero]
              go_big_quiet_op
              refine ⟨_, Calm.calls b4, hK _ ?_⟩
              refine BigFrame.wpQuiet_want rfl fun K hK => ?_
              try simp only [Act.put, List.setIfInBounds_toArray, List.set_cons_succ, List.set_cons_zero]
              go_big_quiet_op
              refine hK _ ?_
              refine BigFrame.wpQuiet_want rfl fun K hK => quiet_load 28 (.tmp 10) rfl (q10) rfl 28 _ (0, 0) _ (fun _ h => Calm.at O13.out h) Try.underlying28 rfl size28 (hK _ ?_)
              refine BigFrame.wpQuiet_want rfl fun K hK => ?_
              try simp only [Act.put, List.setIfInBounds_toArray, List.set_cons_succ, List.set_cons_zero]
              go_big_quiet_op
              refine ⟨_, Calm.calls b5, hK _ ?_⟩
              refine BigFrame.wpQuiet_want rfl fun K hK => ?_
              try simp only [Act.put, List.setIfInBounds_toArray, List.set_cons_succ, List.set_cons_zero]
              go_big_quiet_op
              refine ⟨_, fun _ _ => rfl, hK _ ?_⟩
              refine BigFrame.wpQuiet_want rfl fun K hK => ?_
              try simp only [Act.put, List.setIfInBounds_toArray, List.set_cons_succ, List.set_cons_zero]
              go_big_quiet_op
              refine hK _ ?_
              refine BigFrame.wpQuiet_want rfl fun K hK => quiet_load 28 (.tmp 10) rfl (q10) rfl 28 _ (0, 0) _ (fun _ h => Calm.at O13.out h) Try.underlying28 rfl size28 (hK _ ?_)
              refine BigFrame.wpQuiet_want rfl fun K hK => ?_
              try simp only [Act.put, List.setIfInBounds_toArray, List.set_cons_succ, List.set_cons_zero]
              go_big_quiet_op
              refine ⟨_, Calm.calls b6, hK _ ?_⟩
              refine BigFrame.wpQuiet_want rfl fun K hK => ?_
              try simp only [Act.put, List.setIfInBounds_toArray, List.set_cons_succ, List.set_cons_zero]
              go_big_quiet_op
              refine ⟨_, Calm.calls b7, hK _ ?_⟩
              refine BigFrame.wpQuiet_want rfl fun K hK => ?_
              try simp only [Act.put, List.setIfInBounds_toArray, List.set_cons_succ, List.set_cons_zero]
              go_big_quiet_op
              refine ⟨_, fun _ _ => rfl, hK _ ?_⟩
              refine BigFrame.wpQuiet_want rfl fun K hK => ?_
              try simp only [Act.put, List.setIfInBounds_toArray, List.set_cons_succ, List.set_cons_zero]
              go_big_quiet_op
              refine hK _ ?_
              refine BigFrame.wpQuiet_want rfl fun K hK => ?_
              try simp only [Act.put, List.setIfInBounds_toArray, List.set_cons_succ, List.set_cons_zero]
              go_big_quiet_op
              refine ⟨_, fun _ _ => rfl, hK _ ?_⟩
              refine BigFrame.wpQuiet_want rfl fun K hK => quiet_cell (.tmp 164) rfl q11 0 rfl H 247 G0.out (fun _ h => Calm.at A13.out h) (hK _ ?_)
              try simp only [Act.put, List.setIfInBounds_toArray, List.set_cons_succ, List.set_cons_zero]
              refine BigFrame.wpQuiet_want rfl fun K hK => ?_
              try simp only [Act.put, List.setIfInBounds_toArray, List.set_cons_succ, List.set_cons_zero]
              go_big_quiet_op
              refine ⟨_, fun _ _ => rfl, hK _ ?_⟩
              refine BigFrame.wpQuiet_want rfl fun K hK => ?_
              try simp only [Act.put, List.setIfInBounds_toArray, List.set_cons_succ, List.set_cons_zero]
              go_big_quiet_op
              refine ⟨_, fun _ _ => rfl, hK _ ?_⟩
              refine BigFrame.wpQuiet_want rfl fun K hK => ?_
              try simp only [Act.put, List.setIfInBounds_toArray, List.set_cons_succ, List.set_cons_zero]
              go_big_quiet_op
              refine hK _ ?_
              refine BigFrame.wpQuiet_want rfl fun K hK => ?_
              try simp only [Act.put, List.setIfInBounds_toArray, List.set_cons_succ, List.set_cons_zero]
              go_big_quiet_op
              refine ⟨_, fun _ _ => rfl, hK _ ?_⟩
              refine BigFrame.wpQuiet_want rfl fun K hK => quiet_cell (.tmp 169) rfl q11 1 rfl H 255 G1.out (fun _ h => Calm.at A13.out h) (hK _ ?_)
              try simp only [Act.put, List.setIfInBounds_toArray, List.set_cons_succ, List.set_cons_zero]
              refine BigFrame.wpQuiet_want rfl fun K hK => ?_
              try simp only [Act.put, List.setIfInBounds_toArray, List.set_cons_succ, List.set_cons_zero]
              go_big_quiet_op
              refine ⟨_, fun _ _ => rfl, hK _ ?_⟩
              refine BigFrame.wpQuiet_want rfl fun K hK => ?_
              try simp only [Act.put, List.setIfInBounds_toArray, List.set_cons_succ, List.set_cons_zero]
              go_big_quiet_op
              refine ⟨_, fun _ _ => rfl, hK _ ?_⟩
              refine BigFrame.wpQuiet_want rfl fun K hK => ?_
              try simp only [Act.put, List.setIfInBounds_toArray, List.set_cons_succ, List.set_cons_zero]
              go_big_quiet_op
              refine hK _ ?_
              refine BigFrame.wpQuiet_want rfl fun K hK => ?_
              try simp only [Act.put, List.setIfInBounds_toArray, List.set_cons_succ, List.set_cons_zero]
              go_big_quiet_op
              refine ⟨_, fun _ _ => rfl, hK _ ?_⟩
              refine BigFrame.wpQuiet_want rfl fun K hK => quiet_cell (.tmp 174) rfl q11 31 rfl H 63 G31.out (fun _ h => Calm.at A13.out h) (hK _ ?_)
              try simp only [Act.put, List.setIfInBounds_toArray, List.set_cons_succ, List.set_cons_zero]
              refine BigFrame.wpQuiet_want rfl fun K hK => ?_
              try simp only [Act.put, List.setIfInBounds_toArray, List.set_cons_succ, List.set_cons_zero]
              go_big_quiet_op
              refine ⟨_, fun _ _ => rfl, hK _ ?_⟩
              refine BigFrame.wpQuiet_want rfl fun K hK => ?_
              try simp only [Act.put, List.setIfInBounds_toArray, List.set_cons_succ, List.set_cons_zero]
              go_big_quiet_op
              refine ⟨_, fun _ _ => rfl, hK _ ?_⟩
              refine BigFrame.wpQuiet_want rfl fun K hK => ?_
              try simp only [Act.put, List.setIfInBounds_toArray, List.set_cons_succ, List.set_cons_zero]
              go_big_quiet_op
              refine hK _ ?_
              refine BigFrame.wpQuiet_want rfl fun K hK => ?_
              try simp only [Act.put, List.setIfInBounds_toArray, List.set_cons_succ, List.set_cons_zero]
              go_big_quiet_op
              refine ⟨_, Calm.calls b8, hK _ ?_⟩
              refine BigFrame.wpQuiet_want rfl fun K hK => ?_
              try simp only [Act.put, List.setIfInBounds_toArray, List.set_cons_succ, List.set_cons_zero]
              go_big_quiet_op
              refine ⟨_, Calm.calls b9, hK _ ?_⟩
              refine BigFrame.wpQuiet_want rfl fun K hK => ?_
              try simp only [Act.put, List.setIfInBounds_toArray, List.set_cons_succ, List.set_cons_zero]
              go_big_quiet_op
              refine ⟨_, Calm.calls b8, hK _ ?_⟩
              refine BigFrame.wpQuiet_want rfl fun K hK => ?_
              try simp only [Act.put, List.setIfInBounds_toArray, List.set_cons_succ, List.set_cons_zero]
              go_big_quiet_op
              refine ⟨_, Calm.calls b10, hK _ ?_⟩
              refine BigFrame.wpQuiet_want rfl fun K hK => ?_
              try simp only [Act.put, List.setIfInBounds_toArray, List.set_cons_succ, List.set_cons_zero]
              go_big_quiet_op
              refine ⟨_, fun _ _ => rfl, hK _ ?_⟩
              refine BigFrame.wpQuiet_want rfl fun K hK => ?_
              try simp only [Act.put, List.setIfInBounds_toArray, List.set_cons_succ, List.set_cons_zero]
              go_big_quiet_op
              refine hK _ ?_
              refine wpQuiet_nil ?_
              intro w14 hw14
              try simp only [Act.put, List.setIfInBounds_toArray, List.set_cons_succ, List.set_cons_zero]
              have F14 := F13.out.trans hw14
              go_wp2
              go_ret
              exact ⟨rfl, F14⟩

set_option maxRecDepth 100000 in
theorem law_names_lifted (os : Os) (started : os.Started) (H : Type) (enc : TypeId × Value → H) :
    ReturnsInHanded {} Try.checked os 13 .any (Rows.fieldNamesSpec.pre6 enc Try.prog Try.f13 Rows.fieldNamesRow.domain false) (Rows.fieldNamesSpec.post enc Try.prog Try.f13 false true false false) := by
  refine returnsInHanded_of_change (C := Try.checked) own started (by kernel_rfl) Try.func13
    (ChangeSpec.witness6 (enc := enc) (C := Try.checked) false ⟨#[], #[], []⟩ 8 (by kernel_rfl) (by kernel_rfl) (by kernel_rfl) (by kernel_rfl)) ?_
  intro W base args ds gs before hval0 hW hcnd _
  have hval : ∀ (j : Nat) t v, Try.f13.params[j]? = some t → args[j]? = some v → Value.okWide Try.prog W .any base t v := hval0
  have hW' := hW
  obtain ⟨p, q, hA0, hV, rfl, hfz, hnd⟩ := hW
  have hA : DataW.TrodAll enc Try.prog W 0 (fun _ => true) true Try.f13.params.toList args.toList ds p := hA0
  rw [Try.params13] at hA hval
  obtain ⟨hargs, rfl, rfl⟩ := trodAll_nil hA
  obtain rfl : args = #[] := by cases args; simp_all
  obtain ⟨rfl, rfl⟩ := trodVars_none hV
  clear hA0 hval0
  refine (law_names_any W).mono fun e W' ⟨he, hg⟩ => ?_
  subst he
  exact ⟨_, rfl, post_true rfl hW' (by kernel_rfl) rfl rfl hg⟩

theorem fieldNames_holds : Rows.FieldNamesSaid :=
  OpenClaim.holds_of_wide 13 Try.f13 rfl rfl rfl rfl rfl rfl rfl ⟨rfl, rfl, rfl, rfl, rfl⟩ rfl rfl rfl rfl rfl (by kernel_rfl) Try.func13 (by kernel_rfl)
    (of_decide_eq_true (by kernel_rfl)) (by unfold Func.isWrapper; first | (rw [if_pos (by decide +kernel)]; kernel_rfl) | (rw [if_neg (by decide +kernel)]; exact ⟨rfl, rfl⟩))
    (fun os started H enc _ => law_names_lifted os started H enc)
#print axioms fieldNames_holds
end Go.Proofs.Ytmhoblefpkjdlaa
