/- The reference's prime, less, minus: contracts over 32 bytes. Each says its condition. -/
import Derived.Test.YtbkbodcncjhcmaaCarry
namespace Go.Proofs.Ytbkbodcncjhcmaa
open Go.RowKit

theorem by32_eq (v : Int) : by32 v = .agg (vs .u8 (lb 32 v)) := rfl
theorem fil_get {α : Type} (L : List α) (k : Nat) (x : α) (h : k < L.length) : (fil L k x)[k]? = some x := by
  unfold fil
  rw [List.getElem?_append_right (by simp; omega), List.length_take, Nat.min_eq_left (by omega), Nat.sub_self, List.getElem?_replicate, if_pos (by omega)]

set_option maxHeartbeats 2000000 in
theorem prime_is (w : World) : Calls Try.prog 44 #[] w fun e w' => e = .returned (by32 pp) ∧ Fr (fun _ => False) w w' := by
  obtain ⟨L, hL⟩ : ∃ L, L = List.replicate 32 (255 : Int) := ⟨_, rfl⟩
  have hlen : Hid (L.length = 32) := by show _ = _; rw [hL]; rfl
  have hz : ∀ W : World, (zeroValue 22).run Try.prog W = .ok (.agg (vs .u8 (fil L 0 0))) W := fun W => by
    rw [fil_zero, hlen.out]
    kernel_rfl
  have HL := Lib.hid hL
  clear hL
  go_enter Try.func44, Try.ntmps44
  go_wp2
  go_loopw [2] (fun u2 wr => ∃ k : Nat, u2 = .int .i64 k ∧ k ≤ 32 ∧ Hid (Ar wr w.heap.size 22 .u8 (fil L 0 0)) ∧ Hid (Ar wr (w.heap.size + 1) 22 .u8 (fil L k 0)) ∧ Hid (Fr (fun _ => False) w wr))
    (fun u2 _ => 32 - (intOf u2).toNat)
  case atStart => exact ⟨0, rfl, by omega, (Ar.new w 22 .u8 _).alloc _, Ar.alloc1 w 22 22 .u8 .u8 _ _, ((Fr.refl _ _).alloc _).alloc _⟩
  case round =>
    obtain ⟨k, rfl, hk, hR, hA, hF⟩ := hrel
    by_cases hlt : k < 32
    · have hcell := hA.out.cell (fil_get L k 0 (by rw [hlen.out]; omega))
      have hfz := hA.out.frozen k
      go_wp2
      go_roundw
      case rel =>
        refine ⟨k + 1, by go_num, by omega, hR.out.far (by simp) _, ?_, Fr.setCell hF.out _ (.inr (by simp))⟩
        show Ar _ _ _ _ _
        rw [← fil_set L k 0 255 (by rw [HL.out, List.getElem?_replicate, if_pos (by omega)])]
        exact hA.out.set k 255
      case measure => simp [intOf]; omega
    · obtain rfl : k = 32 := by omega
      have hA' : Hid (Ar wr (w.heap.size + 1) 22 .u8 (List.replicate 32 255)) := by
        have := hA.out
        have e := fil_all L (0 : Int)
        rw [hlen.out, HL.out] at e
        rwa [HL.out, e] at this
      have hc0 := hA'.out.cell (i := 0) (x := 255) rfl
      have hf0 := hA'.out.frozen 0
      have hc1 := (hA'.out.set 0 237).cell (i := 31) (x := 255) rfl
      have hf1 := (hA'.out.set 0 237).frozen 31
      have hB : Hid (Ar ((wr.setCell ⟨w.heap.size + 1, 0, none⟩ (.int .u8 237)).setCell ⟨w.heap.size + 1, 31, none⟩ (.int .u8 127)) (w.heap.size + 1) 22 .u8 (lb 32 pp)) := (hA'.out.set 0 237).set 31 127
      have hR' : Hid (Ar ((wr.setCell ⟨w.heap.size + 1, 0, none⟩ (.int .u8 237)).setCell ⟨w.heap.size + 1, 31, none⟩ (.int .u8 127)) w.heap.size 22 .u8 (fil L 0 0)) := (hR.out.far (by simp) _).far (by simp) _
      have HS1 : Hid ((Try.prog.info? 22).map (·.size) = some (vs .u8 (lb 32 pp)).size) := by show _ = _; rw [size22, vs_size, lb_length]
      have HS2 : Hid ((vs .u8 (fil L 0 0)).size = (vs .u8 (lb 32 pp)).size) := by show _ = _; rw [vs_size, vs_size, lb_length, fil_length _ _ _ (by omega), hlen.out]
      go_wp2_with (first
        | refine wpList_load_row rfl 22 (.tmp 1) rfl (w.heap.size + 1) rfl 22 (vs .u8 (lb 32 pp)) (0, 0) _ hB.out Try.underlying22 rfl HS1.out ?_
        | refine wpList_store_row rfl 22 (.tmp 0) (.tmp 11) rfl w.heap.size (vs .u8 (lb 32 pp)) rfl rfl 22 _ hR'.out HS1.out HS2.out (vs_all _ _) ?_)
      exact bodyPost_ret (results_cell_row Try.results44 _ _ _ 22 _ (0, 0) _ rfl (hR'.out.row _) Try.underlying22 rfl HS1.out) rfl ⟨rfl, Fr.setRow ((hF.out.setCell _ (.inr (by simp))).setCell _ (.inr (by simp))) _ (.inr (by omega))⟩

/-! ### less -/
theorem vl_split (l : List Int) (i : Nat) (h : i < l.length) : vl l = vl (l.take i) + 256 ^ i * (l.getD i 0 + 256 * vl (l.drop (i + 1))) := by
  have e : l[i] = l.getD i 0 := by
    have := getD_some h
    rw [List.getElem?_eq_getElem h] at this
    injection this
  conv => lhs; rw [← List.take_append_drop i l]
  rw [vl_append, List.drop_eq_getElem_cons h, e, List.length_take, Nat.min_eq_left (by omega)]
  rfl
theorem lt_of_digit (l m : List Int) (i : Nat) (hl : i < l.length) (hm : i < m.length) (bl : Bys l) (bm : Bys m) (hd : l.drop (i + 1) = m.drop (i + 1)) (hx : l.getD i 0 < m.getD i 0) : vl l < vl m := by
  rw [vl_split l i hl, vl_split m i hm, hd]
  have h1 := vl_bd (l.take i) (fun x hx => bl x (List.mem_of_mem_take hx))
  have h2 := vl_bd (m.take i) (fun x hx => bm x (List.mem_of_mem_take hx))
  rw [List.length_take, Nat.min_eq_left (by omega)] at h1 h2
  generalize vl (m.drop (i + 1)) = r
  generalize (256 : Int) ^ i = P at *
  have : P * (l.getD i 0 + 256 * r) + P ≤ P * (m.getD i 0 + 256 * r) := by
    have : P * (l.getD i 0 + 256 * r) + P = P * (l.getD i 0 + 1 + 256 * r) := by grind
    rw [this]
    exact Int.mul_le_mul_of_nonneg_left (by omega) (by omega)
  omega

set_option maxHeartbeats 2000000 in
theorem less_is (l m : List Int) (w : World) (hl : l.length = 32) (hm : m.length = 32) (bl : Bys l) (bm : Bys m) :
    Calls Try.prog 45 #[.agg (vs .u8 l), .agg (vs .u8 m)] w fun e w' => e = .returned (.bool (decide (vl l < vl m))) ∧ Fr (fun _ => False) w w' := by
  have HB := Lib.hid (And.intro hl (And.intro hm (And.intro bl bm)))
  clear hl hm bl bm
  go_enter Try.func45, Try.ntmps45
  go_wp2
  go_loopw [5] (fun u5 wr => ∃ (k : Nat) (x : Int), u5 = .int .i64 x ∧ Hid (x = (k : Int) - 1) ∧ k ≤ 32 ∧ Hid (l.drop k = m.drop k) ∧ Hid (Ar wr w.heap.size 22 .u8 l) ∧ Hid (Ar wr (w.heap.size + 1) 22 .u8 m) ∧ Hid (Fr (fun _ => False) w wr))
    (fun u5 _ => (intOf u5 + 1).toNat)
  case atStart => exact ⟨32, 31, rfl, rfl, by omega, by show _ = _; rw [List.drop_eq_nil_of_le (by rw [HB.out.1]; omega), List.drop_eq_nil_of_le (by rw [HB.out.2.1]; omega)], (Ar.new w 22 .u8 _).alloc _, Ar.alloc1 w 22 22 .u8 .u8 _ _, ((Fr.refl _ _).alloc _).alloc _⟩
  case round =>
    obtain ⟨k, x, rfl, hx, hk, hd, hA, hB, hF⟩ := hrel
    rcases k with _ | k
    · obtain rfl : x = -1 := by have := hx.out; omega
      have he : l = m := by have := hd.out; simpa using this
      have hf : Hid (decide (vl l < vl m) = false) := by show _ = _; rw [he]; simp
      clear he
      go_wp2
      go_ret
      exact ⟨by rw [hf.out]; rfl, hF.out⟩
    · obtain rfl : x = (k : Int) := by have := hx.out; omega
      obtain ⟨hl, hm, bl, bm⟩ := HB.out
      have ga := getD_some (l := l) (i := k) (by omega)
      have gb := getD_some (l := m) (i := k) (by omega)
      obtain ⟨a, ha⟩ : ∃ a, a = l.getD k 0 := ⟨_, rfl⟩
      obtain ⟨b, hb⟩ : ∃ b, b = m.getD k 0 := ⟨_, rfl⟩
      rw [← ha] at ga
      rw [← hb] at gb
      have ca := hA.out.cell ga
      have cb := hB.out.cell gb
      by_cases hab : a = b
      · have hd' : Hid (l.drop k = m.drop k) := by
          show _ = _
          rw [List.drop_eq_getElem_cons (by omega), List.drop_eq_getElem_cons (l := m) (by omega), hd.out]
          rw [List.getElem?_eq_getElem (by omega)] at ga gb
          injection ga with ga
          injection gb with gb
          rw [ga, gb, hab]
        subst hab
        have HG := Lib.hid (And.intro ga (And.intro gb (And.intro ha hb)))
        clear ga gb ha hb hl hm bl bm
        go_wp2
        go_quiet (fail)
        go_wp2
        go_roundw
        case rel =>
          exact ⟨k, _, rfl, rfl, by omega, hd', hA.out.drewN _, hB.out.drewN _, hF.out.drewN _⟩
        case measure => simp [intOf]
      · have hne : (a != b) = true := by simpa using hab
        have hf : Hid (decide (vl l < vl m) = decide (a < b)) := by
          show _ = _
          apply decide_eq_decide.2
          constructor
          · intro h
            rcases Int.lt_trichotomy a b with h1 | h1 | h1
            · exact h1
            · exact absurd h1 hab
            · have := lt_of_digit m l k (by omega) (by omega) bm bl hd.out.symm (by rw [← ha, ← hb]; exact h1)
              omega
          · intro h
            exact lt_of_digit l m k (by omega) (by omega) bl bm hd.out (by rw [← ha, ← hb]; exact h)
        have HG := Lib.hid (And.intro ga (And.intro gb (And.intro ha hb)))
        clear ga gb ha hb hl hm bl bm hab
        go_wp2
        go_quiet (fail)
        go_wp2
        go_quiet (fail)
        go_wp2
        go_ret
        exact ⟨by rw [hf.out]; rfl, (hF.out.drewN _).drewN _⟩
end Go.Proofs.Ytbkbodcncjhcmaa
