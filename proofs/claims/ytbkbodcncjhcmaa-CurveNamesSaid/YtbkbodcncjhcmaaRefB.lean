/- The reference's minus, From: contracts. Each says its condition. -/
import Derived.Test.YtbkbodcncjhcmaaRefA
namespace Go.Proofs.Ytbkbodcncjhcmaa
open Go.RowKit

theorem Bys.snoc {l : List Int} (h : Bys l) {x : Int} (hx : 0 ≤ x ∧ x ≤ 255) : Bys (l ++ [x]) := by
  intro b hb
  rcases List.mem_append.1 hb with h1 | h1
  · exact h b h1
  · simp at h1; subst h1; exact hx
theorem vl_snoc (l : List Int) (x : Int) : vl (l ++ [x]) = vl l + 256 ^ l.length * x := by rw [vl_append]; simp [vl]
theorem vl_take_succ' (l : List Int) (k : Nat) (h : k < l.length) : vl (l.take (k + 1)) = vl (l.take k) + 256 ^ k * l.getD k 0 := by
  have e : l[k] = l.getD k 0 := by
    have := getD_some h
    rw [List.getElem?_eq_getElem h] at this
    injection this
  rw [vl_take_succ l k h, e]
theorem put_snoc (o a : List Int) (x : Int) (h : o.length < a.length) : (o ++ a.drop o.length).set o.length x = (o ++ [x]) ++ a.drop (o.length + 1) := by
  rw [List.set_append_right _ _ (Nat.le_refl _), Nat.sub_self, List.drop_eq_getElem_cons h, List.set_cons_zero, List.append_assoc]
  rfl
theorem get_snoc (o a : List Int) (h : o.length < a.length) : (o ++ a.drop o.length)[o.length]? = some (a.getD o.length 0) := by
  rw [List.getElem?_append_right (Nat.le_refl _), Nat.sub_self, List.getElem?_drop, Nat.add_zero]
  exact getD_some h

set_option maxHeartbeats 2000000 in
theorem minus_is (l m : List Int) (w : World) (hl : l.length = 32) (hm : m.length = 32) (bl : Bys l) (bm : Bys m) (hle : vl m ≤ vl l) :
    Calls Try.prog 46 #[.agg (vs .u8 l), .agg (vs .u8 m)] w fun e w' => e = .returned (by32 (vl l - vl m)) ∧ Fr (fun _ => False) w w' := by
  have HB := Lib.hid (And.intro hl (And.intro hm (And.intro bl (And.intro bm hle))))
  clear hl hm bl bm hle
  have HZ : Hid (Ar ((((w.alloc (.cells (vs .u8 l) 22)).alloc (.cells (vs .u8 m) 22)).alloc (.cells (vs .u8 (List.replicate 32 0)) 22))) (w.heap.size + 1 + 1) 22 .u8 (List.replicate 32 0)) :=
    (alloc3 w _ _ _).2.2
  have hz : ∀ W : World, (zeroValue 22).run Try.prog W = .ok (.agg (vs .u8 (List.replicate 32 0))) W := fun W => by kernel_rfl
  go_enter Try.func46, Try.ntmps46
  go_wp2
  go_loopw [5, 6, 7] (fun u5 u6 u7 wr => ∃ (k : Nat) (bo : Int) (o : List Int), u6 = .int .i64 k ∧ u5 = .int .i64 bo ∧ k ≤ 32 ∧ 0 ≤ bo ∧ bo ≤ 1 ∧ Hid (o.length = k ∧ Bys o ∧ vl o - 256 ^ k * bo = vl (l.take k) - vl (m.take k)) ∧
      Hid (Ar wr w.heap.size 22 .u8 (o ++ l.drop k)) ∧ Hid (Ar wr (w.heap.size + 1) 22 .u8 m) ∧ Hid (Ar wr (w.heap.size + 1 + 1) 22 .u8 (List.replicate 32 0)) ∧ Hid (Fr (fun _ => False) w wr))
    (fun _ u6 _ _ => 32 - (intOf u6).toNat)
  case atStart =>
    exact ⟨0, 0, [], rfl, rfl, by omega, by omega, by omega, ⟨rfl, fun b hb => by (cases hb), by simp [vl]⟩, ((Ar.new w 22 .u8 l).alloc _).alloc _, (Ar.alloc1 w 22 22 .u8 .u8 l m).alloc _, HZ, (((Fr.refl _ _).alloc _).alloc _).alloc _⟩
  case round =>
    obtain ⟨k, bo, o, rfl, rfl, hk, hb0, hb1, ho, hA, hB, hR, hF⟩ := hrel
    by_cases hlt : k < 32
    · obtain ⟨hl, hm, bl, bm, hle⟩ := HB.out
      obtain ⟨ok, ob, ov⟩ := ho.out
      obtain ⟨a, ha⟩ : ∃ a, a = l.getD k 0 := ⟨_, rfl⟩
      obtain ⟨b, hb⟩ : ∃ b, b = m.getD k 0 := ⟨_, rfl⟩
      have ga := get_snoc o l (by omega)
      have gb := getD_some (l := m) (i := k) (by omega)
      have la := bl a (by rw [ha]; exact List.mem_of_getElem? (getD_some (by omega)))
      have lb := bm b (by rw [hb]; exact List.mem_of_getElem? (getD_some (by omega)))
      have sa := vl_take_succ' l k (by omega)
      have sb := vl_take_succ' m k (by omega)
      have sp := fun x => put_snoc o l x (by omega)
      rw [ok] at ga sp
      rw [← ha] at ga sa
      rw [← hb] at gb sb
      have ca := hA.out.cell ga
      have cb := hB.out.cell gb
      have hfz := hA.out.frozen k
      have a0 := la.1
      have a1 := la.2
      have b0 := lb.1
      have b1 := lb.2
      have HG := Lib.hid (And.intro sa (And.intro sb (And.intro sp (And.intro ok (And.intro ob ov)))))
      clear ha hb ga gb la lb sa sb sp ok ob ov hl hm bl bm hle
      by_cases hd : a - b - bo < 0
      · go_wp2
        go_quiet (fail)
        go_wp2
        go_roundw
        case rel =>
          obtain ⟨sa, sb, sp, ok, ob, ov⟩ := HG.out
          refine ⟨k + 1, 1, o ++ [a - b - bo + 256], by go_num, rfl, by omega, by omega, by omega, ⟨by simp [ok], ob.snoc (by omega), ?_⟩, ?_, ?_, ?_, ?_⟩
          · rw [vl_snoc, ok, sa, sb, Int.pow_succ]
            generalize (256 : Int) ^ k = P at *
            grind
          · show Ar _ _ _ _ _
            rw [← sp]
            exact (hA.out.drewN _).set k _
          · exact (hB.out.drewN _).far (by simp) _
          · exact (hR.out.drewN _).far (by simp <;> omega) _
          · exact Fr.setCell (hF.out.drewN _) _ (.inr (by simp))
        case measure => simp [intOf]; omega
      · go_wp2
        go_quiet (fail)
        go_wp2
        go_roundw
        case rel =>
          obtain ⟨sa, sb, sp, ok, ob, ov⟩ := HG.out
          refine ⟨k + 1, 0, o ++ [a - b - bo], by go_num, rfl, by omega, by omega, by omega, ⟨by simp [ok], ob.snoc (by omega), ?_⟩, ?_, ?_, ?_, ?_⟩
          · rw [vl_snoc, ok, sa, sb, Int.pow_succ]
            generalize (256 : Int) ^ k = P at *
            grind
          · show Ar _ _ _ _ _
            rw [← sp]
            exact (hA.out.drewN _).set k _
          · exact (hB.out.drewN _).far (by simp) _
          · exact (hR.out.drewN _).far (by simp <;> omega) _
          · exact Fr.setCell (hF.out.drewN _) _ (.inr (by simp))
        case measure => simp [intOf]; omega
    · obtain rfl : k = 32 := by omega
      have ho2 : Hid (o = lb 32 (vl l - vl m)) := by
        obtain ⟨hl, hm, bl, bm, hle⟩ := HB.out
        obtain ⟨ok, ob, ov⟩ := ho.out
        rw [List.take_of_length_le (by omega), List.take_of_length_le (by omega)] at ov
        have h1 := vl_bd o ob
        have h2 := vl_bd l bl
        have h3 := vl_bd m bm
        rw [ok] at h1
        rw [hl] at h2
        rw [hm] at h3
        have : bo = 0 ∨ bo = 1 := by omega
        rcases this with rfl | rfl
        · show _ = _
          rw [← show vl o = vl l - vl m by omega, ← ok, lb_vl o ob]
        · exfalso
          omega
      have hA' : Hid (Ar wr w.heap.size 22 .u8 (lb 32 (vl l - vl m))) := by
        have := hA.out
        rw [List.drop_eq_nil_of_le (by rw [HB.out.1]; omega), List.append_nil, ho2.out] at this
        exact this
      have HS1 : Hid ((Try.prog.info? 22).map (·.size) = some (vs .u8 (lb 32 (vl l - vl m))).size) := by show _ = _; rw [size22, vs_size, lb_length]
      have HS2 : Hid ((vs .u8 (List.replicate 32 0)).size = (vs .u8 (lb 32 (vl l - vl m))).size) := by show _ = _; rw [vs_size, vs_size, lb_length]; rfl
      go_wp2_with (first
        | refine wpList_load_row rfl 22 (.tmp 2) rfl w.heap.size rfl 22 (vs .u8 (lb 32 (vl l - vl m))) (0, 0) _ hA'.out Try.underlying22 rfl HS1.out ?_
        | refine wpList_store_row rfl 22 (.tmp 4) (.tmp 31) rfl (w.heap.size + 1 + 1) (vs .u8 (lb 32 (vl l - vl m))) rfl rfl 22 _ hR.out HS1.out HS2.out (vs_all _ _) ?_)
      exact bodyPost_ret (results_cell_row Try.results46 _ _ _ 22 _ (0, 0) _ rfl (hR.out.row _) Try.underlying22 rfl HS1.out) rfl ⟨rfl, Fr.setRow hF.out _ (.inr (by omega))⟩

/-! ### From -/
/-- Two bytes each make a digit. -/
def pairs (l : List Int) : Nat → List Int
  | 0 => []
  | n + 1 => (l.getD 0 0 + 256 * l.getD 1 0) :: pairs (l.drop 2) n
theorem pairs_length (l : List Int) (n : Nat) : (pairs l n).length = n := by
  induction n generalizing l with
  | zero => rfl
  | succ n ih => simp [pairs, ih]
theorem pairs_get (l : List Int) (n k : Nat) (h : k < n) : (pairs l n)[k]? = some (l.getD (2 * k) 0 + 256 * l.getD (2 * k + 1) 0) := by
  induction n generalizing l k with
  | zero => omega
  | succ n ih =>
    cases k with
    | zero => simp [pairs]
    | succ k =>
      simp only [pairs, List.getElem?_cons_succ]
      rw [ih _ _ (by omega)]
      simp only [List.getD_eq_getElem?_getD, List.getElem?_drop]
      rw [show 2 + 2 * k = 2 * (k + 1) by omega, show 2 + (2 * k + 1) = 2 * (k + 1) + 1 by omega]
theorem pairs_digs (l : List Int) (n : Nat) (h : Bys l) (hn : 2 * n ≤ l.length) : Digs (pairs l n) := by
  intro b hb
  obtain ⟨k, hk, e⟩ := List.mem_iff_getElem.1 hb
  rw [pairs_length] at hk
  have g := pairs_get l n k hk
  rw [List.getElem?_eq_getElem (by rw [pairs_length]; exact hk), e] at g
  injection g with g
  have h1 := h _ (List.mem_of_getElem? (getD_some (l := l) (i := 2 * k) (by omega)))
  have h2 := h _ (List.mem_of_getElem? (getD_some (l := l) (i := 2 * k + 1) (by omega)))
  omega
theorem pairs_val (l : List Int) (n : Nat) (hn : l.length = 2 * n) : vd (pairs l n) = vl l := by
  induction n generalizing l with
  | zero =>
    obtain rfl : l = [] := List.eq_nil_of_length_eq_zero (by omega)
    rfl
  | succ n ih =>
    match l, hn with
    | a :: b :: r, hn =>
      simp only [pairs, vd, vl, List.drop_succ_cons, List.drop_zero, List.getD_cons_zero, List.getD_cons_succ]
      rw [ih r (by simp at hn; omega)]
      omega
theorem vd_set15 (x : List Int) (y : Int) (hl : x.length = 16) : vd (x.set 15 y) = vd x + 1766847064778384329583297500742918515827483896875618958121606201292619776 * (y - x.getD 15 0) := by
  match x, hl with
  | [a, b, c, d, e, f, g, h, i, j, k, l, m, n, o, p], _ =>
    simp [vd]
    omega
theorem vd_top (x : List Int) (hl : x.length = 16) (hd : Digs x) : ∃ r, 0 ≤ r ∧ r < 1766847064778384329583297500742918515827483896875618958121606201292619776 ∧ vd x = r + 1766847064778384329583297500742918515827483896875618958121606201292619776 * x.getD 15 0 := by
  refine ⟨vd (x.take 15), (vd_bd _ (fun b hb => hd b (List.mem_of_mem_take hb))).1, ?_, ?_⟩
  · have := (vd_bd (x.take 15) (fun b hb => hd b (List.mem_of_mem_take hb))).2
    rw [List.length_take, Nat.min_eq_left (by omega)] at this
    exact this
  · have := vd_take_succ x 15 (by omega)
    rw [List.take_of_length_le (by omega)] at this
    rw [this]
    rfl
theorem i64_and32767 (n : Int) : bits .and .i64 n 32767 = n % 32768 := by
  have h127 : (BitVec.ofInt 64 32767).toNat = 2 ^ 15 - 1 := by decide
  have key : (BitVec.ofInt 64 n &&& BitVec.ofInt 64 32767).toNat = (n % ((2 ^ 64 : Nat) : Int)).toNat % 2 ^ 15 := by
    rw [BitVec.toNat_and, BitVec.toNat_ofInt, h127, Nat.and_two_pow_sub_one_eq_mod]
  show IntKind.i64.wrap ((BitVec.ofInt 64 n &&& BitVec.ofInt 64 32767).toNat : Nat) = n % 32768
  rw [key, IntKind.wrap_i64]
  omega

/-- What From makes of bytes. -/
def frm (l : List Int) : List Int := (pairs l 16).set 15 ((pairs l 16).getD 15 0 % 32768)
def p255 : Int := 57896044618658097711785492504343953926634992332820282019728792003956564819968
theorem frm_ok (l : List Int) (hl : l.length = 32) (hb : Bys l) : NumOf (frm l) (vl l % p255 % pp) := by
  have hdg := pairs_digs l 16 hb (by omega)
  have hvl := pairs_val l 16 (by omega)
  have hlen := pairs_length l 16
  have hxb := hdg _ (List.mem_of_getElem? (getD_some (l := pairs l 16) (i := 15) (by omega)))
  obtain ⟨r, hr0, hr1, hr⟩ := vd_top _ hlen hdg
  unfold frm
  refine ⟨by rw [List.length_set, hlen], ?_, ?_⟩
  · intro b hb
    rcases List.mem_or_eq_of_mem_set hb with hb | rfl
    · exact hdg b hb
    · omega
  · rw [vd_set15 _ _ hlen, ← hvl]
    rw [hr]
    congr 1
    unfold p255
    omega
set_option maxHeartbeats 2000000 in
theorem rfrom_is (l : List Int) (w : World) (hl : l.length = 32) (hb : Bys l) :
    Calls Try.prog 30 #[.agg (vs .u8 l)] w fun e w' => e = .returned (nm (frm l)) ∧ Fr (fun _ => False) w w' := by
  obtain ⟨D, hD⟩ : ∃ D, D = pairs l 16 := ⟨_, rfl⟩
  have hlen : Hid (D.length = 16) := by show _ = _; rw [hD, pairs_length]
  have HL : Hid (D = pairs l 16 ∧ l.length = 32 ∧ Bys l) := ⟨hD, hl, hb⟩
  have hz0 : Hid (vs .i64 (fil D 0 0) = #[.int .i64 0, .int .i64 0, .int .i64 0, .int .i64 0, .int .i64 0, .int .i64 0, .int .i64 0, .int .i64 0, .int .i64 0, .int .i64 0, .int .i64 0, .int .i64 0, .int .i64 0, .int .i64 0, .int .i64 0, .int .i64 0]) := by
    show _ = _
    rw [fil_zero, hlen.out]
    rfl
  clear hD hl hb
  go_enter Try.func30, Try.ntmps30
  go_wp2
  go_loopw [4] (fun u4 wr => ∃ k : Nat, u4 = .int .i64 k ∧ k ≤ 16 ∧ Hid (Ar wr w.heap.size 22 .u8 l) ∧ Hid (Ar wr (w.heap.size + 1) 49 .i64 (fil D 0 0)) ∧ Hid (Ar wr (w.heap.size + 1 + 1) 48 .i64 (fil D k 0)) ∧ Hid (Fr (fun _ => False) w wr))
    (fun u4 _ => 16 - (intOf u4).toNat)
  case atStart =>
    have e := alloc3 w (.cells (vs .u8 l) 22) (.cells (vs .i64 (fil D 0 0)) 49) (.cells (vs .i64 (fil D 0 0)) 48)
    rw [hz0.out] at e
    exact ⟨0, rfl, by omega, e.1, by show _ = _; rw [hz0.out]; exact e.2.1, by show _ = _; rw [hz0.out]; exact e.2.2, (((Fr.refl _ _).alloc _).alloc _).alloc _⟩
  case round =>
    obtain ⟨k, rfl, hk, hA, hR, hB, hF⟩ := hrel
    by_cases hlt : k < 16
    · obtain ⟨hD, hl, hb⟩ := HL.out
      obtain ⟨a, ha⟩ : ∃ a, a = l.getD (2 * k) 0 := ⟨_, rfl⟩
      obtain ⟨b, hbb⟩ : ∃ b, b = l.getD (2 * k + 1) 0 := ⟨_, rfl⟩
      have ga := getD_some (l := l) (i := 2 * k) (by omega)
      have gb := getD_some (l := l) (i := 2 * k + 1) (by omega)
      rw [← ha] at ga
      rw [← hbb] at gb
      have la := hb a (List.mem_of_getElem? ga)
      have lb := hb b (List.mem_of_getElem? gb)
      have ca := hA.out.cell ga
      have cb := hA.out.cell gb
      have gd : Hid (D[k]? = some (a + 256 * b)) := by show _ = _; rw [hD, pairs_get _ _ _ hlt, ha, hbb]
      have cd := hB.out.cell (fil_get D k 0 (by rw [hlen.out]; exact hlt))
      have hfz := hB.out.frozen k
      have a0 := la.1
      have a1 := la.2
      have b0 := lb.1
      have b1 := lb.2
      have t1 : (2 * (k : Int)).toNat = 2 * k := by omega
      have t2 : (2 * (k : Int) + 1).toNat = 2 * k + 1 := by omega
      have w1 : IntKind.i64.wrap (2 * (k : Int)) = 2 * k := IntWalk.i64_in _ (by omega)
      have w2 : IntKind.i64.wrap (2 * (k : Int) + 1) = 2 * k + 1 := IntWalk.i64_in _ (by omega)
      have s0 : 0 ≤ 2 * (k : Int) := by omega
      have s1 : 2 * (k : Int) < 32 := by omega
      have s2 : 2 * (k : Int) + 1 < 32 := by omega
      clear ha hbb ga gb la lb hD hl hb
      go_wp2
      go_region
      go_wp2
      go_roundw
      case rel =>
        refine ⟨k + 1, by go_num, by omega, (hA.out.far (by simp <;> omega) _).drew, (hR.out.far (by simp) _).drew, ?_, (Fr.setCell hF.out _ (.inr (by simp <;> omega))).drew⟩
        show Ar _ _ _ _ _
        rw [← fil_set D k 0 _ gd.out]
        exact (hB.out.set k _).drew
      case measure => simp [intOf]; omega
    · obtain rfl : k = 16 := by omega
      have hB' : Hid (Ar wr (w.heap.size + 1 + 1) 48 .i64 D) := by
        have := hB.out
        have e := fil_all D (0 : Int)
        rw [hlen.out] at e
        rwa [e] at this
      obtain ⟨hD, hl, hb⟩ := HL.out
      have hdg := pairs_digs l 16 hb (by omega)
      have hvl := pairs_val l 16 (by omega)
      rw [← hD] at hdg hvl
      have gc := getD_some (l := D) (i := 15) (by rw [hlen.out]; omega)
      obtain ⟨x, hx⟩ : ∃ x, x = D.getD 15 0 := ⟨_, rfl⟩
      have hxb := hdg _ (List.mem_of_getElem? gc)
      rw [← hx] at gc hxb
      have cc := hB'.out.cell gc
      have hfz := hB'.out.frozen 15
      have hand := i64_and32767 x
      have hN : Hid (D.set 15 (x % 32768) = frm l) := by
        show _ = _
        rw [hx, hD]
        rfl
      have hA2 : Hid (Ar (wr.setCell ⟨w.heap.size + 1 + 1, 15, none⟩ (.int .i64 (x % 32768))) (w.heap.size + 1 + 1) 48 .i64 (D.set 15 (x % 32768))) := hB'.out.set 15 _
      have hR2 : Hid (Ar (wr.setCell ⟨w.heap.size + 1 + 1, 15, none⟩ (.int .i64 (x % 32768))) (w.heap.size + 1) 49 .i64 (fil D 0 0)) := hR.out.far (by simp) _
      have HS0 : Hid ((Try.prog.info? 48).map (·.size) = some (vs .i64 (D.set 15 (x % 32768))).size) := by show _ = _; rw [size30, vs_size, List.length_set, hlen.out]
      have HS1 : Hid ((Try.prog.info? 49).map (·.size) = some (vs .i64 (D.set 15 (x % 32768))).size) := by show _ = _; rw [size31, vs_size, List.length_set, hlen.out]
      have HS2 : Hid ((vs .i64 (fil D 0 0)).size = (vs .i64 (D.set 15 (x % 32768))).size) := by show _ = _; rw [vs_size, vs_size, List.length_set, fil_length _ _ _ (by omega)]
      clear hD hl hb hdg hvl hx gc hxb
      go_wp2_with (first
        | refine wpList_load_row rfl 48 (.tmp 3) rfl (w.heap.size + 1 + 1) rfl 48 (vs .i64 (D.set 15 (x % 32768))) (0, 0) _ hA2.out Try.underlying48 rfl HS0.out ?_
        | refine wpList_store_row rfl 49 (.tmp 2) (.tmp 28) rfl (w.heap.size + 1) (vs .i64 (D.set 15 (x % 32768))) rfl rfl 49 _ hR2.out HS1.out HS2.out (vs_all _ _) ?_)
      exact bodyPost_ret (results_cell_row Try.results30 _ _ _ 49 _ (0, 0) _ rfl (hR2.out.row _) Try.underlying49 rfl HS1.out) rfl ⟨by rw [← hN.out]; rfl, Fr.setRow (hF.out.setCell _ (.inr (by simp <;> omega))) _ (.inr (by omega))⟩
end Go.Proofs.Ytbkbodcncjhcmaa
