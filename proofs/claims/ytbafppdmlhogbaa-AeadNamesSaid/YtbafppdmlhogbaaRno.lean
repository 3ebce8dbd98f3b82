/- The nonce of a number, as the reference has it: contract. Condition: the number is an int. -/
import Derived.Test.YtbafppdmlhogbaaLo
import Derived.Test.YtbafppdmlhogbaaBl
namespace Go.Proofs.Ytbafppdmlhogbaa
set_option linter.unusedSimpArgs false
set_option linter.unusedVariables false
open Go.ChangeShapes Go.WideShapes Go.ChangeAt Go.RowKit

theorem results_row_int {P : Program} {fn : Func} {p q : Tmp} {ty : TypeId} (h : fn.results = #[.cell p ty, .tmp q]) (tmps : Array Value) (w : World) (g : Nat) (t : TypeId) (cs : Array Value) (fr : Nat × Nat) (d : TypeDesc) (v : Value)
    (hp : tmps.getD p undef = .pointer (some ⟨g, 0, none⟩)) (hg : w.heap[g]? = some (.cells cs t fr)) (hu : P.underlying ty = some d) (hd : (match d with | .struct _ | .array _ _ => true | _ => false) = true) (hi : (P.info? ty).map (·.size) = some cs.size)
    (hq : tmps.getD q undef = v) : (results fn tmps).run P w = .ok (.tuple #[.agg cs, v]) w := by
  have k1 : tmps[p]?.getD undef = .pointer (some ⟨g, 0, none⟩) := by simpa using hp
  have k2 : tmps[q]?.getD undef = v := by simpa using hq
  simp [results, h, k1, k2, asAddr, run_loadVar_row w g t ty cs fr d hg hu hd hi]

/-- What Nonce answers. -/
def noncev (x : Int) : List Int × Int := if 0 ≤ x ∧ x ≤ 9007199254740991 then (nonce x, 0) else (List.replicate 12 0, 9)
theorem noncev_length (x : Int) : (noncev x).1.length = 12 := by unfold noncev; split <;> simp [nonce_length]
theorem noncev_bys (x : Int) : Bys (noncev x).1 := by
  unfold noncev
  split
  · exact nonce_bys x
  · exact noughts6 12
theorem zero12 : ∀ W : World, (zeroValue 22).run Try.prog W = .ok (.agg (vs .u8 (List.replicate 12 0))) W := fun _ => by kernel_rfl
theorem nonce_fil (x : Int) : fil (nonce x) 4 0 = List.replicate 12 0 := rfl
theorem nonce_get (x : Int) (i : Nat) (h : i < 8) : (nonce x)[4 + i]? = some (x / 2 ^ (8 * i) % 256) := by
  rw [nonce, List.getElem?_append_right (by simp), show 4 + i - [0, 0, 0, (0 : Int)].length = i by simp, les_get 8 x i h, pow8' i]
set_option maxHeartbeats 8000000 in
theorem rnonce_is (x : Int) (w : World) (hx : -9223372036854775808 ≤ x ∧ x ≤ 9223372036854775807) :
    Calls Try.prog 14 #[.int .i64 x] w fun e w' => e = .returned (.tuple #[.agg (vs .u8 (noncev x).1), .int .i64 (noncev x).2]) ∧ Fr (fun _ => False) w w' := by
  obtain ⟨L, hL⟩ : ∃ L, L = nonce x := ⟨_, rfl⟩
  have lL : Hid (L.length = 12) := by show _ = _; rw [hL, nonce_length]
  have hz : ∀ W : World, (zeroValue 22).run Try.prog W = .ok (.agg (vs .u8 (fil L 4 0))) W := fun W => by rw [hL, nonce_fil]; exact zero12 W
  have HN : Hid (noncev x = if 0 ≤ x ∧ x ≤ 9007199254740991 then (L, 0) else (fil L 4 0, 9)) := by show _ = _; rw [hL, nonce_fil]; rfl
  have HG : Hid (∀ i, i < 8 → L[4 + i]? = some (x / 2 ^ (8 * i) % 256)) := by show ∀ _, _; rw [hL]; exact nonce_get x
  have s0 : Hid ((Try.prog.info? 22).map (·.size) = some (vs .u8 (fil L 4 0)).size) := by show _ = _; rw [size29, vs_size, fil_length L 4 0 (by have := lL.out; omega), lL.out]
  have s1 : Hid ((Try.prog.info? 22).map (·.size) = some (vs .u8 L).size) := by show _ = _; rw [size29, vs_size, lL.out]
  have e0 : Hid ((vs .u8 (fil L 4 0)).size = (vs .u8 L).size) := by show _ = _; rw [vs_size, vs_size, fil_length L 4 0 (by have := lL.out; omega)]
  clear hL
  by_cases hin : 0 ≤ x ∧ x ≤ 9007199254740991
  · rw [HN.out, if_pos hin]
    have j1 : ¬ x < 0 := by omega
    have j2 : ¬ 9007199254740991 < x := by omega
    have hx0 := hin.1
    clear hin hx HN
    go_enter Try.func14, Try.ntmps14
    go_upto_region 5 with (fail)
    generalize hW : (w.alloc (.cells (vs .u8 (fil L 4 0)) 22)).alloc (.cells (vs .u8 (fil L 4 0)) 22) = W0
    have HW := Lib.hid (calm2 hW)
    clear hW hz
    have R0 : Hid (Ar W0 w.heap.size 22 .u8 (fil L 4 0)) := HW.out.1
    have O0 : Hid (Ar W0 (w.heap.size + 1) 22 .u8 (fil L 4 0)) := HW.out.2.1
    have F0 : Hid (Fr (fun _ => False) w W0) := HW.out.2.2
    clear HW
    go_loopw [5] (fun u5 wr => ∃ i : Nat, u5 = .int .i64 i ∧ i ≤ 8 ∧ Hid (Ar wr w.heap.size 22 .u8 (fil L 4 0)) ∧ Hid (Ar wr (w.heap.size + 1) 22 .u8 (fil L (4 + i) 0)) ∧ Hid (Fr (fun _ => False) w wr)) (fun u5 _ => 8 - (intOf u5).toNat)
    case atStart => exact ⟨0, rfl, by omega, R0, O0, F0⟩
    case round =>
    clear R0 O0 F0
    obtain ⟨i, rfl, hi, hR, hO, hF⟩ := hrel
    by_cases hil : i < 8
    · have j3 : (i : Int) < 8 := by omega
      have j4 : IntKind.i64.wrap (8 * (i : Int)) = 8 * i := by rw [IntKind.wrap_i64]; omega
      have gx := HG.out i hil
      obtain ⟨y, hy⟩ : ∃ y : Int, x / 2 ^ (8 * i) % 256 = y := ⟨_, rfl⟩
      rw [hy] at gx
      have cO := hO.out.cell (fil_get L (4 + i) 0 (by have := lL.out; omega))
      have fO := hO.out.frozen (4 + i)
      have O2 := Lib.hid (hO.out.set (4 + i) y)
      rw [fil_set L (4 + i) 0 _ gx, Nat.add_assoc] at O2
      have t1 : (4 + (i : Int)).toNat = 4 + i := by omega
      have t2 : 0 ≤ 4 + (i : Int) := by omega
      have t3 : 4 + (i : Int) < 12 := by omega
      clear gx hO
      go_wp2
      go_roundw
      case rel => exact ⟨i + 1, by go_num, by omega, hR.out.far (by simp) _, O2, hF.out.setCell _ (.inr (by simp))⟩
      case measure => simp [intOf]; omega
    obtain rfl : i = 8 := by omega
    have O9 : Hid (Ar wr (w.heap.size + 1) 22 .u8 L) := by
      have h := hO.out
      have e := fil_all L (0 : Int)
      rw [lL.out] at e
      rwa [e] at h
    clear hO
    go_wp2_with (first
      | refine wpList_load_row rfl 22 (.tmp 4) rfl (w.heap.size + 1) rfl 22 (vs .u8 L) (0, 0) _ O9.out Try.underlying22 rfl s1.out ?_
      | refine wpList_store_row rfl 22 (.tmp 2) (.tmp 25) rfl (w.heap.size) (vs .u8 L) rfl rfl 22 _ hR.out s1.out e0.out (vs_all _ _) ?_)
    refine bodyPost_ret (v := .tuple #[.agg (vs .u8 L), .int .i64 0]) (results_row_int Try.results14 _ _ _ 22 _ (0, 0) _ _ rfl (setRow_heap _ _ _ _ _ _ hR.out) Try.underlying22 rfl s1.out rfl) rfl ⟨rfl, hF.out.setRow _ (.inr (Nat.le_refl _))⟩
  · rw [HN.out, if_neg hin]
    have hcase : x < 0 ∨ (¬ x < 0 ∧ 9007199254740991 < x) := by omega
    clear hin hx HN
    rcases hcase with j1 | ⟨j1, j2⟩
    all_goals
      go_enter Try.func14, Try.ntmps14
      go_upto_region 3 with (fail)
      generalize hW : (w.alloc (.cells (vs .u8 (fil L 4 0)) 22)).alloc (.cells (vs .u8 (fil L 4 0)) 22) = W0
      have HW := Lib.hid (calm2 hW)
      clear hW hz
      have R0 : Hid (Ar W0 w.heap.size 22 .u8 (fil L 4 0)) := HW.out.1
      have O0 : Hid (Ar W0 (w.heap.size + 1) 22 .u8 (fil L 4 0)) := HW.out.2.1
      have F0 : Hid (Fr (fun _ => False) w W0) := HW.out.2.2
      clear HW
      go_wp2_with (first
        | refine wpList_load_row rfl 22 (.tmp 4) rfl (w.heap.size + 1) rfl 22 (vs .u8 (fil L 4 0)) (0, 0) _ O0.out Try.underlying22 rfl s0.out ?_
        | refine wpList_store_row rfl 22 (.tmp 2) (.tmp 12) rfl (w.heap.size) (vs .u8 (fil L 4 0)) rfl rfl 22 _ R0.out s0.out rfl (vs_all _ _) ?_)
      refine bodyPost_ret (v := .tuple #[.agg (vs .u8 (fil L 4 0)), .int .i64 9]) (results_row_int Try.results14 _ _ _ 22 _ (0, 0) _ _ rfl (setRow_heap _ _ _ _ _ _ R0.out) Try.underlying22 rfl s0.out rfl) rfl ⟨rfl, F0.out.setRow _ (.inr (Nat.le_refl _))⟩
end Go.Proofs.Ytbafppdmlhogbaa
