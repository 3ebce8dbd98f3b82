/- The reference's Write and Out: contracts. Condition: not more bytes than a machine has. -/
import Derived.Test.YtkkicekhkidhjaaRW
namespace Go.Proofs.Ytkkicekhkidhjaa
set_option linter.unusedSimpArgs false
set_option linter.unusedVariables false
open Go.RowKit

theorem RW.shape {w : World} {p : Nat} {v : Value} {ls : List (List Int)} {vals : List Value} (h : RW w p v ls vals) : ∃ A c, v = .slice A ls.length c ∧ ls.length ≤ c ∧ c ≤ maxLen ∧ (0 < ls.length → ∃ g, A = some ⟨g, 0, none⟩) := by
  rcases h.row.2 with ⟨hv, h0⟩ | ⟨g, cap, cur, hv, _, hh, hn, hm, _⟩
  · exact ⟨none, 0, by rw [hv, h0], by omega, by simp [maxLen], fun h => by omega⟩
  · exact ⟨_, cap, hv, hn, hm, fun _ => ⟨g, rfl⟩⟩
theorem RW.cell {w : World} {p g n c : Nat} {ls : List (List Int)} {vals : List Value} (h : RW w p (.slice (some ⟨g, 0, none⟩) n c) ls vals) {i : Nat} {x : Value} (hx : vals[i]? = some x) : w.cell? ⟨g, i, none⟩ = some x := by
  rcases h.row.2 with ⟨hv, h0⟩ | ⟨g', cap, cur, hv, _, hh, hn, hm, hs, ht⟩
  · cases hv
  · injection hv with e1 e2 e3
    injection e1 with e1
    injection e1 with e1
    subst e1
    rw [cell_of_row w g i _ _ _ hh]
    have : (cur.toList.take (ls.length * 1))[i]? = some x := by rw [ht]; exact hx
    rw [List.getElem?_take] at this
    split at this
    · simpa using this
    · cases this
theorem rwrite_any (w : World) : Calls Try.prog 12 #[] w fun e w' => e = .returned (.pointer (some ⟨w.heap.size, 0, none⟩)) ∧ RW w' w.heap.size (.slice none 0 0) [] [] ∧ Fr (fun _ => False) w w' := by
  go_enter Try.func12, Try.ntmps12
  go_wp2
  go_ret
  exact ⟨rfl, ⟨heap_alloc_new w _, World.ownsRow_nil _ _ _ _, rfl, fun i x l hx => by simp at hx⟩, (Fr.refl _ _).alloc _⟩
def flat (ls : List (List Int)) : List Int := ls.flatten
theorem flat_le (ls : List (List Int)) (i : Nat) : (flat (ls.take i)).length ≤ (flat ls).length := by
  have : flat ls = flat (ls.take i) ++ flat (ls.drop i) := by unfold flat; rw [← List.flatten_append, List.take_append_drop]
  rw [this, List.length_append]
  omega
theorem flat_succ (ls : List (List Int)) (i : Nat) (l : List Int) (h : ls[i]? = some l) : flat (ls.take i) ++ l = flat (ls.take (i + 1)) := by
  have hi : i < ls.length := (List.getElem?_eq_some_iff.1 h).1
  have hy : ls[i] = l := by rw [List.getElem?_eq_getElem hi] at h; injection h
  unfold flat
  rw [List.take_succ_eq_append_getElem hi, List.flatten_append, hy]
  simp
set_option maxHeartbeats 2000000 in
theorem rout_any (p : Nat) (v : Value) (ls : List (List Int)) (vals : List Value) (w : World) (h : RW w p v ls vals) (hlen : (flat ls).length ≤ 140737488355328) (hn : ls.length ≤ 1000) :
    Calls Try.prog 23 #[.pointer (some ⟨p, 0, none⟩)] w fun e w' => ∃ x, e = .returned x ∧ Ow w' x (flat ls) ∧ (∀ k, x.ownBlock = some k → w.heap.size ≤ k) ∧ Fr (fun _ => False) w w' := by
  obtain ⟨A, c, rfl, hc1, hc2, hA⟩ := h.shape
  obtain ⟨n, hnn⟩ : ∃ n, ls.length = n := ⟨_, rfl⟩
  have H := Lib.hid h
  have HL := Lib.hid hlen
  have HN := Lib.hid hnn
  have hpl : p < w.heap.size := heap_lt h.here
  rw [hnn] at hn hc1 hA
  have HA := Lib.hid hA
  rw [hnn] at H
  have Hc : ∀ W : World, Fr (fun _ => False) w W → W.cell? ⟨p, 0, none⟩ = some (.slice A n c) := fun W hf => by
    have h2 := ((H.out.keep hf (fun _ _ x => x)).here)
    rw [cell_of_row W p 0 _ _ _ h2]
    rfl
  replace Hc : Unit → ∀ W : World, Fr (fun _ => False) w W → W.cell? ⟨p, 0, none⟩ = some (.slice A n c) := fun _ => Hc
  clear h hlen hnn hA
  go_enter Try.func23, Try.ntmps23
  go_wp2
  go_loopw [3, 4] (fun u3 u4 wr => ∃ i : Nat, u4 = .int .i64 i ∧ i ≤ n ∧ Hid (Ow wr u3 (flat (ls.take i))) ∧ Hid (∀ k, u3.ownBlock = some k → w.heap.size ≤ k) ∧ Hid (Fr (fun _ => False) w wr))
    (fun _ u4 _ => n - (intOf u4).toNat)
  case atStart => exact ⟨0, rfl, Nat.zero_le _, Ow.nil w, Lib.hid (fun k hk => by cases hk), Fr.refl _ w⟩
  case round =>
    obtain ⟨i, rfl, hi, hO, hU, hF⟩ := hrel
    have hcp := Hc () wr hF.out
    by_cases hil : i < n
    · obtain ⟨l, hl⟩ : ∃ l, ls[i]? = some l := ⟨_, List.getElem?_eq_getElem (by rw [HN.out]; exact hil)⟩
      have R2 := H.out.keep hF.out (fun _ _ x => x)
      obtain ⟨x, hx, hxo⟩ := R2.get hl
      obtain ⟨g, rfl⟩ := HA.out (by omega)
      have hcx := R2.cell hx
      obtain ⟨A', n', c', rfl, hn'⟩ := hxo.shape
      have HX := Lib.hid hxo
      have hfs := Lib.hid (flat_succ ls i l hl)
      have hfl := flat_le ls (i + 1)
      have hlen2 : Hid ((flat (ls.take i)).length + n' ≤ 140737488355328) := by
        show _ ≤ _
        have e := congrArg List.length hfs.out
        rw [List.length_append] at e
        have := HL.out
        omega
      clear hl R2 hx hxo hn' hfl
      go_wp2_with (at_builtin; refine wpList_own rfl (.tmp 14) (.tmp 21) rfl hO.out rfl rfl HX.out.sl hlen2.out ?_; intro A2 N2 c2 w2 hap hN2; have HAP := Lib.hid hap; have HN2 := Lib.hid hN2; clear hap hN2)
      have O2 : Hid (Ow w2 (.slice A2 N2 c2) (flat (ls.take (i + 1)))) := by
        show _
        rw [← hfs.out]
        exact HAP.out.own
      have U2 : Hid (∀ k, (Value.slice A2 N2 c2).ownBlock = some k → w.heap.size ≤ k) := Lib.hid (fun k hk => by
        rcases HAP.out.at_ with e | e
        · rw [e] at hk; exact hU.out k hk
        · rw [e] at hk; injection hk with hk; have := hF.out.size; omega)
      have F2 : Hid (Fr (fun _ => False) w w2) := (hF.out.grown HAP.out.grown (fun k hk => .inr (hU.out k hk)))
      go_roundw
      case rel => exact ⟨i + 1, by go_num, by omega, O2, U2, F2⟩
      case measure => simp [intOf]; omega
    · have e : i = n := by omega
      have O9 : Hid (Ow wr u3 (flat ls)) := by
        have h := hO.out
        rwa [List.take_of_length_le (by rw [HN.out]; omega)] at h
      clear hO e
      go_wp2
      go_ret
      exact ⟨u3, rfl, O9.out, hU.out, hF.out⟩
end Go.Proofs.Ytkkicekhkidhjaa
