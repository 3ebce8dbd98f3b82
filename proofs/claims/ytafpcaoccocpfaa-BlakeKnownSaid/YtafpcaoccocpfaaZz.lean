/- What BlakeKnown wants: the chapter's digests reckoned, appends, a hash that is none. Lemmas alone. -/
import Derived.Test.YtafpcaoccocpfaaLawNothing
namespace Go.Proofs.Ytafpcaoccocpfaa
set_option linter.unusedSimpArgs false
set_option linter.unusedVariables false
open Go.ChangeShapes Go.WideShapes Go.ChangeAt Go.RowKit

def keyN : List Int := [0, 1, 2, 3, 4, 5, 6, 7, 8, 9, 10, 11, 12, 13, 14, 15, 16, 17, 18, 19, 20, 21, 22, 23, 24, 25, 26, 27, 28, 29, 30, 31]
theorem keyN_get (i : Nat) (h : i < 32) : keyN[i]? = some (i : Int) := (by decide : ∀ i : Nat, i < 32 → keyN[i]? = some (i : Int)) i h
def emptyH : ByteArray := ⟨#[54, 57, 50, 49, 55, 97, 51, 48, 55, 57, 57, 48, 56, 48, 57, 52, 101, 49, 49, 49, 50, 49, 100, 48, 52, 50, 51, 53, 52, 97, 55, 99, 49, 102, 53, 53, 98, 54, 52, 56, 50, 99, 97, 49, 97, 53, 49, 101, 49, 98, 50, 53, 48, 100, 102, 100, 49, 101, 100, 48, 101, 101, 102, 57]⟩
def keyedH : ByteArray := ⟨#[52, 56, 97, 56, 57, 57, 55, 100, 97, 52, 48, 55, 56, 55, 54, 98, 51, 100, 55, 57, 99, 48, 100, 57, 50, 51, 50, 53, 97, 100, 51, 98, 56, 57, 99, 98, 98, 55, 53, 52, 100, 56, 54, 97, 98, 55, 49, 97, 101, 101, 48, 52, 55, 97, 100, 51, 52, 53, 102, 100, 50, 99, 52, 57]⟩
set_option maxRecDepth 100000 in
theorem empty_hex : hexT (dig 32 [] []) 32 = emptyH := by
  have e : dig 32 [] [] = [105, 33, 122, 48, 121, 144, 128, 148, 225, 17, 33, 208, 66, 53, 74, 124, 31, 85, 182, 72, 44, 161, 165, 30, 27, 37, 13, 253, 30, 208, 238, 249] := by decide +kernel
  rw [e]
  decide +kernel
set_option maxRecDepth 100000 in
theorem keyed_hex : hexT (dig 32 keyN []) 32 = keyedH := by
  have e : dig 32 keyN [] = [72, 168, 153, 125, 164, 7, 135, 107, 61, 121, 192, 217, 35, 37, 173, 59, 137, 203, 183, 84, 216, 106, 183, 26, 238, 4, 122, 211, 69, 253, 44, 73] := by decide +kernel
  rw [e]
  decide +kernel
theorem run_own_keep {w : World} (ty : TypeId) {g n c : Nat} {l : List Int} (h : Ow w (.slice (some ⟨g, 0, none⟩) n c) l) {gx : Nat} {a : Addr} {m cx : Nat} {k : List Int} (hs : Sl w gx (.slice (some a) m cx) k) (hlen : n + m ≤ 140737488355328) :
    ∃ A' c' w', (Builtin.append_ #[22, 22] ty #[.slice (some ⟨g, 0, none⟩) n c, .slice (some a) m cx]).run Try.prog w = .ok (.slice A' (n + m) c') w' ∧ Ow w' (.slice A' (n + m) c') (l ++ k) ∧ Sl w' g (.slice (some ⟨g, 0, none⟩) n c) l ∧ Fr (fun j => j = g) w w' := by
  have hl := h.sl.len
  have hk := hs.len
  by_cases hroom : n + m ≤ c
  · obtain ⟨i0, hi, hz0, hz1, hz2⟩ := info_parts Try.info5
    rcases h.1.2 with ⟨hv, _⟩ | ⟨g', cap, cur, hv, _, hh, hn, hm, hcs, ht⟩
    · cases hv
    · injection hv with e1 e2 e3
      injection e1 with e1
      injection e1 with e1 _ _
      subst e1 e3
      rw [Nat.mul_one] at ht hcs
      have hcells : ∀ j u, (bs k)[j]? = some u → w.cell? (a.add j) = some u := by
        intro j u hu
        rw [bs_get] at hu
        obtain ⟨b, hb, rfl⟩ := Option.map_eq_some_iff.1 hu
        obtain ⟨_, A', c', e, _, _, hx⟩ := hs
        injection e with e1
        obtain ⟨o, e2, _, hcell⟩ := hx (by rintro rfl; simp at hb)
        rw [← e1] at e2
        injection e2 with e2
        subst e2
        rw [Addr_add_none]
        exact hcell j b hb
      have hr := run_append_room (P := Try.prog) w 22 ty 5 i0 Try.underlying22 hi g n c cur hh a m cx (bs k) (by rw [bs_length, hz1]; omega) hcells (bs_one k) hroom (by rw [bs_length, hz1]; omega)
      rw [hz1, Nat.mul_one] at hr
      have hh2 : (w.setRow g (cur.toList.take n ++ bs k ++ cur.toList.drop (n + (bs k).length)).toArray).heap[g]? = some (.cells (cur.toList.take n ++ bs k ++ cur.toList.drop (n + (bs k).length)).toArray 5 (0, 0)) := setRow_heap _ _ _ _ _ _ hh
      rw [hl] at ht
      have ht2 : cur.toList.take n = bs l := ht
      refine ⟨some ⟨g, 0, none⟩, c, _, hr, ⟨⟨by rw [bs_length, List.length_append, hl, hk, Nat.mul_one], .inr ⟨g, c, _, by rw [List.length_append, hl, hk], Nat.zero_le _, hh2, by rw [List.length_append, hl, hk]; exact hroom, hm, ?_, ?_⟩⟩, h.2.append hs.1⟩, ?_, (Fr.refl _ _).setRow _ (.inl rfl)⟩
      · simp only [List.size_toArray, List.length_append, List.length_take, List.length_drop, Array.length_toList, bs_length, Nat.mul_one]
        omega
      · rw [ht2, bs_append, List.length_append, hl, hk, Nat.mul_one]
        have e : n + m = (bs (l ++ k)).length := by rw [bs_length, List.length_append, hl, hk]
        rw [show ((bs (l ++ k) ++ cur.toList.drop (n + (bs k).length)).toArray).toList = bs (l ++ k) ++ cur.toList.drop (n + (bs k).length) from rfl, e]
        exact List.take_left
      · have hb := Sl.block (c := c) h.2 hh2 (fun j hj => by
          rw [ht2, List.append_assoc]
          simp only [List.getElem?_toArray]
          rw [List.getElem?_append_left (by rw [bs_length]; exact hj)]) (by omega) hm
        rwa [hl] at hb
  · obtain ⟨c', w', h1, h2, h3⟩ := run_grow ty h.sl hs (by omega) hlen
    have hg : (Value.slice (some ⟨g, 0, none⟩) n c).ownBlock.getD 0 = g := rfl
    have hsl := h.sl
    rw [hg] at hsl
    exact ⟨_, c', w', h1, h2, hsl.fr h3 (fun _ x => x), h3.any⟩
theorem wpList_own_keep {ops : Array Oper} {rest : List Oper} {o : Oper} {a : Act} {w : World} {Q : Exit → Act → World → Prop} (hgd : o.guard = none) (s x : Operand)
    (ho : o.op = .call { callee := .builtin .append, args := #[s, x], argTypes := #[22, 22] }) {g n c : Nat} {l : List Int} (h : Ow w (.slice (some ⟨g, 0, none⟩) n c) l) (hsv : a.eval s = .slice (some ⟨g, 0, none⟩) n c) {gx : Nat} {ax : Addr} {m cx : Nat} {k : List Int} (hx : a.eval x = .slice (some ax) m cx) (hs : Sl w gx (.slice (some ax) m cx) k) (hlen : n + m ≤ 140737488355328)
    (hK : ∀ A' c' w', Ow w' (.slice A' (n + m) c') (l ++ k) → Sl w' g (.slice (some ⟨g, 0, none⟩) n c) l → Fr (fun j => j = g) w w' → wpList Try.prog ops Q rest (a.put o.dst (.slice A' (n + m) c')) w') : wpList Try.prog ops Q (o :: rest) a w := by
  refine wpList_plain hgd fun K hk => ?_
  obtain ⟨A', c', w', hrun, h1, h2, h3⟩ := run_own_keep o.type h hs hlen
  unfold Oper.wp execOp
  simp only [ho, resolve, invoke, builtin, Sem.run_bind, Sem.run_pure, Result.andThen_ok, List.map_toArray, List.map_cons, List.map_nil, hsv, hx, hrun]
  exact hk _ _ (hK A' c' w' h1 h2 h3)
theorem wpList_hash0 {ops : Array Oper} {rest : List Oper} {o : Oper} {a : Act} {w : World} {Q : Exit → Act → World → Prop} (hgd : o.guard = none) (ho : o.op = .build 53 #[])
    (h : wpList Try.prog ops Q rest (a.put o.dst (.agg hashZ)) w) : wpList Try.prog ops Q (o :: rest) a w :=
  wpList_plain hgd fun K hk => wp_value (.agg hashZ) w (by unfold execOp; simp only [ho]; kernel_rfl) (hk _ _ h)
end Go.Proofs.Ytafpcaoccocpfaa
