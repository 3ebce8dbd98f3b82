/- A word of four bytes; the sixteen words of a key, a counter and a nonce: contracts. Conditions: bytes, their numbers. -/
import Derived.Test.YtnagnolbomcnjaaRd
import Derived.StillTailTactics
namespace Go.Proofs.Ytnagnolbomcnjaa
set_option linter.unusedSimpArgs false
set_option linter.unusedVariables false
open Go.RowKit

def By (b : Int) : Prop := 0 ≤ b ∧ b ≤ 255
def nb (b0 b1 b2 b3 : Int) : Int := b0 + b1 * 256 + b2 * 65536 + b3 * 16777216
theorem nb_wd {b0 b1 b2 b3 : Int} (h0 : By b0) (h1 : By b1) (h2 : By b2) (h3 : By b3) : Wd (nb b0 b1 b2 b3) := by
  unfold By at *
  unfold Wd nb
  omega
theorem join32 (j : Nat) (x y : Int) (hj : j ≤ 31) (h0 : 0 ≤ x) (h1 : x < 2 ^ j) (g0 : 0 ≤ y) (g1 : y * 2 ^ j < 4294967296) : bits .or .u32 x (y * 2 ^ j) = x + y * 2 ^ j := by
  obtain ⟨x, rfl⟩ := Int.eq_ofNat_of_zero_le h0
  obtain ⟨y, rfl⟩ := Int.eq_ofNat_of_zero_le g0
  have e : ((y : Int) * 2 ^ j) = ((y * 2 ^ j : Nat) : Int) := by rw [Int.natCast_mul, Int.natCast_pow]; rfl
  have e2 : (2 : Int) ^ j = ((2 ^ j : Nat) : Int) := by rw [Int.natCast_pow]; rfl
  have hx : x < 2 ^ j := by rw [e2] at h1; omega
  have hy : y * 2 ^ j < 4294967296 := by rw [e] at g1; omega
  have hj2 : 2 ^ j ≤ 2 ^ 31 := Nat.pow_le_pow_right (by decide) hj
  rw [e, u32_or_nat x (y * 2 ^ j) (by omega) hy, Nat.or_comm, nat_join j (y * 2 ^ j) x (Nat.mul_mod_left _ _) hx]
  omega
set_option maxHeartbeats 1000000 in
theorem number_is (b0 b1 b2 b3 : Int) (w : World) (h0 : By b0) (h1 : By b1) (h2 : By b2) (h3 : By b3) :
    Calls Try.prog 32 #[.int .u8 b0, .int .u8 b1, .int .u8 b2, .int .u8 b3] w fun e w' => e = .returned (.int .u32 (nb b0 b1 b2 b3)) ∧ w = w' := by
  unfold By at *
  have e1 : bits .or .u32 b0 (b1 * 256) = b0 + b1 * 256 := join32 8 b0 b1 (by decide) (by omega) (by omega) (by omega) (by omega)
  have e2 : bits .or .u32 (b0 + b1 * 256) (b2 * 65536) = b0 + b1 * 256 + b2 * 65536 := join32 16 (b0 + b1 * 256) b2 (by decide) (by omega) (by omega) (by omega) (by omega)
  have e3 : bits .or .u32 (b0 + b1 * 256 + b2 * 65536) (b3 * 16777216) = nb b0 b1 b2 b3 := join32 24 (b0 + b1 * 256 + b2 * 65536) b3 (by decide) (by omega) (by omega) (by omega) (by omega)
  have w0 : IntKind.u32.wrap b0 = b0 := by rw [wrap32]; omega
  have w1 : IntKind.u32.wrap b1 = b1 := by rw [wrap32]; omega
  have w2 : IntKind.u32.wrap b2 = b2 := by rw [wrap32]; omega
  have w3 : IntKind.u32.wrap b3 = b3 := by rw [wrap32]; omega
  have v1 : IntKind.u32.wrap (b1 * 256) = b1 * 256 := by rw [wrap32]; omega
  have v2 : IntKind.u32.wrap (b2 * 65536) = b2 * 65536 := by rw [wrap32]; omega
  have v3 : IntKind.u32.wrap (b3 * 16777216) = b3 * 16777216 := by rw [wrap32]; omega
  clear h0 h1 h2 h3
  go_enter Try.func32, Try.ntmps32
  go_wp2
  go_ret
  exact ⟨rfl, rfl⟩

def ws : List Int → List Int
  | a :: b :: c :: d :: r => nb a b c d :: ws r
  | _ => []
theorem ws_length (m : Nat) : ∀ l : List Int, l.length = 4 * m → (ws l).length = m := by
  induction m with
  | zero => intro l h; match l, h with | [], _ => rfl
  | succ m ih =>
    intro l h
    match l, h with
    | a :: b :: c :: d :: r, h =>
      show (nb a b c d :: ws r).length = m + 1
      rw [List.length_cons, ih r (by simp at h; omega)]
theorem ws_get (m : Nat) : ∀ (l : List Int) (i : Nat), l.length = 4 * m → i < m → (ws l)[i]? = some (nb (l.getD (4 * i) 0) (l.getD (4 * i + 1) 0) (l.getD (4 * i + 2) 0) (l.getD (4 * i + 3) 0)) := by
  induction m with
  | zero => intro l i _ hi; omega
  | succ m ih =>
    intro l i h hi
    match l, h with
    | a :: b :: c :: d :: r, h =>
      cases i with
      | zero => rfl
      | succ i =>
        show (nb a b c d :: ws r)[i + 1]? = _
        rw [List.getElem?_cons_succ, ih r i (by simp at h; omega) (by omega)]
        rfl
theorem ws_wds (m : Nat) : ∀ l : List Int, l.length = 4 * m → Bys l → Wds (ws l) := by
  induction m with
  | zero => intro l h _; match l, h with | [], _ => (intro x hx; cases hx)
  | succ m ih =>
    intro l h hb
    match l, h with
    | a :: b :: c :: d :: r, h =>
      intro x hx
      rcases List.mem_cons.1 hx with rfl | hx
      · exact nb_wd (hb a (by simp)) (hb b (by simp)) (hb c (by simp)) (hb d (by simp))
      · exact ih r (by simp at h; omega) (fun y hy => hb y (by simp [hy])) x hx
/-- The sixteen words at first. -/
def st (k : List Int) (c : Int) (n : List Int) : List Int := 1634760805 :: 857760878 :: 2036477234 :: 1797285236 :: (ws k ++ c :: ws n)
section
variable {k n : List Int} {c : Int}
theorem st_length (hk : k.length = 32) (hn : n.length = 12) : (st k c n).length = 16 := by
  have h1 := ws_length 8 k (by omega)
  have h2 := ws_length 3 n (by omega)
  simp [st, h1, h2]
theorem st_wds (hk : k.length = 32) (bk : Bys k) (hc : Wd c) (hn : n.length = 12) (bn : Bys n) : Wds (st k c n) := by
  have h1 := ws_wds 8 k (by omega) bk
  have h2 := ws_wds 3 n (by omega) bn
  intro x hx
  simp only [st, List.mem_cons, List.mem_append] at hx
  rcases hx with rfl | rfl | rfl | rfl | hx | rfl | hx
  · exact ⟨by decide, by decide⟩
  · exact ⟨by decide, by decide⟩
  · exact ⟨by decide, by decide⟩
  · exact ⟨by decide, by decide⟩
  · exact h1 x hx
  · exact hc
  · exact h2 x hx
theorem st_key (hk : k.length = 32) (i : Nat) (hi : i < 8) : (st k c n)[4 + i]? = some (nb (k.getD (4 * i) 0) (k.getD (4 * i + 1) 0) (k.getD (4 * i + 2) 0) (k.getD (4 * i + 3) 0)) := by
  have h1 := ws_length 8 k (by omega)
  rw [show 4 + i = i + 1 + 1 + 1 + 1 by omega]
  simp only [st, List.getElem?_cons_succ]
  rw [List.getElem?_append_left (by omega), ws_get 8 k i (by omega) hi]
theorem st_ctr (hk : k.length = 32) : (st k c n)[12]? = some c := by
  have h1 := ws_length 8 k (by omega)
  simp only [st, List.getElem?_cons_succ]
  rw [List.getElem?_append_right (by omega), h1]
  rfl
theorem st_nonce (hk : k.length = 32) (hn : n.length = 12) (i : Nat) (hi : i < 3) : (st k c n)[13 + i]? = some (nb (n.getD (4 * i) 0) (n.getD (4 * i + 1) 0) (n.getD (4 * i + 2) 0) (n.getD (4 * i + 3) 0)) := by
  have h1 := ws_length 8 k (by omega)
  rw [show 13 + i = 9 + i + 1 + 1 + 1 + 1 by omega]
  simp only [st, List.getElem?_cons_succ]
  rw [List.getElem?_append_right (by omega), h1, show 9 + i - 8 = i + 1 by omega, List.getElem?_cons_succ, ws_get 3 n i (by omega) hi]
end
theorem calm3 {w : World} {A B C : Obj} {W0 : World} (h : ((w.alloc A).alloc B).alloc C = W0) : W0.heap[w.heap.size]? = some A ∧ W0.heap[w.heap.size + 1]? = some B ∧ W0.heap[w.heap.size + 1 + 1]? = some C ∧ Fr (fun _ => False) w W0 := by
  obtain ⟨V, hV⟩ : ∃ V, (w.alloc A).alloc B = V := ⟨_, rfl⟩
  have h2 := calm2 hV
  have sV : V.heap.size = w.heap.size + 1 + 1 := by rw [← hV]; simp
  rw [hV] at h
  have h1 := calm1a h
  rw [sV] at h1
  exact ⟨(h1.2.block _ (by omega) (fun x => x)).trans h2.1, (h1.2.block _ (by omega) (fun x => x)).trans h2.2.1, h1.1, h2.2.2.trans h1.2⟩
theorem calm4 {w : World} {A B C D : Obj} {W0 : World} (h : (((w.alloc A).alloc B).alloc C).alloc D = W0) : W0.heap[w.heap.size]? = some A ∧ W0.heap[w.heap.size + 1]? = some B ∧ W0.heap[w.heap.size + 1 + 1]? = some C ∧ W0.heap[w.heap.size + 1 + 1 + 1]? = some D ∧ Fr (fun _ => False) w W0 := by
  obtain ⟨V, hV⟩ : ∃ V, ((w.alloc A).alloc B).alloc C = V := ⟨_, rfl⟩
  have h3 := calm3 hV
  have sV : V.heap.size = w.heap.size + 1 + 1 + 1 := by rw [← hV]; simp
  rw [hV] at h
  have h1 := calm1a h
  rw [sV] at h1
  exact ⟨(h1.2.block _ (by omega) (fun x => x)).trans h3.1, (h1.2.block _ (by omega) (fun x => x)).trans h3.2.1, (h1.2.block _ (by omega) (fun x => x)).trans h3.2.2.1, h1.1, h3.2.2.2.trans h1.2⟩
end Go.Proofs.Ytnagnolbomcnjaa
