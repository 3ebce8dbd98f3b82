/- What the writer's own 'add' leaves: the number's bytes behind what was written. Condition: a number from 0 on, a size from 1 to 8, and not more bytes than a machine has. -/
import Derived.Test.YtkkicekhkidhjaaApp
namespace Go.Proofs.Ytkkicekhkidhjaa
set_option linter.unusedSimpArgs false
set_option linter.unusedVariables false
open Go.RowKit

/-- A number's eight bytes, the highest first; its last 'size' ones. -/
def be (v : Int) : List Int := [v/72057594037927936, v/281474976710656%256, v/1099511627776%256, v/4294967296%256, v/16777216%256, v/65536%256, v/256%256, v%256]
def beN (v : Int) (size : Nat) : List Int := (be v).drop (8 - size)
theorem be_bys (v : Int) (h0 : 0 ≤ v) (h1 : v ≤ 9223372036854775807) : Bys (be v) := by
  intro b hb
  simp only [be, List.mem_cons, List.not_mem_nil, or_false] at hb
  rcases hb with rfl | rfl | rfl | rfl | rfl | rfl | rfl | rfl <;> omega
theorem beN_bys (v : Int) (k : Nat) (h0 : 0 ≤ v) (h1 : v ≤ 9223372036854775807) : Bys (beN v k) := (be_bys v h0 h1).drop _
theorem beN_length (v : Int) (k : Nat) (hk : k ≤ 8) : (beN v k).length = k := by simp [beN, be]; omega

theorem be_get (v : Int) : bs (be v) = [.int .u8 (v/72057594037927936), .int .u8 (v/281474976710656%256), .int .u8 (v/1099511627776%256), .int .u8 (v/4294967296%256), .int .u8 (v/16777216%256), .int .u8 (v/65536%256), .int .u8 (v/256%256), .int .u8 (v%256)] := rfl
/-- The array that numberOf hands back, in its block: its last bytes as a slice. -/
theorem be_sl {w : World} {g : Nat} {n : Int} {t : TypeId} (h0 : 0 ≤ n) (h1 : n ≤ 9223372036854775807) (h : w.heap[g]? = some (.cells #[.int .u8 (n/72057594037927936), .int .u8 (n/281474976710656%256), .int .u8 (n/1099511627776%256), .int .u8 (n/4294967296%256), .int .u8 (n/16777216%256), .int .u8 (n/65536%256), .int .u8 (n/256%256), .int .u8 (n%256)] t (0, 0))) (k o : Nat) (hk : k ≤ 8) (ho : o + k = 8) :
    Sl w g (.slice (some ⟨g, o, none⟩) k k) (beN n k) := by
  have hb : Sl w g (.slice (some ⟨g, 0, none⟩) 8 8) (be n) := Sl.block (be_bys n h0 h1) h (fun j hj => by rw [be_get]; simp) (Nat.le_refl _) (by simp [maxLen, be])
  refine ⟨beN_bys n k h0 h1, _, k, by rw [beN_length n k hk], by rw [beN_length n k hk]; omega, by simp only [maxLen]; omega, fun _ => ⟨o, rfl, heap_lt h, fun j b hj => ?_⟩⟩
  obtain ⟨_, A', c', e, _, _, hx⟩ := hb
  injection e with e1
  obtain ⟨o', e2, _, hcell⟩ := hx (by simp [be])
  rw [← e1] at e2
  injection e2 with e2
  injection e2 with _ e3
  subst e3
  have := hcell (o + j) b (by
    unfold beN at hj
    rw [List.getElem?_drop] at hj
    rw [← hj]
    congr 1
    omega)
  simpa using this

set_option maxHeartbeats 1000000 in
theorem add_any (p : Nat) (v : Value) (l : List Int) (n : Int) (k : Nat) (w : World) (h : Wr w p v l) (h0 : 0 ≤ n) (h1 : n ≤ 9223372036854775807) (hk1 : 1 ≤ k) (hk8 : k ≤ 8) (hlen : l.length ≤ 140737488355000) :
    Calls Try.prog 41 #[.pointer (some ⟨p, 0, none⟩), .int .i64 n, .int .i64 k] w fun e w' => ∃ v', e = .returned (.tuple #[]) ∧ Wr w' p v' (l ++ beN n k) ∧ Fr (Tw p v) w w' ∧ (∀ k, v'.ownBlock = some k → v.ownBlock = some k ∨ w.heap.size ≤ k) := by
  have hp := heap_lt h.1
  obtain ⟨A, c, rfl⟩ := h.shape
  have H := Lib.hid h
  clear h
  have hk : k = 1 ∨ k = 2 ∨ k = 3 ∨ k = 4 ∨ k = 5 ∨ k = 6 ∨ k = 7 ∨ k = 8 := by omega
  rcases hk with rfl | rfl | rfl | rfl | rfl | rfl | rfl | rfl
  all_goals
    go_enter Try.func41, Try.ntmps41
    go_wp2_with (go_at_call 50; refine (numberOf_any n _ h0 h1).mono ?_; rintro e w1 ⟨rfl, hf1⟩)
    have hw1 := H.out.keep hf1 (fun x => x) (fun _ _ x => x)
    have hp1 : p < w1.heap.size := Nat.lt_of_lt_of_le hp hf1.size
    have c1 : w1.cell? ⟨p, 1, none⟩ = some (.slice A l.length c) := by rw [cell_of_row w1 p 1 _ _ _ hw1.1]; rfl
    have f1 : w1.frozen? ⟨p, 1, none⟩ = false := frozen_of_row w1 p 1 _ _ hw1.1
    have HW : Hid (∀ o, Wr ((w1.alloc o).drew) p (.slice A l.length c) l) := fun o => hw1.keep (((Fr.refl (fun _ => False) w1).alloc o).drew) (fun x => x) (fun _ _ x => x)
    have HF := Lib.hid hf1
    clear hw1 hf1
    have HS : Hid (∀ (k o : Nat), k ≤ 8 → o + k = 8 → Sl ((w1.alloc (.cells #[.int .u8 (n/72057594037927936), .int .u8 (n/281474976710656%256), .int .u8 (n/1099511627776%256), .int .u8 (n/4294967296%256), .int .u8 (n/16777216%256), .int .u8 (n/65536%256), .int .u8 (n/256%256), .int .u8 (n%256)] 72)).drew) w1.heap.size (.slice (some ⟨w1.heap.size, o, none⟩) k k) (beN n k)) := fun k o h2 h3 => be_sl h0 h1 (heap_alloc_new w1 _) k o h2 h3
    have e7 : IntKind.i64.wrap 7 = 7 := by decide
    have e6 : IntKind.i64.wrap 6 = 6 := by decide
    have e5 : IntKind.i64.wrap 5 = 5 := by decide
    have e4 : IntKind.i64.wrap 4 = 4 := by decide
    have e3 : IntKind.i64.wrap 3 = 3 := by decide
    have e2 : IntKind.i64.wrap 2 = 2 := by decide
    have e1 : IntKind.i64.wrap 1 = 1 := by decide
    have e0 : IntKind.i64.wrap 0 = 0 := by decide
    go_region_law (refine step_app rfl (.tmp 13) (.tmp 16) rfl (HW.out _) rfl rfl (HS.out _ _ (by decide) (by decide)) (by omega) ?_; intro A2 N2 c2 w2 hap; have k2 := hap.cell; have g2 := hap.frozen)
    go_end0
    exact ⟨_, rfl, hap.stored, HF.out.any.trans' ((((Fr.refl _ w1).alloc _).drew).trans' hap.fr (fun _ _ x => x)) (fun _ _ x => x), fun j hj => (hap.new j hj).imp id (fun h => Nat.le_trans HF.out.size (Nat.le_trans (by simp) h))⟩
end Go.Proofs.Ytkkicekhkidhjaa
