/- What the writer's Bytes, Octets and Out leave and answer. Conditions: a writer that lies in memory, and not more bytes than a machine has. -/
import Derived.Test.YtkkicekhkidhjaaWriter
namespace Go.Proofs.Ytkkicekhkidhjaa
set_option linter.unusedSimpArgs false
set_option linter.unusedVariables false
open Go.RowKit

theorem Wr.shape' {w : World} {p : Nat} {v : Value} {l : List Int} (h : Wr w p v l) : ∃ A n c, v = .slice A n c := by
  obtain ⟨A, c, e⟩ := h.shape
  exact ⟨A, _, c, e⟩

set_option maxHeartbeats 1000000 in
theorem wbytes_any (p g : Nat) (v : Value) (l k : List Int) (A : Option Addr) (m c : Nat) (w : World) (h : Wr w p v l) (hs : Sl w g (.slice A m c) k) (hlen : l.length + m ≤ 140737488355328) :
    Calls Try.prog 17 #[.pointer (some ⟨p, 0, none⟩), .slice A m c] w fun e w' => e = .returned (.int .i64 0) ∧ ∃ v', Wr w' p v' (l ++ k) ∧ Fr (Tw p v) w w' ∧ (∀ k, v'.ownBlock = some k → v.ownBlock = some k ∨ w.heap.size ≤ k) := by
  have c0 : w.cell? ⟨p, 0, none⟩ = some (.bool true) := by rw [cell_of_row w p 0 _ _ _ h.1]; rfl
  obtain ⟨A1, C1, rfl⟩ := h.shape
  have c1 : w.cell? ⟨p, 1, none⟩ = some (.slice A1 l.length C1) := by rw [cell_of_row w p 1 _ _ _ h.1]; rfl
  have H := Lib.hid h
  have HS := Lib.hid hs
  clear h hs
  go_enter Try.func17, Try.ntmps17
  go_wp2_with (at_builtin; refine wpList_app rfl (.tmp 20) (.tmp 21) rfl H.out rfl rfl HS.out hlen ?_; intro A2 N2 c2 w2 hap; have k2 := hap.cell; have g2 := hap.frozen)
  go_ret
  exact ⟨rfl, _, hap.stored, hap.fr, hap.new⟩

set_option maxHeartbeats 1000000 in
theorem wout_any (p : Nat) (v : Value) (l : List Int) (w : World) (h : Wr w p v l) (hlen : l.length ≤ 140737488355328) :
    Calls Try.prog 21 #[.pointer (some ⟨p, 0, none⟩)] w fun e w' => e = .returned (.slice (some ⟨w.heap.size, 0, none⟩) l.length l.length) ∧ Sl w' w.heap.size (.slice (some ⟨w.heap.size, 0, none⟩) l.length l.length) l ∧ Fr (fun _ => False) w w' := by
  have c0 : w.cell? ⟨p, 0, none⟩ = some (.bool true) := by rw [cell_of_row w p 0 _ _ _ h.1]; rfl
  have hsl := h.sl
  obtain ⟨A1, C1, rfl⟩ := h.shape
  have c1 : w.cell? ⟨p, 1, none⟩ = some (.slice A1 l.length C1) := by rw [cell_of_row w p 1 _ _ _ h.1]; rfl
  have HB := Lib.hid h.2.2
  have HS := Lib.hid hsl
  clear h hsl
  go_enter Try.func21, Try.ntmps21
  go_wp2_with (go_at_call 45; refine (copyOf_any _ A1 l.length C1 l _ HS.out hlen).mono ?_; rintro e w1 ⟨rfl, r1, r2⟩; have R1 := Lib.hid r1; have R2 := Lib.hid r2; clear r1 r2)
  go_ret
  exact ⟨rfl, Sl.block HB.out R1.out (fun j _ => by simp) (Nat.le_refl _) (by simp only [maxLen]; omega), R2.out⟩

theorem octets_big (p : Nat) (v : Value) (l : List Int) (A : Option Addr) (m c : Nat) (w : World) (h : Wr w p v l) (hm : 65535 < m) (hx : m ≤ maxLen) :
    Calls Try.prog 19 #[.pointer (some ⟨p, 0, none⟩), .slice A m c] w fun e w' => e = .returned (.int .i64 5) ∧ w = w' := by
  unfold maxLen at hx
  have c0 : w.cell? ⟨p, 0, none⟩ = some (.bool true) := by rw [cell_of_row w p 0 _ _ _ h.1]; rfl
  clear h
  go_enter Try.func19, Try.ntmps19
  go_wp2
  go_ret
  exact ⟨rfl, rfl⟩

set_option maxHeartbeats 1000000 in
theorem octets_ok (p g : Nat) (v : Value) (l k : List Int) (A : Option Addr) (m c : Nat) (w : World) (h : Wr w p v l) (hs : Sl w g (.slice A m c) k) (hm : m ≤ 65535) (hp : g < w.heap.size → ¬ Tw p v g) (hlen : l.length ≤ 140737488280000) :
    Calls Try.prog 19 #[.pointer (some ⟨p, 0, none⟩), .slice A m c] w fun e w' => e = .returned (.int .i64 0) ∧ ∃ v', Wr w' p v' (l ++ (beN m 2 ++ k)) ∧ Fr (Tw p v) w w' ∧ (∀ k, v'.ownBlock = some k → v.ownBlock = some k ∨ w.heap.size ≤ k) := by
  have c0 : w.cell? ⟨p, 0, none⟩ = some (.bool true) := by rw [cell_of_row w p 0 _ _ _ h.1]; rfl
  have H := Lib.hid h
  have HS := Lib.hid hs
  have HP := Lib.hid hp
  have HL : Hid ((l ++ beN m 2).length + m ≤ 140737488355328) := by
    show (l ++ beN m 2).length + m ≤ 140737488355328
    rw [List.length_append, beN_length _ _ (by decide)]; omega
  clear h hs hp
  go_enter Try.func19, Try.ntmps19
  go_wp2_with (first
    | (go_at_call 41; refine (add_any p v l m 2 _ H.out (by omega) (by omega) (by decide) (by decide) (by omega)).mono ?_; rintro e w1 ⟨v1, rfl, r1, r2, r3⟩; obtain ⟨A1, N1, C1, rfl⟩ := r1.shape'; have k0 : w1.cell? ⟨p, 0, none⟩ = some (.bool true) := by (rw [cell_of_row w1 p 0 _ _ _ r1.1]; rfl)
       have k1 : w1.cell? ⟨p, 1, none⟩ = some (.slice A1 N1 C1) := by (rw [cell_of_row w1 p 1 _ _ _ r1.1]; rfl)
       have R1 := Lib.hid r1; have R2 := Lib.hid r2; have R3 := Lib.hid r3; clear r1 r2 r3)
    | (at_builtin; refine wpList_app rfl (.tmp 29) (.tmp 30) rfl R1.out rfl rfl (HS.out.fr R2.out HP.out) HL.out ?_; intro A2 N2 c2 w2 hap; have k2 := hap.cell; have g2 := hap.frozen))
  go_ret
  refine ⟨rfl, _, by rw [← List.append_assoc]; exact hap.stored, R2.out.trans' hap.fr ?_, fun j hj => ?_⟩
  · rintro i hi (rfl | h)
    · exact .inl rfl
    · rcases R3.out i h with h | h
      · exact .inr h
      · omega
  · rcases hap.new j hj with h | h
    · exact R3.out j h
    · exact .inr (Nat.le_trans R2.out.size h)
end Go.Proofs.Ytkkicekhkidhjaa
