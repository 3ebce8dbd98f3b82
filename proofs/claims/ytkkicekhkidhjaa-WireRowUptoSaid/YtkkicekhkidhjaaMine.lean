/- A writer or a reader that the call itself made, and what of them stays from call to call. Definitions and lemmas alone. -/
import Derived.Test.YtkkicekhkidhjaaROct
namespace Go.Proofs.Ytkkicekhkidhjaa
set_option linter.unusedSimpArgs false
set_option linter.unusedVariables false
open Go.RowKit

/-- Since the world w a writer was made; nothing that was there has turned. -/
structure Mine (w : World) (p : Nat) (v : Value) (l : List Int) (W : World) : Prop where
  wr : Wr W p v l
  fr : Fr (fun _ => False) w W
  hp : w.heap.size ≤ p
  hv : ∀ k, v.ownBlock = some k → w.heap.size ≤ k
theorem Mine.step {w : World} {p : Nat} {v : Value} {l : List Int} {W : World} (h : Mine w p v l W) {v' : Value} {l' : List Int} {W' : World} (h1 : Wr W' p v' l') (h2 : Fr (Tw p v) W W') (h3 : ∀ k, v'.ownBlock = some k → v.ownBlock = some k ∨ W.heap.size ≤ k) : Mine w p v' l' W' := by
  refine ⟨h1, h.fr.trans' h2 ?_, h.hp, fun k hk => ?_⟩
  · rintro i hi (rfl | e)
    · have := h.hp; omega
    · have := h.hv i e; omega
  · rcases h3 k hk with e | e
    · exact h.hv k e
    · exact Nat.le_trans h.fr.size e
theorem Mine.quiet {w : World} {p : Nat} {v : Value} {l : List Int} {W W' : World} (h : Mine w p v l W) (h2 : Fr (fun _ => False) W W') : Mine w p v l W' :=
  ⟨h.wr.keep h2 (fun x => x) (fun _ _ x => x), h.fr.trans h2, h.hp, h.hv⟩
/-- A slice that was there when the writer was made is none of the writer's. -/
theorem Mine.apart {w : World} {p : Nat} {v : Value} {l : List Int} {W : World} (h : Mine w p v l W) {g : Nat} (hg : g < w.heap.size ∨ W.heap.size ≤ g) : ¬ Tw p v g := by
  have hpl := heap_lt h.wr.1
  rintro (rfl | e)
  · have := h.hp; omega
  · have h1 := h.hv g e
    have h2 := h.wr.2.1.lt g e
    omega

/-- Since the world w a reader was made. -/
structure Read (w : World) (p g : Nat) (l : List Int) (W : World) : Prop where
  rd : Rd W p g l
  fr : Fr (fun _ => False) w W
  hp : w.heap.size ≤ p
  hg : w.heap.size ≤ g
theorem Read.step {w : World} {p g : Nat} {l l' : List Int} {W W' : World} (h : Read w p g l W) (h1 : Rd W' p g l') (h2 : Fr (fun x => x = p) W W') : Read w p g l' W' :=
  ⟨h1, h.fr.trans' h2 (fun i hi e => by have := h.hp; omega), h.hp, h.hg⟩
theorem Read.quiet {w : World} {p g : Nat} {l : List Int} {W W' : World} (h : Read w p g l W) (h2 : Fr (fun _ => False) W W') : Read w p g l W' :=
  ⟨h.rd.keep h2 (fun x => x) (fun _ x => x), h.fr.trans h2, h.hp, h.hg⟩

/-- A slice of bytes that a literal lays. -/
theorem Sl.lit (w : World) (l : List Int) (hb : Bys l) (hm : l.length ≤ maxLen) (cs : Array Value) (hcs : cs = (bs l).toArray) : Sl (w.alloc (.cells cs 5)) w.heap.size (.slice (some ⟨w.heap.size, 0, none⟩) l.length l.length) l := by
  subst hcs
  exact Sl.block hb (heap_alloc_new w _) (fun j _ => by simp) (Nat.le_refl _) hm
theorem Bys.of_all {l : List Int} (h : l.all (fun b => decide (0 ≤ b) && decide (b ≤ 255)) = true) : Bys l := by
  intro b hb
  have := List.all_eq_true.1 h b hb
  simp at this
  exact this

theorem eqBytes_fr (g1 g2 : Nat) (A B : Option Addr) (n m c d : Nat) (l k : List Int) (w : World) (h1 : Sl w g1 (.slice A n c) l) (h2 : Sl w g2 (.slice B m d) k) :
    Calls Try.prog 22 #[.slice A n c, .slice B m d] w fun e w' => e = .returned (.bool (decide (l = k))) ∧ Fr (fun _ => False) w w' := by
  refine (eqBytes_any g1 g2 A B n m c d l k w h1 h2).mono ?_
  rintro e w' ⟨rfl, q, rfl⟩
  exact ⟨rfl, (Fr.refl _ _).drewN q⟩

set_option maxHeartbeats 2000000 in
theorem works_any (w : World) : Calls Try.prog 25 #[] w fun e w' => e = .returned (.bool true) ∧ Fr (fun _ => False) w w' := by
  go_enter Try.func25, Try.ntmps25
  go_wp2_with fail
  refine (write_any _).mono ?_
  rintro e w1 ⟨rfl, r1, r2⟩
  have M1 := Lib.hid (Mine.mk r1 r2 (Nat.le_refl _) (fun k e => by cases e))
  clear r1 r2
  go_wp2_with fail
  refine (put_ok w.heap.size _ [] 4660 2 _ M1.out.wr (by decide) (by decide) (by decide) (by decide) (fun _ => by decide) (by decide)).mono ?_
  rintro e w2 ⟨rfl, v2, r1, r2, r3⟩
  have M2 := Lib.hid (M1.out.step r1 r2 r3)
  clear r1 r2 r3
  go_wp2_with fail
  have S3 := Lib.hid (Sl.lit w2 [119] (Bys.of_all (by decide)) (by decide) #[.int .u8 119] rfl)
  have M3 := Lib.hid (M2.out.quiet ((Fr.refl _ _).alloc (.cells #[.int .u8 119] 5)))
  refine (octets_ok w.heap.size w2.heap.size v2 _ [119] _ 1 1 _ M3.out.wr S3.out (by decide) (fun _ h => (M2.out.apart (.inr (Nat.le_refl _))) h) (by decide)).mono ?_
  rintro e w4 ⟨rfl, v4, r1, r2, r3⟩
  have M4 := Lib.hid (M3.out.step r1 r2 r3)
  clear r1 r2 r3
  go_wp2_with fail
  have S5 := Lib.hid (Sl.lit w4 [136] (Bys.of_all (by decide)) (by decide) #[.int .u8 136] rfl)
  have M5 := Lib.hid (M4.out.quiet ((Fr.refl _ _).alloc (.cells #[.int .u8 136] 5)))
  refine (wbytes_any w.heap.size w4.heap.size v4 _ [136] _ 1 1 _ M5.out.wr S5.out (by decide)).mono ?_
  rintro e w6 ⟨rfl, v6, r1, r2, r3⟩
  have M6 : Hid (Mine w w.heap.size v6 [18, 52, 0, 1, 119, 136] w6) := M5.out.step r1 r2 r3
  clear r1 r2 r3
  go_wp2_with fail
  refine (wout_any w.heap.size v6 _ _ M6.out.wr (by decide)).mono ?_
  rintro e w7 ⟨rfl, r1, r2⟩
  have M7 := Lib.hid (M6.out.quiet r2)
  have S7 := Lib.hid r1
  clear r1 r2
  go_wp2_with fail
  have S8 := Lib.hid (Sl.lit w7 [18, 52, 0, 1, 119, 136] (Bys.of_all (by decide)) (by decide) #[.int .u8 18, .int .u8 52, .int .u8 0, .int .u8 1, .int .u8 119, .int .u8 136] rfl)
  have M8 := Lib.hid (M7.out.quiet ((Fr.refl _ _).alloc (.cells #[.int .u8 18, .int .u8 52, .int .u8 0, .int .u8 1, .int .u8 119, .int .u8 136] 5)))
  refine (eqBytes_fr w6.heap.size w7.heap.size _ _ 6 6 6 6 [18, 52, 0, 1, 119, 136] [18, 52, 0, 1, 119, 136] _ (S7.out.fr ((Fr.refl (fun _ => False) _).alloc _) (fun _ x => x)) S8.out).mono ?_
  rintro e w9 ⟨rfl, r1⟩
  have M9 := Lib.hid (M8.out.quiet r1)
  clear M1 M2 M3 M4 M5 M6 M7 M8 S3 S5 S7 S8 r1
  go_wp2_with fail
  refine (wout_any w.heap.size v6 _ _ M9.out.wr (by decide)).mono ?_
  rintro e w10 ⟨rfl, r1, r2⟩
  have M10 := Lib.hid (M9.out.quiet r2)
  have S10 := Lib.hid r1
  clear r1 r2
  go_wp2_with fail
  refine (new_any w9.heap.size _ 6 6 _ _ S10.out (by decide)).mono ?_
  rintro e w11 ⟨p, g, rfl, r1, r2, r3, r4⟩
  have R11 : Hid (Read w p g [18, 52, 0, 1, 119, 136] w11) := ⟨r1, M10.out.fr.trans r4, Nat.le_trans M10.out.fr.size r2, Nat.le_trans M10.out.fr.size r3⟩
  clear r1 r2 r3 r4 M9 M10 S10
  go_wp2_with fail
  refine (get2_num 4660 p g 18 52 _ _ R11.out.rd (by decide)).mono ?_
  rintro e w12 ⟨rfl, r1, r2⟩
  have R12 := Lib.hid (R11.out.step r1 r2)
  clear r1 r2 R11
  go_wp2_with fail
  refine (roct_ok 1 p g 0 1 _ 1 _ R12.out.rd (by decide) (by decide) (by decide) (by decide) (by decide)).mono ?_
  rintro e w13 ⟨g5, rfl, r1, r2, r3, r4⟩
  have R13 : Hid (Read w p g [136] w13) := R12.out.step r3 r4
  have S13 : Hid (Sl w13 g5 (.slice (some ⟨g5, 0, none⟩) 1 1) [119]) := r1
  have h13 : w.heap.size ≤ g5 := Nat.le_trans R12.out.fr.size r2
  have h13' : g5 ≠ p := by
    rintro rfl
    have := heap_lt R12.out.rd.choose_spec.1
    omega
  clear r1 r2 r3 r4 R12
  go_wp2_with fail
  refine (rbytes_ok p g [136] 1 _ R13.out.rd (by decide) (by decide)).mono ?_
  rintro e w14 ⟨g6, rfl, r1, r2, r3, r4⟩
  have R14 : Hid (Read w p g [] w14) := R13.out.step r3 r4
  have S14 : Hid (Sl w14 g6 (.slice (some ⟨g6, 0, none⟩) 1 1) [136]) := r1
  have S14' := Lib.hid (S13.out.fr r4 (fun _ => h13'))
  clear r1 r2 r3 r4 S13 R13
  go_wp2_with fail
  have S15 := Lib.hid (Sl.lit w14 [119] (Bys.of_all (by decide)) (by decide) #[.int .u8 119] rfl)
  have F15 : Hid (Fr (fun _ => False) w14 (w14.alloc (.cells #[.int .u8 119] 5))) := (Fr.refl _ _).alloc _
  refine (eqBytes_fr g5 w14.heap.size _ _ 1 1 1 1 [119] [119] _ (S14'.out.fr F15.out (fun _ x => x)) S15.out).mono ?_
  rintro e w16 ⟨rfl, r1⟩
  have F16 : Hid (Fr (fun _ => False) w14 w16) := F15.out.trans r1
  clear r1 F15 S15 S14'
  go_wp2_with fail
  have S17 := Lib.hid (Sl.lit w16 [136] (Bys.of_all (by decide)) (by decide) #[.int .u8 136] rfl)
  have F17 : Hid (Fr (fun _ => False) w14 (w16.alloc (.cells #[.int .u8 136] 5))) := F16.out.alloc _
  refine (eqBytes_fr g6 w16.heap.size _ _ 1 1 1 1 [136] [136] _ (S14.out.fr F17.out (fun _ x => x)) S17.out).mono ?_
  rintro e w18 ⟨rfl, r1⟩
  have R18 : Hid (Read w p g [] w18) := R14.out.quiet (F17.out.trans r1)
  clear r1 F16 F17 S14 S17 R14
  go_wp2_with fail
  refine (end_any p g [] _ R18.out.rd).mono ?_
  rintro e w19 ⟨rfl, rfl⟩
  go_wp2_with fail
  go_ways
  go_ret
  exact ⟨rfl, R18.out.fr⟩
end Go.Proofs.Ytkkicekhkidhjaa
