/- chacha's Block: contract. Conditions: a key of 32 bytes, a word, a nonce of 12 bytes. -/
import Derived.Test.YtnagnolbomcnjaaBl
namespace Go.Proofs.Ytnagnolbomcnjaa
set_option linter.unusedSimpArgs false
set_option linter.unusedVariables false
open Go.RowKit

/-- The bytes of the block of a key, a counter and a nonce. -/
def bk64 (k : List Int) (c : Int) (n : List Int) : List Int := blk (st k c n)
theorem bk64_length {k : List Int} {c : Int} {n : List Int} (hk : k.length = 32) (bk : Bys k) (hc : Wd c) (hn : n.length = 12) (bn : Bys n) : (bk64 k c n).length = 64 := blk_length (st_length hk hn) (st_wds hk bk hc hn bn)
theorem bk64_bys (k : List Int) (c : Int) (n : List Int) : Bys (bk64 k c n) := blk_bys _
theorem size28 : (Try.prog.info? 28).map (·.size) = some 32 := by kernel_rfl
theorem size29 : (Try.prog.info? 29).map (·.size) = some 12 := by kernel_rfl
set_option maxRecDepth 100000 in
set_option maxHeartbeats 4000000 in
theorem blockK_is (k : List Int) (c : Int) (n : List Int) (w : World) (hk : k.length = 32) (bk : Bys k) (hc : Wd c) (hn : n.length = 12) (bn : Bys n) :
    Calls Try.prog 16 #[.agg (vs .u8 k), .int .u32 c, .agg (vs .u8 n)] w fun e w' => e = .returned (.agg (vs .u8 (bk64 k c n))) ∧ Fr (fun _ => False) w w' := by
  obtain ⟨S, hS⟩ : ∃ S, S = st k c n := ⟨_, rfl⟩
  obtain ⟨B, hB⟩ : ∃ B, B = bk64 k c n := ⟨_, rfl⟩
  have C1 : ∀ W, Calls Try.prog 26 #[.agg (vs .u8 k), .int .u32 c, .agg (vs .u8 n)] W fun e w' => e = .returned (.agg (vs .u32 S)) ∧ Fr (fun _ => False) W w' := fun W => by rw [hS]; exact start_is k c n W hk bk hn bn
  have C2 : ∀ W, Calls Try.prog 27 #[.agg (vs .u32 S)] W fun e w' => e = .returned (.agg (vs .u8 B)) ∧ Fr (fun _ => False) W w' := fun W => by rw [hS, hB]; exact block_is _ W (st_length hk hn) (st_wds hk bk hc hn bn)
  have lB : B.length = 64 := by rw [hB]; exact bk64_length hk bk hc hn bn
  have HB := Lib.hid hB
  have ik : Hid ((Try.prog.info? 28).map (·.size) = some (vs .u8 k).size) := by show _ = _; rw [size28, vs_size, hk]
  have iN : Hid ((Try.prog.info? 29).map (·.size) = some (vs .u8 n).size) := by show _ = _; rw [size29, vs_size, hn]
  have iB : Hid ((Try.prog.info? 32).map (·.size) = some (vs .u8 B).size) := by show _ = _; rw [size64, vs_size, lB]
  obtain ⟨Z, hZ⟩ : ∃ Z, Z = List.replicate 64 (0 : Int) := ⟨_, rfl⟩
  have hz : ∀ W : World, (zeroValue 32).run Try.prog W = .ok (.agg (vs .u8 Z)) W := fun W => by rw [hZ]; exact zero64 W
  have ez : Hid ((vs .u8 Z).size = (vs .u8 B).size) := by show _ = _; rw [vs_size, vs_size, lB, hZ]; rfl
  clear hS hB lB hk bk hc hn bn hZ
  go_enter Try.func16, Try.ntmps16
  go_upto_region 1 with (fail)
  generalize hW : ((w.alloc (.cells (vs .u8 k) 28)).alloc (.cells (vs .u8 n) 29)).alloc (.cells (vs .u8 Z) 32) = W0
  have HW := Lib.hid (calm3 hW)
  have X0 := Lib.hid HW.out.1
  have X1 := Lib.hid HW.out.2.1
  have X2 : Hid (Ar W0 (w.heap.size + 1 + 1) 32 .u8 Z) := HW.out.2.2.1
  have F0 : Hid (Fr (fun _ => False) w W0) := HW.out.2.2.2
  clear hW HW
  go_wp2_with (first
    | (go_at_call 26; refine (C1 _).mono ?_; rintro e w' ⟨rfl, hf⟩; replace X2 : Hid (Ar w' (w.heap.size + 1 + 1) 32 .u8 Z) := X2.out.fr hf (fun x => x); replace F0 : Hid (Fr (fun _ => False) w w') := F0.out.trans hf; clear hf)
    | (go_at_call 27; refine (C2 _).mono ?_; rintro e w' ⟨rfl, hf⟩; replace X2 : Hid (Ar w' (w.heap.size + 1 + 1) 32 .u8 Z) := X2.out.fr hf (fun x => x); replace F0 : Hid (Fr (fun _ => False) w w') := F0.out.trans hf; clear hf)
    | refine wpList_load_row rfl 28 (.tmp 3) rfl (w.heap.size) rfl 28 (vs .u8 k) (0, 0) _ X0.out Try.underlying28 rfl ik.out ?_
    | refine wpList_load_row rfl 29 (.tmp 5) rfl (w.heap.size + 1) rfl 29 (vs .u8 n) (0, 0) _ X1.out Try.underlying29 rfl iN.out ?_
    | refine wpList_store_row rfl 32 (.tmp 6) (.tmp 11) rfl (w.heap.size + 1 + 1) (vs .u8 B) rfl rfl 32 _ X2.out iB.out ez.out (vs_all _ _) ?_)
  refine bodyPost_ret (results_cell_row Try.results16 _ _ _ 32 _ (0, 0) _ rfl (setRow_heap _ _ _ _ _ _ X2.out) Try.underlying32 rfl iB.out) rfl ⟨by rw [HB.out], F0.out.setRow _ (.inr (by omega))⟩
end Go.Proofs.Ytnagnolbomcnjaa
