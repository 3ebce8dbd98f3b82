/- The laws' works: contract, no condition. -/
import Derived.Test.YtafpcaoccocpfaaZr
import Derived.Test.YtafpcaoccocpfaaZv
import Derived.Great.BuildSlice
import Derived.Lib.SlBytesConst
namespace Go.Proofs.Ytafpcaoccocpfaa
set_option linter.unusedSimpArgs false
set_option linter.unusedVariables false
open Go.ChangeShapes Go.WideShapes Go.ChangeAt Go.RowKit


def abc : List Int := [97, 98, 99]
theorem abc_bys : Bys abc := fun b hb => by
  have e : ∀ b ∈ abc, 0 ≤ b ∧ b ≤ 255 := by decide
  exact e b hb
def abcH : ByteArray := ⟨#[53, 48, 56, 99, 53, 101, 56, 99, 51, 50, 55, 99, 49, 52, 101, 50, 101, 49, 97, 55, 50, 98, 97, 51, 52, 101, 101, 98, 52, 53, 50, 102, 51, 55, 52, 53, 56, 98, 50, 48, 57, 101, 100, 54, 51, 97, 50, 57, 52, 100, 57, 57, 57, 98, 52, 99, 56, 54, 54, 55, 53, 57, 56, 50]⟩
set_option maxRecDepth 100000 in
theorem abc_hex : hexT (dig 32 [] abc) 32 = abcH := by
  have e : dig 32 [] abc = _ := dig_abc
  rw [e]
  decide +kernel
set_option maxRecDepth 100000 in
set_option maxHeartbeats 4000000 in
theorem works_is (w : World) : Calls Try.prog 15 #[] w fun e w' => e = .returned (.bool true) ∧ Fr (fun _ => False) w w' := by
  obtain ⟨D, hD⟩ : ∃ D, D = dig 32 [] abc := ⟨_, rfl⟩
  have lD : Hid (D.length = 32 ∧ Bys D) := by rw [hD]; exact ⟨dig_length (by decide) _ _, dig_bys _ _ _⟩
  obtain ⟨X, hX⟩ : ∃ X, X = abcH := ⟨_, rfl⟩
  have HX : Hid (hexT D 32 = X) := by show _ = _; rw [hD, hX]; exact abc_hex
  have CS : ∀ W A c g, Sl W g (.slice A 3 c) abc → Calls Try.prog 16 #[.slice A 3 c] W fun e w' => e = .returned (.agg (vs .u8 D)) ∧ Fr (fun _ => False) W w' := fun W A c g h => by rw [hD]; exact sum_is g A 3 c abc W h (by decide)
  have CH : ∀ W g, Sl W g (.slice (some ⟨g, 0, none⟩) 32 32) D → Calls Try.prog 23 #[.slice (some ⟨g, 0, none⟩) 32 32] W fun e w' => e = .returned (.string X) ∧ Fr (fun _ => False) W w' := fun W g h => by
    have e := hex_is g _ 32 32 D W h (by decide)
    rwa [HX.out] at e
  obtain ⟨Z, hZ⟩ : ∃ Z, Z = List.replicate 32 (0 : Int) := ⟨_, rfl⟩
  have hz : ∀ W : World, (zeroValue 30).run Try.prog W = .ok (.agg (vs .u8 Z)) W := fun W => by rw [hZ]; exact zeroA32 W
  have s1 : Hid ((Try.prog.info? 30).map (·.size) = some (vs .u8 D).size) := by show _ = _; rw [szA32, vs_size, lD.out.1]
  have e1 : Hid ((vs .u8 Z).size = (vs .u8 D).size) := by show _ = _; rw [vs_size, vs_size, lD.out.1, hZ]; rfl
  have HXX : Unit → X = abcH := fun _ => hX
  clear hD hX hZ
  go_enter Try.func15, Try.ntmps15
  go_upto_region 1 with (fail)
  refine wp_region_list ?_
  refine wpList_buildFlat rfl 22 5 3 _ rfl .u8 abc Try.underlying22 size5 (by kernel_rfl) rfl (by decide) (by decide) (by kernel_rfl) ?_
  change wpList _ _ _ _ _ (w.alloc (.cells (vs .u8 abc) 5))
  refine wpList_bytesConst rfl (.tmp 2) rfl 3 3 rfl (vs .u8 abc) ?_
  obtain ⟨fz, hfz⟩ : ∃ f, f = ((vs .u8 abc).size, (vs .u8 abc).size + 1) := ⟨_, rfl⟩
  rw [← hfz]
  have FB : Hid (Fr (fun _ => False) w (w.alloc (.cells (vs .u8 abc) 5 fz))) := (Fr.refl _ _).alloc _
  have S5 : Hid (Sl (w.alloc (.cells (vs .u8 abc) 5 fz)) w.heap.size (.slice (some ⟨w.heap.size, 0, none⟩) 3 3) abc) := Sl.block abc_bys (heap_alloc_new w _) (fun j _ => by rw [vs_bs]; simp) (by decide) (by decide)
  generalize w.alloc (.cells (vs .u8 abc) 5 fz) = W5 at *
  clear hfz
  try simp only [Act.put, List.setIfInBounds_toArray, List.set_cons_succ, List.set_cons_zero]
  go_upto_region 2 with (first
    | (go_at_call 16; refine (CS _ _ _ _ S5.out).mono ?_; rintro e w6 ⟨rfl, hf⟩; have F6 := Lib.hid hf; clear hf)
    | refine wpList_store_row rfl 30 (.tmp 1) (.tmp 4) rfl w6.heap.size (vs .u8 D) rfl rfl 30 (vs .u8 Z) (heap_alloc_new w6 (.cells (vs .u8 Z) 30)) s1.out e1.out (vs_all _ _) ?_)
  obtain ⟨bq, hbq⟩ : ∃ q, q = w6.heap.size := ⟨_, rfl⟩
  have FQ : Fr (fun _ => False) w6 ((w6.alloc (.cells (vs .u8 Z) 30)).setRow w6.heap.size (vs .u8 D)) := ((Fr.refl _ w6).alloc _).setRow _ (.inr (Nat.le_refl _))
  have T7 : Hid (Ar ((w6.alloc (.cells (vs .u8 Z) 30)).setRow w6.heap.size (vs .u8 D)) bq 30 .u8 D) := by rw [hbq]; exact (Ar.new w6 30 .u8 Z).row D
  have F7 := Lib.hid ((FB.out.trans F6.out).trans FQ)
  rw [← hbq] at T7 F7 ⊢
  generalize (w6.alloc (.cells (vs .u8 Z) 30)).setRow bq (vs .u8 D) = W7 at *
  clear FQ hbq FB F6 S5 CS hz
  try simp only [Act.put, List.setIfInBounds_toArray, List.set_cons_succ, List.set_cons_zero]
  have S7 : Hid (Sl W7 bq (.slice (some ⟨bq, 0, none⟩) 32 32) D) := T7.out.slt lD.out.2 lD.out.1 (by decide)
  clear T7
  go_wp2_with (go_at_call 23; refine (CH _ _ S7.out).mono ?_; rintro e w8 ⟨rfl, hf⟩; have F8 := Lib.hid hf; clear hf)
  go_ret
  refine ⟨?_, F7.out.trans F8.out⟩
  rw [HXX ()]
  kernel_rfl
end Go.Proofs.Ytafpcaoccocpfaa
