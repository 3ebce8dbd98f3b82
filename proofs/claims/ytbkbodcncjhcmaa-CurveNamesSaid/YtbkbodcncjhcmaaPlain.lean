/- Plain regions whose first operations have one value each: walked over the class of worlds in which all that was there stays. Laws of the model's operations; no condition. -/
import Derived.Test.YtbkbodcncjhcmaaSame
namespace Go.Proofs.Ytbkbodcncjhcmaa
open Go.RowKit

theorem wpList_of_quiet {P : Program} {ops : Array Oper} {C : World → Prop} {Q : Exit → Act → World → Prop} (l2 : List Oper) : ∀ (l1 : List Oper) (a : Act) (w : World), C w →
    wpQuiet P ops C (fun a' => ∀ w', C w' → wpList P ops Q l2 a' w') l1 a → wpList P ops Q (l1 ++ l2) a w
  | [], a, w, hw, h => h w hw
  | o :: rest, a, w, hw, h => by
    show wpList P ops Q (o :: (rest ++ l2)) a w
    unfold wpList
    unfold wpQuiet at h
    split
    · rename_i hg
      rw [if_pos hg] at h
      exact .inl (Oper.wp_of_quiet (C := C) hw (fun a' w' hw' ha' => wpList_of_quiet l2 rest a' w' hw' ha') h)
    · rename_i hg
      rw [if_neg hg] at h
      exact wpList_of_quiet l2 rest _ w hw h
/-- The first n operations of a plain region, over a class. -/
theorem wp_region_head {P : Program} {id : Nat} {ops : List Oper} {C : World → Prop} {Q : Exit → Act → World → Prop} {a : Act} {w : World} (n : Nat) (hw : C w)
    (h : wpQuiet P ops.toArray C (fun a' => ∀ w', C w' → wpList P ops.toArray Q (ops.drop n) a' w') (ops.take n) a) : (Code.region id ops.toArray false).wp P Q a w := by
  refine wp_region_list ?_
  have := wpList_of_quiet (C := C) (ops.drop n) (ops.take n) a w hw h
  rwa [List.take_append_drop] at this
end Go.Proofs.Ytbkbodcncjhcmaa
