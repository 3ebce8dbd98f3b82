/- Writers and readers that are none: what each call answers. No condition but that the block of a zero one is a zero one's. -/
import Derived.Test.YtkkicekhkidhjaaGet
import Derived.Test.YtkkicekhkidhjaaExtra
namespace Go.Proofs.Ytkkicekhkidhjaa
open Go.RowKit

/-- A pointer to no writer and no reader: nil, or to a zero one. -/
def NoneAt (w : World) (v : Value) : Prop := v = .pointer none ∨ ∃ p, v = .pointer (some ⟨p, 0, none⟩) ∧ w.cell? ⟨p, 0, none⟩ = some (.bool false)
theorem NoneAt.keep {w w' : World} {v : Value} (h : NoneAt w v) (hf : Fr (fun _ => False) w w') : NoneAt w' v := by
  rcases h with h | ⟨p, h, hc⟩
  · exact .inl h
  · exact .inr ⟨p, h, (World.cell?_of_block (w := w) (hf.block p (World.block_lt_of_cell? _ _ hc) (fun x => x))).trans hc⟩

theorem put_none (v : Value) (n size : Int) (w : World) (h : NoneAt w v) : Calls Try.prog 15 #[v, .int .i64 n, .int .i64 size] w fun e w' => e = .returned (.int .i64 1) ∧ w = w' := by
  rcases h with rfl | ⟨p, rfl, hc⟩
  all_goals
    go_enter Try.func15, Try.ntmps15
    go_wp2
    go_ret
    exact ⟨rfl, rfl⟩
theorem wbytes_none (v b : Value) (w : World) (h : NoneAt w v) : Calls Try.prog 17 #[v, b] w fun e w' => e = .returned (.int .i64 1) ∧ w = w' := by
  rcases h with rfl | ⟨p, rfl, hc⟩
  all_goals
    go_enter Try.func17, Try.ntmps17
    go_wp2
    go_ret
    exact ⟨rfl, rfl⟩
theorem woctets_none (v b : Value) (w : World) (h : NoneAt w v) : Calls Try.prog 19 #[v, b] w fun e w' => e = .returned (.int .i64 1) ∧ w = w' := by
  rcases h with rfl | ⟨p, rfl, hc⟩
  all_goals
    go_enter Try.func19, Try.ntmps19
    go_wp2
    go_ret
    exact ⟨rfl, rfl⟩
theorem wout_none (v : Value) (w : World) (h : NoneAt w v) : Calls Try.prog 21 #[v] w fun e w' => e = .returned (.slice none 0 0) ∧ w = w' := by
  rcases h with rfl | ⟨p, rfl, hc⟩
  all_goals
    go_enter Try.func21, Try.ntmps21
    go_wp2
    go_ret
    exact ⟨rfl, rfl⟩
theorem get_none (v : Value) (n : Int) (w : World) (h : NoneAt w v) : Calls Try.prog 28 #[v, .int .i64 n] w fun e w' => e = .returned (.tuple #[.int .i64 0, .int .i64 1]) ∧ w = w' := by
  rcases h with rfl | ⟨p, rfl, hc⟩
  all_goals
    go_enter Try.func28, Try.ntmps28
    go_wp2
    go_ret2
    exact ⟨rfl, rfl⟩
theorem rbytes_none (v : Value) (n : Int) (w : World) (h : NoneAt w v) : Calls Try.prog 30 #[v, .int .i64 n] w fun e w' => e = .returned (.tuple #[.slice none 0 0, .int .i64 1]) ∧ w = w' := by
  rcases h with rfl | ⟨p, rfl, hc⟩
  all_goals
    go_enter Try.func30, Try.ntmps30
    go_wp2
    go_ret2
    exact ⟨rfl, rfl⟩
theorem left_none (v : Value) (w : World) (h : NoneAt w v) : Calls Try.prog 34 #[v] w fun e w' => e = .returned (.int .i64 0) ∧ w = w' := by
  rcases h with rfl | ⟨p, rfl, hc⟩
  all_goals
    go_enter Try.func34, Try.ntmps34
    go_wp2
    go_ret
    exact ⟨rfl, rfl⟩
theorem end_none (v : Value) (w : World) (h : NoneAt w v) : Calls Try.prog 36 #[v] w fun e w' => e = .returned (.int .i64 1) ∧ w = w' := by
  rcases h with rfl | ⟨p, rfl, hc⟩
  all_goals
    go_enter Try.func36, Try.ntmps36
    go_wp2
    go_ret
    exact ⟨rfl, rfl⟩
theorem roct_none (v : Value) (n : Int) (w : World) (h : NoneAt w v) : Calls Try.prog 32 #[v, .int .i64 n] w fun e w' => e = .returned (.tuple #[.slice none 0 0, .int .i64 1]) ∧ Fr (fun _ => False) w w' := by
  rcases h with rfl | ⟨p, rfl, hc⟩
  · go_enter_defers Try.func32, Try.ntmps32
    go_wp2
    refine ⟨.tuple #[.slice none 0 0, .int .i64 1], by simp [results, Try.results32, go_sem], rfl, ?_⟩
    exact ((Fr.refl _ _).alloc _).alloc _
  · have hp := World.block_lt_of_cell? _ _ hc
    go_enter_defers Try.func32, Try.ntmps32
    go_wp2
    refine ⟨.tuple #[.slice none 0 0, .int .i64 1], by simp [results, Try.results32, go_sem], rfl, ?_⟩
    exact ((Fr.refl _ _).alloc _).alloc _
end Go.Proofs.Ytkkicekhkidhjaa
