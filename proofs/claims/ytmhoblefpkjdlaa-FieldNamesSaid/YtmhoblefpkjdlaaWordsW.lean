/- The contracts of field's functions over words that are written out. Each says its condition. -/
import Derived.Test.YtmhoblefpkjdlaaPlain
namespace Go.Proofs.Ytmhoblefpkjdlaa
open Go.RowKit

theorem add_w {u v r a b c d a' b' c' d' : Int} (h : Ws u a b c d) (h' : Ws v a' b' c' d') (e : (u + v) % pp = r) (w : World) :
    Calls Try.prog 21 #[.agg #[.int .u64 a, .int .u64 b, .int .u64 c, .int .u64 d], .agg #[.int .u64 a', .int .u64 b', .int .u64 c', .int .u64 d']] w fun e w' => e = .returned (el r) ∧ Fr (fun _ => False) w w' := by
  rw [← h.eq, ← h'.eq]
  exact add_is u v r w h.el h'.el e
theorem sub_w {u v r a b c d a' b' c' d' : Int} (h : Ws u a b c d) (h' : Ws v a' b' c' d') (e : (u - v) % pp = r) (w : World) :
    Calls Try.prog 23 #[.agg #[.int .u64 a, .int .u64 b, .int .u64 c, .int .u64 d], .agg #[.int .u64 a', .int .u64 b', .int .u64 c', .int .u64 d']] w fun e w' => e = .returned (el r) ∧ Fr (fun _ => False) w w' := by
  rw [← h.eq, ← h'.eq]
  exact sub_is u v r w h.el h'.el e
theorem mul_w {u v r a b c d a' b' c' d' : Int} (h : Ws u a b c d) (h' : Ws v a' b' c' d') (e : (u * v) % pp = r) (w : World) :
    Calls Try.prog 25 #[.agg #[.int .u64 a, .int .u64 b, .int .u64 c, .int .u64 d], .agg #[.int .u64 a', .int .u64 b', .int .u64 c', .int .u64 d']] w fun e w' => e = .returned (el r) ∧ Fr (fun _ => False) w w' := by
  rw [← h.eq, ← h'.eq]
  exact mul_is u v r w h.el h'.el e
theorem inv_w {u a b c d : Int} (h : Ws u a b c d) (w : World) : Calls Try.prog 27 #[.agg #[.int .u64 a, .int .u64 b, .int .u64 c, .int .u64 d]] w fun e w' => e = .returned (el (pwr u (ex 0))) ∧ Fr (fun _ => False) w w' := by
  rw [← h.eq]
  exact inv_is u w h.el
theorem zero_w1 {u a b c d : Int} (h : Ws u a b c d) (hu : u = 0) (w : World) : Calls Try.prog 18 #[.agg #[.int .u64 a, .int .u64 b, .int .u64 c, .int .u64 d]] w fun e w' => e = .returned (.bool true) ∧ Fr (fun _ => False) w w' := by
  rw [← h.eq, hu]
  exact zero_yes w
theorem zero_w0 {u a b c d : Int} (h : Ws u a b c d) (hu : u ≠ 0) (w : World) : Calls Try.prog 18 #[.agg #[.int .u64 a, .int .u64 b, .int .u64 c, .int .u64 d]] w fun e w' => e = .returned (.bool false) ∧ Fr (fun _ => False) w w' := by
  rw [← h.eq]
  exact zero_no u w h.el hu
/-- The first argument written out, the second not. -/
theorem same_w1 {u v a b c d : Int} (h : Ws u a b c d) (hv : El v) (e : u = v) (w : World) : Calls Try.prog 30 #[.agg #[.int .u64 a, .int .u64 b, .int .u64 c, .int .u64 d], el v] w fun e w' => e = .returned (.bool true) ∧ Fr (fun _ => False) w w' := by
  rw [← h.eq]
  exact same_yes u v w h.el hv e
theorem same_w2 {u v a b c d : Int} (h : Ws u a b c d) (hv : El v) (e : v = u) (w : World) : Calls Try.prog 30 #[el v, .agg #[.int .u64 a, .int .u64 b, .int .u64 c, .int .u64 d]] w fun e w' => e = .returned (.bool true) ∧ Fr (fun _ => False) w w' := by
  rw [← h.eq]
  exact same_yes v u w hv h.el e
theorem ws_small (n : Int) (h0 : 0 ≤ n) (h1 : n ≤ 4294967295) : Ws n n 0 0 0 :=
  ⟨⟨h0, by unfold pp; omega⟩, el_eq ⟨h0, by omega⟩ ⟨by decide, by decide⟩ ⟨by decide, by decide⟩ ⟨by decide, by decide⟩ (by unfold wv; omega)⟩
theorem mul_wl {u v r a b c d : Int} (h : Ws u a b c d) (hv : El v) (e : (u * v) % pp = r) (w : World) : Calls Try.prog 25 #[.agg #[.int .u64 a, .int .u64 b, .int .u64 c, .int .u64 d], el v] w fun e w' => e = .returned (el r) ∧ Fr (fun _ => False) w w' := by
  rw [← h.eq]
  exact mul_is u v r w h.el hv e
theorem mul_wr {u v r a b c d : Int} (h : Ws v a b c d) (hu : El u) (e : (u * v) % pp = r) (w : World) : Calls Try.prog 25 #[el u, .agg #[.int .u64 a, .int .u64 b, .int .u64 c, .int .u64 d]] w fun e w' => e = .returned (el r) ∧ Fr (fun _ => False) w w' := by
  rw [← h.eq]
  exact mul_is u v r w hu h.el e
theorem add_wl {u v r a b c d : Int} (h : Ws u a b c d) (hv : El v) (e : (u + v) % pp = r) (w : World) : Calls Try.prog 21 #[.agg #[.int .u64 a, .int .u64 b, .int .u64 c, .int .u64 d], el v] w fun e w' => e = .returned (el r) ∧ Fr (fun _ => False) w w' := by
  rw [← h.eq]
  exact add_is u v r w h.el hv e
theorem add_wr {u v r a b c d : Int} (h : Ws v a b c d) (hu : El u) (e : (u + v) % pp = r) (w : World) : Calls Try.prog 21 #[el u, .agg #[.int .u64 a, .int .u64 b, .int .u64 c, .int .u64 d]] w fun e w' => e = .returned (el r) ∧ Fr (fun _ => False) w w' := by
  rw [← h.eq]
  exact add_is u v r w hu h.el e
end Go.Proofs.Ytmhoblefpkjdlaa
