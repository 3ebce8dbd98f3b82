/- The contracts of field's functions over words that are written out. Each says its condition. -/
import Derived.Test.YtbkbodcncjhcmaaPlain
namespace Go.Proofs.Ytbkbodcncjhcmaa
open Go.RowKit

theorem add_w {u v r a b c d a' b' c' d' : Int} (h : Ws u a b c d) (h' : Ws v a' b' c' d') (e : (u + v) % pp = r) (w : World) :
    Calls Try.prog 50 #[.agg #[.int .u64 a, .int .u64 b, .int .u64 c, .int .u64 d], .agg #[.int .u64 a', .int .u64 b', .int .u64 c', .int .u64 d']] w fun e w' => e = .returned (el r) ∧ Fr (fun _ => False) w w' := by
  rw [← h.eq, ← h'.eq]
  exact add_is u v r w h.el h'.el e
theorem sub_w {u v r a b c d a' b' c' d' : Int} (h : Ws u a b c d) (h' : Ws v a' b' c' d') (e : (u - v) % pp = r) (w : World) :
    Calls Try.prog 24 #[.agg #[.int .u64 a, .int .u64 b, .int .u64 c, .int .u64 d], .agg #[.int .u64 a', .int .u64 b', .int .u64 c', .int .u64 d']] w fun e w' => e = .returned (el r) ∧ Fr (fun _ => False) w w' := by
  rw [← h.eq, ← h'.eq]
  exact sub_is u v r w h.el h'.el e
theorem mul_w {u v r a b c d a' b' c' d' : Int} (h : Ws u a b c d) (h' : Ws v a' b' c' d') (e : (u * v) % pp = r) (w : World) :
    Calls Try.prog 52 #[.agg #[.int .u64 a, .int .u64 b, .int .u64 c, .int .u64 d], .agg #[.int .u64 a', .int .u64 b', .int .u64 c', .int .u64 d']] w fun e w' => e = .returned (el r) ∧ Fr (fun _ => False) w w' := by
  rw [← h.eq, ← h'.eq]
  exact mul_is u v r w h.el h'.el e
theorem inv_w {u a b c d : Int} (h : Ws u a b c d) (w : World) : Calls Try.prog 53 #[.agg #[.int .u64 a, .int .u64 b, .int .u64 c, .int .u64 d]] w fun e w' => e = .returned (el (pwr u (ex 0))) ∧ Fr (fun _ => False) w w' := by
  rw [← h.eq]
  exact inv_is u w h.el
theorem ws_small (n : Int) (h0 : 0 ≤ n) (h1 : n ≤ 4294967295) : Ws n n 0 0 0 :=
  ⟨⟨h0, by unfold pp; omega⟩, el_eq ⟨h0, by omega⟩ ⟨by decide, by decide⟩ ⟨by decide, by decide⟩ ⟨by decide, by decide⟩ (by unfold wv; omega)⟩
theorem mul_wl {u v r a b c d : Int} (h : Ws u a b c d) (hv : El v) (e : (u * v) % pp = r) (w : World) : Calls Try.prog 52 #[.agg #[.int .u64 a, .int .u64 b, .int .u64 c, .int .u64 d], el v] w fun e w' => e = .returned (el r) ∧ Fr (fun _ => False) w w' := by
  rw [← h.eq]
  exact mul_is u v r w h.el hv e
theorem mul_wr {u v r a b c d : Int} (h : Ws v a b c d) (hu : El u) (e : (u * v) % pp = r) (w : World) : Calls Try.prog 52 #[el u, .agg #[.int .u64 a, .int .u64 b, .int .u64 c, .int .u64 d]] w fun e w' => e = .returned (el r) ∧ Fr (fun _ => False) w w' := by
  rw [← h.eq]
  exact mul_is u v r w hu h.el e
theorem add_wl {u v r a b c d : Int} (h : Ws u a b c d) (hv : El v) (e : (u + v) % pp = r) (w : World) : Calls Try.prog 50 #[.agg #[.int .u64 a, .int .u64 b, .int .u64 c, .int .u64 d], el v] w fun e w' => e = .returned (el r) ∧ Fr (fun _ => False) w w' := by
  rw [← h.eq]
  exact add_is u v r w h.el hv e
theorem add_wr {u v r a b c d : Int} (h : Ws v a b c d) (hu : El u) (e : (u + v) % pp = r) (w : World) : Calls Try.prog 50 #[el u, .agg #[.int .u64 a, .int .u64 b, .int .u64 c, .int .u64 d]] w fun e w' => e = .returned (el r) ∧ Fr (fun _ => False) w w' := by
  rw [← h.eq]
  exact add_is u v r w hu h.el e
end Go.Proofs.Ytbkbodcncjhcmaa
