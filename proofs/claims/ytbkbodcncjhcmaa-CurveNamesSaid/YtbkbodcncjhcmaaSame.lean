/- The law's helpers same and awake: contracts. Each says its condition. -/
import Derived.Test.YtbkbodcncjhcmaaInv
namespace Go.Proofs.Ytbkbodcncjhcmaa
open Go.RowKit

theorem lb_ne {u v : Int} (hu : El u) (hv : El v) (h : u ≠ v) : lb 32 u ≠ lb 32 v := by
  intro e
  apply h
  have h1 := vl_lb 32 u
  have h2 := vl_lb 32 v
  rw [e, h2, p256_4] at h1
  obtain ⟨a, b⟩ := hu
  obtain ⟨c, d⟩ := hv
  unfold pp at b d
  omega

end Go.Proofs.Ytbkbodcncjhcmaa
