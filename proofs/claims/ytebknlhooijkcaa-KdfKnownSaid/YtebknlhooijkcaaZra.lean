/- The program's turned and mix: contracts. Conditions: words; one of four numbers of bits. -/
import Derived.Test.YtebknlhooijkcaaZu
namespace Go.Proofs.Ytebknlhooijkcaa
set_option linter.unusedSimpArgs false
set_option linter.unusedVariables false
open Go.ChangeShapes Go.WideShapes Go.ChangeAt Go.RowKit

theorem turned16 (x : Int) (h : Wd x) (w : World) : Calls Try.prog 57 #[.int .u32 x, .int .u64 16] w fun e w' => e = .returned (.int .u32 (tr 16 x)) ∧ Fr (fun _ => False) w w' := by
  have e := tr_or 16 (by simp [Tn]) h
  have h0 := h.1
  have h1 := h.2
  go_enter Try.func57, Try.ntmps57
  go_wp2
  go_ret
  exact ⟨by first | (rw [← e]; rfl) | rw [← e], Fr.refl _ _⟩
theorem turned12 (x : Int) (h : Wd x) (w : World) : Calls Try.prog 57 #[.int .u32 x, .int .u64 12] w fun e w' => e = .returned (.int .u32 (tr 12 x)) ∧ Fr (fun _ => False) w w' := by
  have e := tr_or 12 (by simp [Tn]) h
  have h0 := h.1
  have h1 := h.2
  go_enter Try.func57, Try.ntmps57
  go_wp2
  go_ret
  exact ⟨by first | (rw [← e]; rfl) | rw [← e], Fr.refl _ _⟩
theorem turned8 (x : Int) (h : Wd x) (w : World) : Calls Try.prog 57 #[.int .u32 x, .int .u64 8] w fun e w' => e = .returned (.int .u32 (tr 8 x)) ∧ Fr (fun _ => False) w w' := by
  have e := tr_or 8 (by simp [Tn]) h
  have h0 := h.1
  have h1 := h.2
  go_enter Try.func57, Try.ntmps57
  go_wp2
  go_ret
  exact ⟨by first | (rw [← e]; rfl) | rw [← e], Fr.refl _ _⟩
theorem turned7 (x : Int) (h : Wd x) (w : World) : Calls Try.prog 57 #[.int .u32 x, .int .u64 7] w fun e w' => e = .returned (.int .u32 (tr 7 x)) ∧ Fr (fun _ => False) w w' := by
  have e := tr_or 7 (by simp [Tn]) h
  have h0 := h.1
  have h1 := h.2
  go_enter Try.func57, Try.ntmps57
  go_wp2
  go_ret
  exact ⟨by first | (rw [← e]; rfl) | rw [← e], Fr.refl _ _⟩

theorem results_tmp4 {fn : Func} {t u v x : Tmp} (h : fn.results = #[.tmp t, .tmp u, .tmp v, .tmp x]) (tmps : Array Value) (P : Program) (w : World) :
    (results fn tmps).run P w = .ok (.tuple #[tmps.getD t undef, tmps.getD u undef, tmps.getD v undef, tmps.getD x undef]) w := by
  simp [results, h]
/-- Four numbers are mixed with two. -/
def qz (a b c d x y : Int) : Int × Int × Int × Int :=
  let a1 := sm (sm a b) x
  let d1 := tr 16 (xr d a1)
  let c1 := sm c d1
  let b1 := tr 12 (xr b c1)
  let a2 := sm (sm a1 b1) y
  let d2 := tr 8 (xr d1 a2)
  let c2 := sm c1 d2
  (a2, tr 7 (xr b1 c2), c2, d2)
theorem sm_3 (a b x : Int) : IntKind.u32.wrap (a + IntKind.u32.wrap (b + x)) = sm (sm a b) x := by rw [wrap32, wrap32]; unfold sm; omega
set_option maxRecDepth 100000 in
set_option maxHeartbeats 4000000 in
theorem mix_ex {a b c d x y : Int} (ha : Wd a) (hb : Wd b) (hc : Wd c) (hd : Wd d) : ∃ a2 b2 c2 d2, qz a b c d x y = (a2, b2, c2, d2) ∧ Wd a2 ∧ Wd b2 ∧ Wd c2 ∧ Wd d2 ∧
    ∀ w, Calls Try.prog 56 #[.int .u32 a, .int .u32 b, .int .u32 c, .int .u32 d, .int .u32 x, .int .u32 y] w fun e w' => e = .returned (.tuple #[.int .u32 a2, .int .u32 b2, .int .u32 c2, .int .u32 d2]) ∧ Fr (fun _ => False) w w' := by
  obtain ⟨p1, ep1⟩ : ∃ p, p = IntKind.u32.wrap (b + x) := ⟨_, rfl⟩
  obtain ⟨a1, ea1⟩ : ∃ p, p = IntKind.u32.wrap (a + p1) := ⟨_, rfl⟩
  have fa1 : a1 = sm (sm a b) x := by rw [ea1, ep1, sm_3]
  have wa1 : Wd a1 := by rw [fa1]; exact sm_wd _ _
  obtain ⟨x1, ex1⟩ : ∃ p, p = bits .xor .u32 d a1 := ⟨_, rfl⟩
  have wx1 : Wd x1 := by rw [ex1]; exact xr_wd hd wa1
  obtain ⟨d1, ed1⟩ : ∃ p, p = tr 16 x1 := ⟨_, rfl⟩
  have wd1 : Wd d1 := by rw [ed1]; exact tr_wd 16 (by simp [Tn]) wx1
  obtain ⟨c1, ec1⟩ : ∃ p, p = IntKind.u32.wrap (c + d1) := ⟨_, rfl⟩
  have fc1 : c1 = sm c d1 := by rw [ec1, wrap32]; rfl
  have wc1 : Wd c1 := by rw [fc1]; exact sm_wd _ _
  obtain ⟨x2, ex2⟩ : ∃ p, p = bits .xor .u32 b c1 := ⟨_, rfl⟩
  have wx2 : Wd x2 := by rw [ex2]; exact xr_wd hb wc1
  obtain ⟨b1, eb1⟩ : ∃ p, p = tr 12 x2 := ⟨_, rfl⟩
  have wb1 : Wd b1 := by rw [eb1]; exact tr_wd 12 (by simp [Tn]) wx2
  obtain ⟨p2, ep2⟩ : ∃ p, p = IntKind.u32.wrap (b1 + y) := ⟨_, rfl⟩
  obtain ⟨a2, ea2⟩ : ∃ p, p = IntKind.u32.wrap (a1 + p2) := ⟨_, rfl⟩
  have fa2 : a2 = sm (sm a1 b1) y := by rw [ea2, ep2, sm_3]
  have wa2 : Wd a2 := by rw [fa2]; exact sm_wd _ _
  obtain ⟨x3, ex3⟩ : ∃ p, p = bits .xor .u32 d1 a2 := ⟨_, rfl⟩
  have wx3 : Wd x3 := by rw [ex3]; exact xr_wd wd1 wa2
  obtain ⟨d2, ed2⟩ : ∃ p, p = tr 8 x3 := ⟨_, rfl⟩
  have wd2 : Wd d2 := by rw [ed2]; exact tr_wd 8 (by simp [Tn]) wx3
  obtain ⟨c2, ec2⟩ : ∃ p, p = IntKind.u32.wrap (c1 + d2) := ⟨_, rfl⟩
  have fc2 : c2 = sm c1 d2 := by rw [ec2, wrap32]; rfl
  have wc2 : Wd c2 := by rw [fc2]; exact sm_wd _ _
  obtain ⟨x4, ex4⟩ : ∃ p, p = bits .xor .u32 b1 c2 := ⟨_, rfl⟩
  have wx4 : Wd x4 := by rw [ex4]; exact xr_wd wb1 wc2
  obtain ⟨b2, eb2⟩ : ∃ p, p = tr 7 x4 := ⟨_, rfl⟩
  have wb2 : Wd b2 := by rw [eb2]; exact tr_wd 7 (by simp [Tn]) wx4
  have T1 : ∀ W, Calls Try.prog 57 #[.int .u32 x1, .int .u64 16] W fun e w' => e = .returned (.int .u32 d1) ∧ Fr (fun _ => False) W w' := fun W => by rw [ed1]; exact turned16 x1 wx1 W
  have T2 : ∀ W, Calls Try.prog 57 #[.int .u32 x2, .int .u64 12] W fun e w' => e = .returned (.int .u32 b1) ∧ Fr (fun _ => False) W w' := fun W => by rw [eb1]; exact turned12 x2 wx2 W
  have T3 : ∀ W, Calls Try.prog 57 #[.int .u32 x3, .int .u64 8] W fun e w' => e = .returned (.int .u32 d2) ∧ Fr (fun _ => False) W w' := fun W => by rw [ed2]; exact turned8 x3 wx3 W
  have T4 : ∀ W, Calls Try.prog 57 #[.int .u32 x4, .int .u64 7] W fun e w' => e = .returned (.int .u32 b2) ∧ Fr (fun _ => False) W w' := fun W => by rw [eb2]; exact turned7 x4 wx4 W
  have hq : qz a b c d x y = (a2, b2, c2, d2) := by
    rw [eb2, ex4, fc2, ed2, ex3, fa2, eb1, ex2, fc1, ed1, ex1, fa1]
    rfl
  refine ⟨a2, b2, c2, d2, hq, wa2, wb2, wc2, wd2, fun w => ?_⟩
  clear hq fa1 fc1 fa2 fc2 ed1 eb1 ed2 eb2
  have k1 := ep1.symm
  have k2 := ea1.symm
  have k3 := ex1.symm
  have k4 := ec1.symm
  have k5 := ex2.symm
  have k6 := ep2.symm
  have k7 := ea2.symm
  have k8 := ex3.symm
  have k9 := ec2.symm
  have k10 := ex4.symm
  clear ep1 ea1 ex1 ec1 ex2 ep2 ea2 ex3 ec2 ex4 ha hb hc hd wa1 wx1 wd1 wc1 wx2 wb1 wa2 wx3 wd2 wc2 wx4 wb2
  go_enter Try.func56, Try.ntmps56
  go_upto_region 3 with (go_at_call 57; refine (T1 _).mono ?_; rintro e w1 ⟨rfl, hf⟩; have F1 := Lib.hid hf; clear hf)
  go_upto_region 5 with (go_at_call 57; refine (T2 _).mono ?_; rintro e w2 ⟨rfl, hf⟩; have F2 := Lib.hid hf; clear hf)
  go_upto_region 7 with (go_at_call 57; refine (T3 _).mono ?_; rintro e w3 ⟨rfl, hf⟩; have F3 := Lib.hid hf; clear hf)
  go_upto_region 9 with (go_at_call 57; refine (T4 _).mono ?_; rintro e w4 ⟨rfl, hf⟩; have F4 := Lib.hid hf; clear hf)
  go_wp2
  refine bodyPost_ret (results_tmp4 rfl _ _ _) rfl ?_
  exact ⟨rfl, ((F1.out.trans F2.out).trans F3.out).trans F4.out⟩
end Go.Proofs.Ytebknlhooijkcaa
