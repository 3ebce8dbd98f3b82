/- AeadNonce answers true for all numbers: the given statement AeadNonceSaid. No condition. -/
import Derived.Test.YtbafppdmlhogbaaLi
import Derived.Test.YtbafppdmlhogbaaPs
namespace Go.Proofs.Ytbafppdmlhogbaa
set_option linter.unusedSimpArgs false
set_option linter.unusedVariables false
open Go.ChangeShapes Go.WideShapes Go.ChangeAt Go.RowKit

theorem eq12 (l m : List Int) (hl : l.length = 12) (hm : m.length = 12) (W : World) : (Op.equalIn 10000 22 (.agg (vs .u8 l)) (.agg (vs .u8 m))).run Try.prog W = .ok (decide (l = m)) W :=
  run_equalIn_ints (P := Try.prog) 9998 Try.underlying22 (i := (Try.prog.info? 5).get (by kernel_rfl)) (by kernel_rfl) Try.underlying5 (by kernel_rfl) (by kernel_rfl) l m hl hm W
set_option maxRecDepth 100000 in
set_option maxHeartbeats 8000000 in
theorem law_nonce_any (a0 : Int) (w : World) (ha : -9223372036854775808 ≤ a0 ∧ a0 ≤ 9223372036854775807) :
    Calls Try.prog 3 #[.int .i64 a0] w fun e w' => e = .returned (.bool true) ∧ Fr (fun _ => False) w w' := by
  obtain ⟨V, hV⟩ : ∃ V, V = (noncev a0).1 := ⟨_, rfl⟩
  obtain ⟨er, hE⟩ : ∃ x, x = (noncev a0).2 := ⟨_, rfl⟩
  have C1 : ∀ W, Calls Try.prog 13 #[.int .i64 a0] W fun e w' => e = .returned (.tuple #[.agg (vs .u8 V), .int .i64 er]) ∧ Fr (fun _ => False) W w' := fun W => by rw [hV, hE]; exact nonce_is a0 W ha
  have C2 : ∀ W, Calls Try.prog 14 #[.int .i64 a0] W fun e w' => e = .returned (.tuple #[.agg (vs .u8 V), .int .i64 er]) ∧ Fr (fun _ => False) W w' := fun W => by rw [hV, hE]; exact rnonce_is a0 W ha
  have lV : Hid (V.length = 12) := by show _ = _; rw [hV]; exact noncev_length a0
  have HE : ∀ W, (Op.equalIn 10000 22 (.agg (vs .u8 V)) (.agg (vs .u8 V))).run Try.prog W = .ok true W := fun W => (eq12 V V lV.out lV.out W).trans (by rw [decide_eq_true rfl])
  have sV : Hid ((Try.prog.info? 22).map (·.size) = some (vs .u8 V).size) := by show _ = _; rw [size29, vs_size, lV.out]
  obtain ⟨Z, hZ⟩ : ∃ Z, Z = List.replicate 12 (0 : Int) := ⟨_, rfl⟩
  have hz : ∀ W : World, (zeroValue 22).run Try.prog W = .ok (.agg (vs .u8 Z)) W := fun W => by rw [hZ]; exact zero12 W
  have eZ : Hid ((vs .u8 Z).size = (vs .u8 V).size) := by show _ = _; rw [vs_size, vs_size, hZ, lV.out]; rfl
  clear hV hE hZ ha
  go_enter Try.func3, Try.ntmps3
  go_upto_region 2 with (first
    | (go_at_call 13; refine (C1 _).mono ?_; rintro e w1 ⟨rfl, hf⟩; have F1 := Lib.hid hf; clear hf)
    | refine wpList_store_row rfl 22 (.tmp 3) (.tmp 10) rfl w1.heap.size (vs .u8 V) rfl rfl 22 (vs .u8 Z) (heap_alloc_new w1 _) sV.out eZ.out (vs_all _ _) ?_)
  obtain ⟨q, hq⟩ : ∃ q, q = w1.heap.size := ⟨_, rfl⟩
  have X2 : Hid (Ar ((w1.alloc (.cells (vs .u8 Z) 22)).setRow w1.heap.size (vs .u8 V)) q 22 .u8 V) := by rw [hq]; exact (Ar.new w1 22 .u8 Z).row V
  have F2 : Hid (Fr (fun _ => False) w ((w1.alloc (.cells (vs .u8 Z) 22)).setRow w1.heap.size (vs .u8 V))) := (F1.out.alloc _).setRow _ (.inr F1.out.size)
  rw [← hq] at X2 F2 ⊢
  generalize (w1.alloc (.cells (vs .u8 Z) 22)).setRow q (vs .u8 V) = W2 at *
  clear hq F1
  try simp only [Act.put, List.setIfInBounds_toArray, List.set_cons_succ, List.set_cons_zero]
  go_upto_region 3 with (first
    | (go_at_call 14; refine (C2 _).mono ?_; rintro e w3 ⟨rfl, hf⟩; have F3 := Lib.hid hf; clear hf)
    | refine wpList_store_row rfl 22 (.tmp 5) (.tmp 15) rfl w3.heap.size (vs .u8 V) rfl rfl 22 (vs .u8 Z) (heap_alloc_new w3 _) sV.out eZ.out (vs_all _ _) ?_)
  obtain ⟨q2, hq2⟩ : ∃ q, q = w3.heap.size := ⟨_, rfl⟩
  have FQ : Fr (fun _ => False) w3 ((w3.alloc (.cells (vs .u8 Z) 22)).setRow w3.heap.size (vs .u8 V)) := ((Fr.refl _ _).alloc _).setRow _ (.inr (Nat.le_refl _))
  have Y4 : Hid (Ar ((w3.alloc (.cells (vs .u8 Z) 22)).setRow w3.heap.size (vs .u8 V)) q2 22 .u8 V) := by rw [hq2]; exact (Ar.new w3 22 .u8 Z).row V
  have X4 := Lib.hid (X2.out.fr (F3.out.trans FQ) (fun x => x))
  have F4 := Lib.hid (F2.out.trans (F3.out.trans FQ))
  rw [← hq2] at X4 Y4 F4 ⊢
  generalize (w3.alloc (.cells (vs .u8 Z) 22)).setRow q2 (vs .u8 V) = W4 at *
  clear hq2 X2 F2 F3 FQ
  try simp only [Act.put, List.setIfInBounds_toArray, List.set_cons_succ, List.set_cons_zero]
  go_wp2_with (first
    | refine wpList_load_row rfl 22 (.tmp 3) rfl q rfl 22 (vs .u8 V) (0, 0) _ X4.out Try.underlying22 rfl sV.out ?_
    | refine wpList_load_row rfl 22 (.tmp 5) rfl q2 rfl 22 (vs .u8 V) (0, 0) _ Y4.out Try.underlying22 rfl sV.out ?_)
  go_ret
  exact ⟨rfl, F4.out⟩

set_option maxRecDepth 100000 in
theorem law_nonce_lifted (os : Os) (started : os.Started) (H : Type) (enc : TypeId × Value → H) :
    ReturnsInHanded {} Try.checked os 3 .any (Rows.aeadNonceSpec.pre6 enc Try.prog Try.f3 Rows.aeadNonceRow.domain false) (Rows.aeadNonceSpec.post enc Try.prog Try.f3 false true false false) := by
  refine returnsInHanded_of_change (C := Try.checked) own started (by kernel_rfl) Try.func3
    (ChangeSpec.witness6 (enc := enc) (C := Try.checked) false ⟨#[], #[.int .i64 0], []⟩ 8 (by kernel_rfl) (by kernel_rfl) (by kernel_rfl) (by kernel_rfl)) ?_
  intro W base args ds gs before hval0 hW hcnd _
  have hval : ∀ (j : Nat) t v, Try.f3.params[j]? = some t → args[j]? = some v → Value.okWide Try.prog W .any base t v := hval0
  have hW' := hW
  obtain ⟨p, q, hA0, hV, rfl, hfz, hnd⟩ := hW
  have hA : DataW.TrodAll enc Try.prog W 0 (fun _ => true) true Try.f3.params.toList args.toList ds p := hA0
  rw [Try.params3] at hA hval
  obtain ⟨v0, vs0, d0, ds0, p0, q0, hargs, rfl, rfl, h0, r0⟩ := trodAll_cons hA
  obtain ⟨rfl, rfl, rfl⟩ := trodAll_nil r0
  obtain rfl : args = #[v0] := by cases args; simp_all
  obtain ⟨rfl, rfl⟩ := trodVars_none hV
  obtain ⟨a0, rfl, rfl, rfl, w0⟩ := open_int Try.underlying3 (hval 0 3 v0 rfl rfl) h0
  clear hA0 hval0
  refine (law_nonce_any a0 W (wf_i64 w0)).mono fun e W' ⟨he, hg⟩ => ?_
  subst he
  exact ⟨_, rfl, post_true rfl hW' (by kernel_rfl) rfl rfl hg⟩

theorem aeadNonce_holds : Rows.AeadNonceSaid :=
  OpenClaim.holds_of_wide 3 Try.f3 rfl rfl rfl rfl rfl rfl rfl ⟨rfl, rfl, rfl, rfl, rfl⟩ rfl rfl rfl rfl rfl (by kernel_rfl) Try.func3 (by kernel_rfl)
    (of_decide_eq_true (by kernel_rfl)) (by unfold Func.isWrapper; first | (rw [if_pos (by decide +kernel)]; kernel_rfl) | (rw [if_neg (by decide +kernel)]; exact ⟨rfl, rfl⟩))
    (fun os started H enc _ => law_nonce_lifted os started H enc)
#print axioms aeadNonce_holds
end Go.Proofs.Ytbafppdmlhogbaa
