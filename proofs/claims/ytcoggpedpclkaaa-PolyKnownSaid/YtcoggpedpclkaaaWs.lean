/- The laws' helpers works, tail, less; tags compared: contracts. Conditions: bytes, their numbers. -/
import Derived.Test.YtcoggpedpclkaaaTg
import Derived.Test.YtcoggpedpclkaaaRr
import Derived.Great.BuildSlice
import Derived.Lib.SlBytesConst
namespace Go.Proofs.Ytcoggpedpclkaaa
set_option linter.unusedSimpArgs false
set_option linter.unusedVariables false
open Go.RowKit

theorem eq26 (l m : List Int) (hl : l.length = 16) (hm : m.length = 16) (W : World) : (Op.equalIn 10000 26 (.agg (vs .u8 l)) (.agg (vs .u8 m))).run Try.prog W = .ok (decide (l = m)) W :=
  run_equalIn_ints (P := Try.prog) 9998 Try.underlying26 (i := (Try.prog.info? 5).get (by kernel_rfl)) (by kernel_rfl) Try.underlying5 (by kernel_rfl) (by kernel_rfl) l m hl hm W
theorem wpList_bytesConst {ops : Array Oper} {rest : List Oper} {o : Oper} {a : Act} {w : World} {Q : Exit → Act → World → Prop} (hg : o.guard = none) (x : Operand) (ho : o.op = .convert 24 24 x) (n c : Nat) (hx : a.eval x = .slice (some ⟨w.heap.size, 0, none⟩) n c) (C : Array Value)
    (h : wpList Try.prog ops Q rest (a.put o.dst (.slice (some ⟨w.heap.size, 0, none⟩) n c)) (w.alloc (.cells C 5 (C.size, C.size + 1)))) : wpList Try.prog ops Q (o :: rest) a (w.alloc (.cells C 5)) := by
  refine wpList_plain hg fun K hK => wp_value (.slice (some ⟨w.heap.size, 0, none⟩) n c) _ ?_ (hK _ _ h)
  unfold execOp
  simp only [ho, hx, Sem.run_bind, Lib.run_convert_bytes_const w 24 5 C n c Try.underlying24 Try.underlying5, Result.andThen_ok, Sem.run_pure]
def wkey : List Int := [133, 214, 190, 120, 87, 85, 109, 51, 127, 68, 82, 254, 66, 213, 6, 168, 1, 3, 128, 138, 251, 13, 178, 253, 74, 191, 246, 175, 65, 73, 245, 27]
def wtext : List Int := [67, 114, 121, 112, 116, 111, 103, 114, 97, 112, 104, 105, 99, 32, 70, 111, 114, 117, 109, 32, 82, 101, 115, 101, 97, 114, 99, 104, 32, 71, 114, 111, 117, 112]
def wtag : List Int := [168, 6, 29, 193, 48, 81, 54, 198, 194, 43, 139, 175, 12, 1, 39, 169]
theorem wtag_is : tag wkey wtext = wtag := by decide +kernel
theorem bys_of (l : List Int) (h : (l.all fun b => decide (0 ≤ b) && decide (b ≤ 255)) = true) : Bys l := by
  intro b hb
  have := List.all_eq_true.1 h b hb
  simpa using this
theorem wkey_bys : Bys wkey := bys_of _ (by decide +kernel)
theorem wtext_bys : Bys wtext := bys_of _ (by decide +kernel)
set_option maxRecDepth 100000 in
set_option maxHeartbeats 8000000 in
theorem works_is (w : World) : Calls Try.prog 18 #[] w fun e w' => e = .returned (.bool true) ∧ Fr (fun _ => False) w w' := by
  obtain ⟨K, hK⟩ : ∃ K, K = vs .u8 wkey := ⟨_, rfl⟩
  obtain ⟨G, hG⟩ : ∃ G, G = vs .u8 wtag := ⟨_, rfl⟩
  have HE : ∀ W, (Op.equalIn 10000 26 (.agg G) (.agg G)).run Try.prog W = .ok true W := fun W => by rw [hG]; exact (eq26 wtag wtag rfl rfl W).trans (by rw [decide_eq_true rfl])
  have sK : Hid ((Try.prog.info? 23).map (·.size) = some K.size) := by show _ = _; rw [hK, info23]; rfl
  have HK := Lib.hid hK
  have HG := Lib.hid hG
  clear hK hG
  go_enter Try.func18, Try.ntmps18
  go_upto_region 1 with (fail)
  refine wp_region_list ?_
  refine wpList_buildFlatArr rfl 23 5 32 _ rfl .u8 wkey Try.underlying23 size5 (by kernel_rfl) (by kernel_rfl) ?_
  show wpList _ _ _ _ (Act.put _ _ (.agg (vs .u8 wkey))) _
  rw [← HK.out]
  refine wpList_plain rfl fun _ hK1 => wp_alloc_any 23 rfl (vs .u8 (List.replicate 32 0)) (fun _ => by kernel_rfl) (hK1 _ _ ?_)
  refine wpList_store_row rfl 23 (.tmp 1) (.tmp 2) rfl w.heap.size K rfl rfl 23 (vs .u8 (List.replicate 32 0)) (heap_alloc_new w _) sK.out (by rw [HK.out]; rfl) (by rw [HK.out]; exact vs_all _ _) ?_
  have X0 : Hid (((w.alloc (.cells (vs .u8 (List.replicate 32 0)) 23)).setRow w.heap.size K).heap[w.heap.size]? = some (.cells K 23 (0, 0))) := setRow_heap _ _ _ _ _ _ (heap_alloc_new w _)
  have F0 : Hid (Fr (fun _ => False) w ((w.alloc (.cells (vs .u8 (List.replicate 32 0)) 23)).setRow w.heap.size K)) := ((Fr.refl _ _).alloc _).setRow _ (.inr (Nat.le_refl _))
  generalize (w.alloc (.cells (vs .u8 (List.replicate 32 0)) 23)).setRow w.heap.size K = W0 at *
  try simp only [Act.put, List.setIfInBounds_toArray, List.set_cons_succ, List.set_cons_zero]
  go_upto_region 2 with (fail)
  refine wp_region_list ?_
  refine wpList_load_row rfl 23 (.tmp 1) rfl (w.heap.size) rfl 23 K (0, 0) _ X0.out Try.underlying23 rfl sK.out ?_
  refine wpList_buildFlat rfl 24 5 34 _ rfl .u8 wtext Try.underlying24 size5 (by kernel_rfl) rfl (by decide) (by decide) (by kernel_rfl) ?_
  change wpList _ _ _ _ _ (W0.alloc (.cells (vs .u8 wtext) 5))
  refine wpList_bytesConst rfl (.tmp 4) rfl 34 34 rfl (vs .u8 wtext) ?_
  obtain ⟨fz, hfz⟩ : ∃ f, f = ((vs .u8 wtext).size, (vs .u8 wtext).size + 1) := ⟨_, rfl⟩
  rw [← hfz]
  have S1 : Hid (Sl (W0.alloc (.cells (vs .u8 wtext) 5 fz)) W0.heap.size (.slice (some ⟨W0.heap.size, 0, none⟩) 34 34) wtext) := Sl.block wtext_bys (heap_alloc_new W0 _) (fun j _ => by rw [vs_bs]; simp) (by decide) (by decide)
  have hlt : W0.heap.size < (W0.alloc (.cells (vs .u8 wtext) 5 fz)).heap.size := by simp
  have F1 : Hid (Fr (fun _ => False) w (W0.alloc (.cells (vs .u8 wtext) 5 fz))) := F0.out.alloc _
  generalize W0.alloc (.cells (vs .u8 wtext) 5 fz) = W1 at *
  have CT := tag_is wkey W0.heap.size (some ⟨W0.heap.size, 0, none⟩) 34 34 wtext W1 rfl wkey_bys S1.out (fun _ => hlt)
  rw [wtag_is, ← HK.out, ← HG.out] at CT
  clear S1 X0 F0 hlt
  obtain ⟨q, hq⟩ : ∃ q, q = W0.heap.size := ⟨_, rfl⟩
  rw [← hq] at CT ⊢
  try simp only [Act.put, List.setIfInBounds_toArray, List.set_cons_succ, List.set_cons_zero]
  have HG2 : Unit → G = vs .u8 wtag := fun _ => HG.out
  clear HG HK hfz sK
  refine wpList_plain rfl fun _ hK1 => wp_enter 15 #[.agg K, .slice (some ⟨q, 0, none⟩) 34 34] (by kernel_rfl) (CT.mono ?_)
  rintro e w9 ⟨rfl, hf⟩
  refine hK1 _ _ ?_
  refine wpList_buildFlatArr rfl 26 5 16 _ rfl .u8 wtag Try.underlying26 size5 (by kernel_rfl) (by kernel_rfl) ?_
  have HG3 : (wtag.map (Value.int .u8)).toArray = G := (HG2 ()).symm
  rw [HG3]
  clear CT HG2 HG3 hq
  try simp only [Act.put, List.setIfInBounds_toArray, List.set_cons_succ, List.set_cons_zero]
  go_wp2
  go_ret
  exact ⟨rfl, F1.out.trans hf⟩
end Go.Proofs.Ytcoggpedpclkaaa
