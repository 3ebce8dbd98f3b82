/- AeadOpens answers true for all keys, nonces, ads and boxes, and its arguments read behind the call as they did: the given statement AeadOpensSaid. No condition. -/
import Derived.Test.YtbafppdmlhogbaaAw
namespace Go.Proofs.Ytbafppdmlhogbaa
set_option linter.unusedSimpArgs false
set_option linter.unusedVariables false
open Go.ChangeShapes Go.WideShapes Go.ChangeAt Go.RowKit


set_option maxRecDepth 100000 in
set_option maxHeartbeats 16000000 in
theorem law_opens_any (k0 n0 : List Int) (A0 : Option Addr) (m0 s0 g0 : Nat) (l0 : List Int) (B0 : Option Addr) (p0 r0 q0 : Nat) (t0 : List Int) (w : World) (lk0 : k0.length = 32) (bk0 : Bys k0) (ln0 : n0.length = 12) (bn0 : Bys n0) (hs0 : Sl w g0 (.slice A0 m0 s0) l0) (ht0 : Sl w q0 (.slice B0 p0 r0) t0) (hm0 : m0 ≤ 140737488351232) (hp0 : p0 ≤ 140737488351232) :
    Calls Try.prog 5 #[.agg (ainn k0 n0 (.slice A0 m0 s0) (.slice B0 p0 r0))] w fun e w' => e = .returned (.bool true) ∧ Fr (fun _ => False) w w' := by
  obtain ⟨V, hV⟩ : ∃ V, V = (openv k0 n0 l0 t0).1 := ⟨_, rfl⟩
  obtain ⟨er, hE⟩ : ∃ x, x = (openv k0 n0 l0 t0).2 := ⟨_, rfl⟩
  have CS : ∀ W g2 A2 m2 c2 g3 A3 m3 c3, Sl W g2 (.slice A2 m2 c2) l0 → Sl W g3 (.slice A3 m3 c3) t0 → Calls Try.prog 19 #[.agg (vs .u8 k0), .agg (vs .u8 n0), .slice A2 m2 c2, .slice A3 m3 c3] W fun e w' => ∃ v, e = .returned (.tuple #[v, .int .i64 er]) ∧ Nw W w' v V ∧ Fr (fun _ => False) W w' := fun W g2 A2 m2 c2 g3 A3 m3 c3 h2 h3 => by
    have h := open_is k0 n0 g2 A2 m2 c2 l0 g3 A3 m3 c3 t0 W lk0 bk0 ln0 bn0 h2 h3
    rw [← hV, ← hE] at h
    exact h
  have CR : ∀ W g2 A2 m2 c2 g3 A3 m3 c3, Sl W g2 (.slice A2 m2 c2) l0 → Sl W g3 (.slice A3 m3 c3) t0 → Calls Try.prog 20 #[.agg (vs .u8 k0), .agg (vs .u8 n0), .slice A2 m2 c2, .slice A3 m3 c3] W fun e w' => ∃ v, e = .returned (.tuple #[v, .int .i64 er]) ∧ Nw W w' v V ∧ Fr (fun _ => False) W w' := fun W g2 A2 m2 c2 g3 A3 m3 c3 h2 h3 => by
    have h := ropen_is k0 n0 g2 A2 m2 c2 l0 g3 A3 m3 c3 t0 W lk0 bk0 ln0 bn0 h2 h3
    rw [← hV, ← hE] at h
    exact h
  have HS := Lib.hid hs0
  have HT := Lib.hid ht0
  have LK := Lib.hid lk0
  have LN := Lib.hid ln0
  have sK := Lib.hid (key_sz lk0)
  have sN := Lib.hid (nonce_sz ln0)
  have HM : Hid (m0 ≤ 140737488355328 ∧ p0 ≤ 140737488355328) := by show _ ∧ _; omega
  clear hV hE hs0 ht0 lk0 ln0 bk0 bn0 hm0 hp0
  go_enter Try.func5, Try.ntmps5
  go_upto_region 1 with (fail)
  have X0 : Hid ((w.alloc (.cells (ainn k0 n0 (.slice A0 m0 s0) (.slice B0 p0 r0)) 31)).heap[w.heap.size]? = some (.cells (ainn k0 n0 (.slice A0 m0 s0) (.slice B0 p0 r0)) 31 (0, 0))) := heap_alloc_new w _
  have F0 : Hid (Fr (fun _ => False) w (w.alloc (.cells (ainn k0 n0 (.slice A0 m0 s0) (.slice B0 p0 r0)) 31))) := (Fr.refl _ _).alloc _
  generalize w.alloc (.cells (ainn k0 n0 (.slice A0 m0 s0) (.slice B0 p0 r0)) 31) = W0 at *
  refine wp_region_inv2 (fun b a w' => ∃ vx vy : Value, Fr (fun _ => False) W0 w' ∧ (b 2 = true → Nw W0 w' vx l0) ∧ (b 5 = true → Nw W0 w' vy t0) ∧ a = ⟨#[Value.agg (ainn k0 n0 (Value.slice A0 m0 s0) (Value.slice B0 p0 r0)), Value.pointer (some { block := w.heap.size, off := 0 }), Value.bool false, if b 6 = true then vx else undef, if b 7 = true then vy else undef, undef, undef, undef, undef, undef, if b 0 = true then .pointer (some ⟨w.heap.size, 44, none⟩) else undef, if b 1 = true then .slice A0 m0 s0 else undef, if b 2 = true then vx else undef, if b 3 = true then .pointer (some ⟨w.heap.size, 45, none⟩) else undef, if b 4 = true then .slice B0 p0 r0 else undef, if b 5 = true then vy else undef, undef, undef, undef, undef, undef, undef, undef, undef, undef, undef, undef, undef, undef, undef, undef, undef, undef, undef, undef, undef, undef, undef, undef, undef, undef, undef, undef, undef, undef, undef, undef, undef, undef, undef, undef, undef, undef, undef, undef, undef, undef, undef, undef, undef, undef, undef, undef, undef, undef, undef, undef, undef, undef, undef, undef], []⟩) (by kernel_rfl) (by kernel_rfl) ?start1 ?step1 ?done1
  case start1 => exact ⟨undef, undef, ⟨rfl, rfl, rfl, Nat.le_refl _, fun _ _ _ => rfl⟩, fun h => by simp at h, fun h => by simp at h, by simp⟩
  case step1 =>
    intro i5 o5 b a w1 ho hI hb hr hcl
    obtain ⟨vx, vy, hF, h2, h5, rfl⟩ := hI
    match i5, ho with
    | 0, ho =>
      injection ho with ho
      subst ho
      refine wp_quiet_here (.pointer (some ⟨w.heap.size, 44, none⟩)) ?_ (fun w2 hw2 => ?_)
      · simp only [Bool.false_eq_true] 
        go_big_quiet_op
        first
          | (simp [Act.put]; done)
          | exact ⟨_, fun _ _ => rfl, by simp [Act.put] <;> assumption⟩
      refine ⟨vx, vy, hF.trans hw2, ?_, ?_, ?_⟩
      · intro hx
        have hy := h2 (by simpa [upd] using hx)
        exact hy.fr hw2 (fun _ x => x)
      · intro hx
        have hy := h5 (by simpa [upd] using hx)
        exact hy.fr hw2 (fun _ x => x)
      · simp [upd, Act.put]
    | 1, ho =>
      injection ho with ho
      subst ho
      simp [Region.binds] at hr
      have d0 : b 0 = true := by simp only [hr]
      simp only [hr, if_true]
      refine wp_quiet_here (.slice A0 m0 s0) (quiet_sl (.tmp 10) rfl (w.heap.size) 44 rfl A0 m0 s0 (fun _ h => ainn_ad LK.out LN.out (Calm.at (Calm.at X0.out hF) h)) rfl) (fun w2 hw2 => ?_)
      refine ⟨vx, vy, hF.trans hw2, ?_, ?_, ?_⟩
      · intro hx
        have hy := h2 (by simpa [upd] using hx)
        exact hy.fr hw2 (fun _ x => x)
      · intro hx
        have hy := h5 (by simpa [upd] using hx)
        exact hy.fr hw2 (fun _ x => x)
      · simp [upd, Act.put, hr]
    | 2, ho =>
      injection ho with ho
      subst ho
      simp [Region.binds] at hr
      have d1 : b 1 = true := by simp only [hr]
      simp only [hr, if_true]
      have n6 : b 6 = false := by
        rcases hbs : b 6 with _ | _
        · rfl
        · rw [chain hcl 6 2 rfl hbs (by simp [Region.binds])] at hb
          cases hb
      refine wp_enter 15 #[.slice A0 m0 s0] (by kernel_rfl) ((copy_new W0 _ (HS.out.fr (F0.out.trans hF) (fun _ x => x)) HM.out.1 hF).mono ?_)
      rintro e w2 ⟨gN, rfl, hfact, hfN⟩
      refine ⟨gN, vy, hF.trans hfN, ?_, ?_, ?_⟩
      · exact fun _ => hfact
      · intro hx
        have hy := h5 (by simpa [upd] using hx)
        exact hy.fr hfN (fun _ x => x)
      · simp [upd, Act.put, hr, n6]
    | 3, ho =>
      injection ho with ho
      subst ho
      refine wp_quiet_here (.pointer (some ⟨w.heap.size, 45, none⟩)) ?_ (fun w2 hw2 => ?_)
      · simp only [Bool.false_eq_true] 
        go_big_quiet_op
        first
          | (simp [Act.put]; done)
          | exact ⟨_, fun _ _ => rfl, by simp [Act.put] <;> assumption⟩
      refine ⟨vx, vy, hF.trans hw2, ?_, ?_, ?_⟩
      · intro hx
        have hy := h2 (by simpa [upd] using hx)
        exact hy.fr hw2 (fun _ x => x)
      · intro hx
        have hy := h5 (by simpa [upd] using hx)
        exact hy.fr hw2 (fun _ x => x)
      · simp [upd, Act.put]
    | 4, ho =>
      injection ho with ho
      subst ho
      simp [Region.binds] at hr
      have d3 : b 3 = true := by simp only [hr]
      simp only [hr, if_true]
      refine wp_quiet_here (.slice B0 p0 r0) (quiet_sl (.tmp 13) rfl (w.heap.size) 45 rfl B0 p0 r0 (fun _ h => ainn_b LK.out LN.out (Calm.at (Calm.at X0.out hF) h)) rfl) (fun w2 hw2 => ?_)
      refine ⟨vx, vy, hF.trans hw2, ?_, ?_, ?_⟩
      · intro hx
        have hy := h2 (by simpa [upd] using hx)
        exact hy.fr hw2 (fun _ x => x)
      · intro hx
        have hy := h5 (by simpa [upd] using hx)
        exact hy.fr hw2 (fun _ x => x)
      · simp [upd, Act.put, hr]
    | 5, ho =>
      injection ho with ho
      subst ho
      simp [Region.binds] at hr
      have d2 : b 2 = true := by simp only [hr]
      have d4 : b 4 = true := by simp only [hr]
      simp only [hr, if_true]
      have n7 : b 7 = false := by
        rcases hbs : b 7 with _ | _
        · rfl
        · rw [chain hcl 7 5 rfl hbs (by simp [Region.binds])] at hb
          cases hb
      refine wp_enter 15 #[.slice B0 p0 r0] (by kernel_rfl) ((copy_new W0 _ (HT.out.fr (F0.out.trans hF) (fun _ x => x)) HM.out.2 hF).mono ?_)
      rintro e w2 ⟨gN, rfl, hfact, hfN⟩
      refine ⟨vx, gN, hF.trans hfN, ?_, ?_, ?_⟩
      · intro hx
        have hy := h2 (by simpa [upd] using hx)
        exact hy.fr hfN (fun _ x => x)
      · exact fun _ => hfact
      · simp [upd, Act.put, hr, n7]
    | 6, ho =>
      injection ho with ho
      subst ho
      simp [Region.binds] at hr
      have d0 : b 0 = true := by simp only [hr]
      have d1 : b 1 = true := by simp only [hr]
      have d2 : b 2 = true := by simp only [hr]
      have d5 : b 5 = true := by simp only [hr]
      simp only [hr, if_true]
      refine wp_quiet_here (vx) (BigFrame.quiet_assign _ rfl rfl) (fun w2 hw2 => ?_)
      refine ⟨vx, vy, hF.trans hw2, ?_, ?_, ?_⟩
      · intro hx
        have hy := h2 (by simpa [upd] using hx)
        exact hy.fr hw2 (fun _ x => x)
      · intro hx
        have hy := h5 (by simpa [upd] using hx)
        exact hy.fr hw2 (fun _ x => x)
      · simp [upd, Act.put, hr]
    | 7, ho =>
      injection ho with ho
      subst ho
      simp [Region.binds] at hr
      have d0 : b 0 = true := by simp only [hr]
      have d1 : b 1 = true := by simp only [hr]
      have d2 : b 2 = true := by simp only [hr]
      have d3 : b 3 = true := by simp only [hr]
      have d4 : b 4 = true := by simp only [hr]
      have d5 : b 5 = true := by simp only [hr]
      have d6 : b 6 = true := by simp only [hr]
      simp only [hr, if_true]
      refine wp_quiet_here (vy) (BigFrame.quiet_assign _ rfl rfl) (fun w2 hw2 => ?_)
      refine ⟨vx, vy, hF.trans hw2, ?_, ?_, ?_⟩
      · intro hx
        have hy := h2 (by simpa [upd] using hx)
        exact hy.fr hw2 (fun _ x => x)
      · intro hx
        have hy := h5 (by simpa [upd] using hx)
        exact hy.fr hw2 (fun _ x => x)
      · simp [upd, Act.put, hr]
    | j + 8, ho => exact absurd ho (by simp)
  intro b a w9 hall hI
  obtain ⟨vx, vy, hF, h2, h5, rfl⟩ := hI
  have t0 : b 0 = true := hall 0 (by simp)
  have t1 : b 1 = true := hall 1 (by simp)
  have t2 : b 2 = true := hall 2 (by simp)
  have t3 : b 3 = true := hall 3 (by simp)
  have t4 : b 4 = true := hall 4 (by simp)
  have t5 : b 5 = true := hall 5 (by simp)
  have t6 : b 6 = true := hall 6 (by simp)
  have t7 : b 7 = true := hall 7 (by simp)
  simp only [t0, t1, t2, t3, t4, t5, t6, t7, if_true]
  have Pvx := Lib.hid (h2 t2)
  have Pvy := Lib.hid (h5 t5)
  have F9 : Hid (Fr (fun _ => False) w w9) := F0.out.trans hF
  have G9 := Lib.hid hF
  clear hall hF h2 h5 t0 t1 t2 t3 t4 t5 t6 t7
  replace X0 := Lib.hid (Calm.at X0.out G9.out)
  obtain ⟨Ax, nx, cx, rfl, hnx⟩ := Pvx.out.1.shape
  obtain ⟨Ay, ny, cy, rfl, hny⟩ := Pvy.out.1.shape
  have LX : Hid (∀ k, (Value.slice Ax nx cx).ownBlock = some k → k < w9.heap.size) := Pvx.out.1.lt
  have LY : Hid (∀ k, (Value.slice Ay ny cy).ownBlock = some k → k < w9.heap.size) := Pvy.out.1.lt
  have LQ : Hid (w.heap.size < w9.heap.size) := heap_lt X0.out
  clear hnx hny G9 F0
  have cA := ainn_ad LK.out LN.out X0.out
  have cB := ainn_b LK.out LN.out X0.out
  try simp only [Act.put, List.setIfInBounds_toArray, List.set_cons_succ, List.set_cons_zero]
  go_upto_region 3 with (first
    | refine wpList_mid rfl 28 (.tmp 17) rfl (w.heap.size) 0 rfl .u8 k0 _ (ainn_key LK.out X0.out) Try.underlying28 rfl sK.out ?_
    | refine wpList_mid rfl 22 (.tmp 19) rfl (w.heap.size) 32 rfl .u8 n0 _ (ainn_nonce LK.out X0.out) Try.underlying22 rfl sN.out ?_
    | (go_at_call 19; refine (CS _ _ _ _ _ _ _ _ _ (Pvx.out.1.sl) (Pvy.out.1.sl)).mono ?_; rintro e w2 ⟨v2, rfl, hn2, hf⟩; have N_v2 := Lib.hid hn2; have G_w2 := Lib.hid hf; clear hn2 hf))
  have Z2 : Hid (w9.heap.size ≤ w2.heap.size) := G_w2.out.size
  replace X0 := Lib.hid (Calm.at X0.out G_w2.out)
  have F2 := Lib.hid (F9.out.trans G_w2.out)
  clear cA cB
  have cA := ainn_ad LK.out LN.out X0.out
  have cB := ainn_b LK.out LN.out X0.out
  replace Pvx := Lib.hid (Pvx.out.fr G_w2.out (fun _ x => x))
  replace Pvy := Lib.hid (Pvy.out.fr G_w2.out (fun _ x => x))
  clear G_w2 F9
  go_upto_region 4 with (first
    | refine wpList_mid rfl 28 (.tmp 27) rfl (w.heap.size) 0 rfl .u8 k0 _ (ainn_key LK.out X0.out) Try.underlying28 rfl sK.out ?_
    | refine wpList_mid rfl 22 (.tmp 29) rfl (w.heap.size) 32 rfl .u8 n0 _ (ainn_nonce LK.out X0.out) Try.underlying22 rfl sN.out ?_
    | (go_at_call 20; refine (CR _ _ _ _ _ _ _ _ _ (HS.out.fr F2.out (fun _ x => x)) (HT.out.fr F2.out (fun _ x => x))).mono ?_; rintro e w3 ⟨v3, rfl, hn2, hf⟩; have N_v3 := Lib.hid hn2; have G_w3 := Lib.hid hf; clear hn2 hf))
  have Z3 : Hid (w9.heap.size ≤ w3.heap.size) := Nat.le_trans Z2.out G_w3.out.size
  replace X0 := Lib.hid (Calm.at X0.out G_w3.out)
  have F3 := Lib.hid (F2.out.trans G_w3.out)
  clear cA cB
  have cA := ainn_ad LK.out LN.out X0.out
  have cB := ainn_b LK.out LN.out X0.out
  replace Pvx := Lib.hid (Pvx.out.fr G_w3.out (fun _ x => x))
  replace Pvy := Lib.hid (Pvy.out.fr G_w3.out (fun _ x => x))
  replace N_v2 := Lib.hid (N_v2.out.fr G_w3.out (fun _ x => x))
  clear G_w3 F2
  obtain ⟨Aa, na, ca, rfl, hna⟩ := N_v2.out.1.shape
  obtain ⟨Ab, nb, cb, rfl, hnb⟩ := N_v3.out.1.shape
  have SV2 := Lib.hid N_v2.out.1.sl
  have SV3 := Lib.hid N_v3.out.1.sl
  have HN : Hid (na ≤ 9223372036854775807) := by
    obtain ⟨_, A', c', e, h1, h2, _⟩ := SV2.out
    injection e with _ e2 e3
    have : maxLen = 9223372036854775807 := rfl
    show _ ≤ _
    omega
  clear hna hnb CS CR N_v3
  have tk1 : True := trivial
  go_upto_region 7 with (go_at_call 18; refine (eq_yes _ SV2.out SV3.out rfl).mono ?_; rintro e w4 ⟨rfl, hf⟩; have G_w4 := Lib.hid hf; clear hf)
  have Z4 : Hid (w9.heap.size ≤ w4.heap.size) := Nat.le_trans Z3.out G_w4.out.size
  replace X0 := Lib.hid (Calm.at X0.out G_w4.out)
  have F4 := Lib.hid (F3.out.trans G_w4.out)
  clear cA cB
  have cA := ainn_ad LK.out LN.out X0.out
  have cB := ainn_b LK.out LN.out X0.out
  replace Pvx := Lib.hid (Pvx.out.fr G_w4.out (fun _ x => x))
  replace Pvy := Lib.hid (Pvy.out.fr G_w4.out (fun _ x => x))
  replace N_v2 := Lib.hid (N_v2.out.fr G_w4.out (fun _ x => x))
  clear G_w4 F3
  clear SV2 SV3
  have F24 : Hid (w9.heap.size ≤ w4.heap.size) := Z4
  obtain ⟨ga, hga, hcl, _, _⟩ := Ow.cells N_v2.out.1 w9.heap.size N_v2.out.2 F24.out
  have C0 : Hid (Cl w4 ga Aa 0 na V) := fun h0 => by
    obtain ⟨h1, h2, h3⟩ := hcl h0
    exact ⟨h1, h2, fun i _ hi => h3 i hi⟩
  have HGA := Lib.hid hga
  have HV : Hid (Bys V) := N_v2.out.1.2
  clear hcl hga N_v2 cA cB
  go_loopw [9] (fun u9 wr => ∃ i : Nat, u9 = .int .i64 i ∧ i ≤ na ∧ Hid (Cl wr ga Aa i na V) ∧ Hid (Fr (fun k => k = ga) w4 wr)) (fun u9 _ => na - (intOf u9).toNat)
  case atStart => exact ⟨0, rfl, by omega, C0, Fr.refl _ _⟩
  case round =>
  clear C0
  obtain ⟨i, rfl, hi, hC, hG⟩ := hrel
  by_cases hil : i < na
  · obtain ⟨h1, rfl, h3⟩ := hC.out (by omega)
    have c1 := (h3 i (Nat.le_refl _) hil).1
    have f1 := (h3 i (Nat.le_refl _) hil).2
    obtain ⟨x, hx⟩ : ∃ x, x = V.getD i 0 := ⟨_, rfl⟩
    rw [← hx] at c1
    obtain ⟨y, hy⟩ : ∃ y, bits .xor .u8 x 90 = y := ⟨_, rfl⟩
    have j1 : ((i : Int)).toNat = i := by omega
    have j2 : 0 ≤ (i : Int) := by omega
    have j3 : (i : Int) < na := by omega
    have j9 : IntKind.i64.wrap ((i : Int) + 1) = ((i + 1 : Nat) : Int) := by have := HN.out; rw [IntKind.wrap_i64]; omega
    have C2 := Lib.hid (hC.out.set (.int .u8 y))
    clear h3 hx hC h1
    go_wp2
    go_roundw
    case rel => exact ⟨i + 1, by first | rfl | go_num, by omega, C2, hG.out.setCell _ (.inl rfl)⟩
    case measure => simp [intOf]; omega
  obtain rfl : i = na := by omega
  have XW : Hid (wr.heap[w.heap.size]? = some (.cells (ainn k0 n0 (.slice A0 m0 s0) (.slice B0 p0 r0)) 31 (0, 0))) := (hG.out.block _ (heap_lt X0.out) (by have := LQ.out; have := HGA.out; show ¬ _; omega)).trans X0.out
  have FW : Hid (Fr (fun _ => False) w wr) := F4.out.trans' hG.out (fun k hk e => by have := LQ.out; have := HGA.out; subst e; omega)
  have SX := Lib.hid (Pvx.out.1.keep hG.out (fun k hk e => by have := LX.out k hk; have := HGA.out; omega)).sl
  have SY := Lib.hid (Pvy.out.1.keep hG.out (fun k hk e => by have := LY.out k hk; have := HGA.out; omega)).sl
  have cA := ainn_ad LK.out LN.out XW.out
  clear Pvx Pvy X0 F4 hG hC
  go_wp2_with (first
    | (go_at_call 18; clear tk1; refine (eq_yes _ SX.out (HS.out.fr FW.out (fun _ x => x)) rfl).mono ?_; rintro e w5 ⟨rfl, hf⟩; have G5 := Lib.hid hf; have F5 := Lib.hid (FW.out.trans hf); clear hf cA; have cA := ainn_b LK.out LN.out (Calm.at XW.out G5.out))
    | (go_at_call 18; refine (eq_yes _ (SY.out.fr G5.out (fun _ x => x)) (HT.out.fr F5.out (fun _ x => x)) rfl).mono ?_; rintro e w6 ⟨rfl, hf⟩; have F6 := Lib.hid (F5.out.trans hf); clear hf cA))
  go_ret
  exact ⟨rfl, F6.out⟩

set_option maxRecDepth 100000 in
theorem law_opens_lifted (os : Os) (started : os.Started) (H : Type) (enc : TypeId × Value → H) :
    ReturnsInHanded {} Try.checked os 5 .any (Rows.aeadOpensSpec.pre6 enc Try.prog Try.f5 Rows.aeadOpensRow.domain false) (Rows.aeadOpensSpec.post enc Try.prog Try.f5 false true false false) := by
  refine returnsInHanded_of_change_sized (C := Try.checked) own started (by kernel_rfl) Try.func5
    (ChangeSpec.witness6 (enc := enc) (C := Try.checked) false ⟨#[], #[.agg (ainn (List.replicate 32 0) (List.replicate 12 0) (.slice none 0 0) (.slice none 0 0))], []⟩ 8 (by kernel_rfl) (by kernel_rfl) (by kernel_rfl) (by kernel_rfl)) ?_
  intro W base args ds gs before hval0 hW hcnd hsz0 _
  have hsz : (DataW.weightsEach Try.prog (Try.f5.params.toList ++ Rows.aeadOpensSpec.plain.varTypes Try.prog) (ds ++ gs)).all (· ≤ reachBytes) = true := hsz0
  clear hsz0
  have hval : ∀ (j : Nat) t v, Try.f5.params[j]? = some t → args[j]? = some v → Value.okWide Try.prog W .any base t v := hval0
  have hW' := hW
  obtain ⟨p, q, hA0, hV, rfl, hfz, hnd⟩ := hW
  have hA : DataW.TrodAll enc Try.prog W 0 (fun _ => true) true Try.f5.params.toList args.toList ds p := hA0
  rw [Try.params5] at hA hval hsz
  obtain ⟨v0, vs0, d0, ds0, p0, q0, hargs, rfl, rfl, h0, r0⟩ := trodAll_cons hA
  obtain ⟨rfl, rfl, rfl⟩ := trodAll_nil r0
  obtain rfl : args = #[v0] := by cases args; simp_all
  obtain ⟨rfl, rfl⟩ := trodVars_none hV
  have hlt0 : ∀ x ∈ p0, x.block < W.heap.size := fun x hx => hW'.lt x (by simp [hx])
  obtain ⟨k0, n0, A0, m0, s0, g0, l0, B0, pz0, rz0, qz0, t0, x0, x1, x2, x3, rfl, rfl, lk0, bk0, ln0, bn0, hs0, ht0, y2, y3⟩ := open_in (hval 0 31 v0 rfl rfl) h0 hlt0
  have hm0 : m0 ≤ 140737488351232 := by
    rcases y2 with e | ⟨el, sp, rfl, hle⟩
    · omega
    · obtain ⟨f0, f1, f2, f3, hu, t0, o0, t1, o1, t2, o2, t3, o3⟩ := under_in
      have := sized_field hsz (j := 0) (m := 2) (s := 29) (e := 5) rfl rfl hu (by simp [t0, t1, t2, t3]) rfl Try.underlying29
      rw [Try.bytes5] at this
      simp only [reachBytes] at this
      omega
  have hpz0 : pz0 ≤ 140737488351232 := by
    rcases y3 with e | ⟨el, sp, rfl, hle⟩
    · omega
    · obtain ⟨f0, f1, f2, f3, hu, t0, o0, t1, o1, t2, o2, t3, o3⟩ := under_in
      have := sized_field hsz (j := 0) (m := 3) (s := 29) (e := 5) rfl rfl hu (by simp [t0, t1, t2, t3]) rfl Try.underlying29
      rw [Try.bytes5] at this
      simp only [reachBytes] at this
      omega
  clear hA0 hval0
  refine (law_opens_any k0 n0 A0 m0 s0 g0 l0 B0 pz0 rz0 qz0 t0 W lk0 bk0 ln0 bn0 hs0 ht0 hm0 hpz0).mono fun e W' ⟨he, hg⟩ => ?_
  subst he
  exact ⟨_, rfl, post_true rfl hW' (by kernel_rfl) rfl rfl hg⟩

theorem aeadOpens_holds : Rows.AeadOpensSaid :=
  OpenClaim.holds_of_wide 5 Try.f5 rfl rfl rfl rfl rfl rfl rfl ⟨rfl, rfl, rfl, rfl, rfl⟩ rfl rfl rfl rfl rfl (by kernel_rfl) Try.func5 (by kernel_rfl)
    (of_decide_eq_true (by kernel_rfl)) (by unfold Func.isWrapper; first | (rw [if_pos (by decide +kernel)]; kernel_rfl) | (rw [if_neg (by decide +kernel)]; exact ⟨rfl, rfl⟩))
    (fun os started H enc _ => law_opens_lifted os started H enc)
#print axioms aeadOpens_holds
end Go.Proofs.Ytbafppdmlhogbaa
