/- Points of a low order give 0: plain mathematics over the ladder; a literal of three keys. Conditions: keys of 32 bytes; the lengths that are said. -/
import Derived.Test.YtbkbodcncjhcmaaAwake
import Derived.Great.BuildSlice
namespace Go.Proofs.Ytbkbodcncjhcmaa
set_option linter.unusedSimpArgs false
set_option linter.unusedVariables false
open Go.RowKit

theorem stp_e (x1 : Int) (s : St) : E (stp x1 s).a ((s.a + s.b) * (s.a + s.b) * ((s.a - s.b) * (s.a - s.b))) ∧ E (stp x1 s).b (4 * (s.a * s.b) * ((s.a + s.b) * (s.a + s.b) + 121665 * (4 * (s.a * s.b)))) ∧
    E (stp x1 s).c (4 * ((s.a * s.c - s.b * s.d) * (s.a * s.c - s.b * s.d))) ∧ E (stp x1 s).d (4 * (x1 * ((s.b * s.c - s.a * s.d) * (s.b * s.c - s.a * s.d)))) := by
  have p1 := e_fa s.a s.b
  have p2 := e_fs s.a s.b
  have p3 := e_fa s.c s.d
  have p4 := e_fs s.c s.d
  have q1 := fm_e p1 p1
  have q2 := fm_e p2 p2
  have q3 := fs_e q1 q2
  have da := fm_e p4 p1
  have cb := fm_e p3 p2
  have s1 := fa_e da cb
  have s2 := fs_e da cb
  refine ⟨fm_e q1 q2, (fm_e q3 (fa_e q1 (fm_e (E.refl 121665) q3))).trans (E.of_eq (by grind)), (fm_e s1 s1).trans (E.of_eq (by grind)), (fm_e (E.refl x1) (fm_e s2 s2)).trans (E.of_eq (by grind))⟩
/-- What a step leaves where the difference is a point of a low order. -/
structure Lo (r : Int) (s : St) : Prop where
  ab : E (s.a * s.b) 0
  cd : E s.c (r * s.d)
theorem lo_stp {r : Int} (hr : r * r = 1) {x1 : Int} (hx : E x1 r) {s : St} (h : Lo r s ∨ (E s.a (r * s.b) ∧ E (s.c * s.d) 0)) : Lo r (stp x1 s) := by
  obtain ⟨e1, e2, e3, e4⟩ := stp_e x1 s
  rcases h with ⟨h1, h2⟩ | ⟨h1, h2⟩
  · refine ⟨?_, ?_⟩
    · have : E (stp x1 s).b 0 := e2.trans (((E.refl 4).mul h1).mul (E.refl _) |>.trans (E.of_eq (by omega)))
      exact this.mul_zero _
    · have k3 := e3.trans ((E.refl 4).mul ((((E.refl s.a).mul h2).sub (E.refl _)).mul (((E.refl s.a).mul h2).sub (E.refl _))))
      have k4 := (E.refl r).mul (e4.trans ((E.refl 4).mul (hx.mul ((((E.refl s.b).mul h2).sub (E.refl _)).mul (((E.refl s.b).mul h2).sub (E.refl _))))))
      refine k3.trans ((E.of_eq ?_).trans k4.symm)
      grind
  · refine ⟨?_, ?_⟩
    · have : E (stp x1 s).a 0 := by
        refine e1.trans (((h1.add (E.refl _)).mul (h1.add (E.refl _))).mul ((h1.sub (E.refl _)).mul (h1.sub (E.refl _))) |>.trans (E.of_eq ?_))
        grind
      exact this.zero_mul _
    · have k3 := e3.trans ((E.refl 4).mul (((h1.mul (E.refl _)).sub (E.refl _)).mul ((h1.mul (E.refl _)).sub (E.refl _))))
      have k4 := (E.refl r).mul (e4.trans ((E.refl 4).mul (hx.mul (((E.refl _).sub (h1.mul (E.refl _))).mul ((E.refl _).sub (h1.mul (E.refl _)))))))
      refine k3.trans ((E.of_eq ?_).trans k4.symm)
      grind
theorem lo_ld {r : Int} (hr : r * r = 1) (l : List Int) {x1 : Int} (hx : E x1 r) : ∀ k, Lo r (ld l x1 k)
  | 0 => ⟨E.of_eq (by show (1 : Int) * 0 = 0; rfl), hx.trans (E.of_eq (by show r = r * 1; omega))⟩
  | k + 1 => by
    refine lo_stp hr hx ?_
    have h := lo_ld hr l hx k
    rcases swp_cases (bt l k + bt l (k + 1)) (ld l x1 k) with ⟨-, a, b, c, d⟩ | ⟨-, a, b, c, d⟩
    · refine .inr ?_
      rw [a, b, c, d]
      exact ⟨h.cd, h.ab⟩
    · refine .inl ⟨?_, ?_⟩
      · rw [a, b]; exact h.ab
      · rw [c, d]; exact h.cd
theorem lo_ld0 (l : List Int) : ∀ k, E ((ld l 0 k).a * (ld l 0 k).b) 0 ∧ E ((ld l 0 k).c * (ld l 0 k).d) 0
  | 0 => ⟨E.of_eq (by show (1 : Int) * 0 = 0; rfl), E.of_eq (by show (0 : Int) * 1 = 0; rfl)⟩
  | k + 1 => by
    obtain ⟨h1, h2⟩ := lo_ld0 l k
    have key : ∀ s : St, E (s.a * s.b) 0 → E ((stp 0 s).a * (stp 0 s).b) 0 ∧ E ((stp 0 s).c * (stp 0 s).d) 0 := by
      intro s hs
      obtain ⟨e1, e2, e3, e4⟩ := stp_e 0 s
      have k1 : E (stp 0 s).b 0 := e2.trans (((E.refl 4).mul hs).mul (E.refl _) |>.trans (E.of_eq (by omega)))
      have k2 : E (stp 0 s).d 0 := e4.trans (E.of_eq (by omega))
      exact ⟨k1.mul_zero _, k2.mul_zero _⟩
    refine key _ ?_
    rcases swp_cases (bt l k + bt l (k + 1)) (ld l 0 k) with ⟨-, a, b, c, d⟩ | ⟨-, a, b, c, d⟩
    · rw [a, b]; exact h2
    · rw [a, b]; exact h1
theorem el_e0 {v : Int} (h : El v) (h0 : E v 0) : v = 0 := by
  obtain ⟨k, hk⟩ := h0
  obtain ⟨a, b⟩ := h
  unfold pp at b
  unfold ep at hk
  omega
theorem vi_zero : vi 0 = 0 := by rw [vi_ev el_zero]; decide +kernel
theorem lad_zero {l : List Int} {x1 : Int} (he : El x1) (hb : bt l 255 = 0) (h : E ((ld l x1 255).a * (ld l x1 255).b) 0) : lad l x1 = 0 := by
  have e : swp (bt l 255) (ld l x1 255) = ld l x1 255 := by simp [swp, hb]
  unfold lad
  rw [e]
  have hs := ld_els l he 255
  rcases e_prime h with h | h
  · rw [el_e0 hs.a h]
    simp [Fm]
  · rw [el_e0 hs.b h, vi_zero]
    simp [Fm]
theorem bt_last (k : List Int) (hk : k.length = 32) : bt (cl k) 255 = 0 := by
  show kb (cl k) 0 = 0
  unfold kb
  rw [show 0 / 8 = 0 from rfl, cl_get0 k hk, show (2 : Int) ^ (0 % 8) = 1 from rfl]
  omega
theorem zeros_xv (k u : List Int) (h : xe k u = 0) : xv k u = List.replicate 32 0 := by
  rw [xv, h, zeros_lb]
def oneK : List Int := 1 :: List.replicate 31 0
def lastK : List Int := lb 32 (pp - 1)
theorem low0 (k : List Int) (hk : k.length = 32) : xv k (List.replicate 32 0) = List.replicate 32 0 := by
  refine zeros_xv _ _ (lad_zero (el_fe _) (bt_last k hk) ?_)
  rw [show fe (List.replicate 32 0) = 0 by decide]
  exact (lo_ld0 _ 255).1
theorem low1 (k : List Int) (hk : k.length = 32) : xv k oneK = List.replicate 32 0 := by
  refine zeros_xv _ _ (lad_zero (el_fe _) (bt_last k hk) ?_)
  rw [show fe oneK = 1 by decide]
  exact (lo_ld (r := 1) rfl _ (E.refl 1) 255).ab
theorem el_last : El (pp - 1) := ⟨by decide, by decide⟩
theorem low2 (k : List Int) (hk : k.length = 32) : xv k lastK = List.replicate 32 0 := by
  refine zeros_xv _ _ (lad_zero (el_fe _) (bt_last k hk) ?_)
  rw [show fe lastK = pp - 1 from fe_lb el_last]
  refine (lo_ld (r := -1) rfl _ ?_ 255).ab
  exact ⟨1, by decide⟩

/-! ### A slice of three keys -/
theorem underlying44 : Try.prog.underlying 44 = some (.slice 23) := by kernel_rfl
theorem info23 : (Try.prog.info? 23).map (fun i => (i.zero, i.size, i.bytes)) = some (some (.agg (vs .u8 (List.replicate 32 0))), 32, 32) := by kernel_rfl
theorem wpList_lit3 {ops : Array Oper} {rest : List Oper} {o : Oper} {a : Act} {w : World} {Q : Exit → Act → World → Prop} (hg : o.guard = none) (x y z : Operand) (ho : o.op = .buildSlice 44 3 #[(0, x), (1, y), (2, z)])
    (l m n : List Int) (hl : l.length = 32) (hm : m.length = 32) (hn : n.length = 32) (hx : a.eval x = .agg (vs .u8 l)) (hy : a.eval y = .agg (vs .u8 m)) (hz : a.eval z = .agg (vs .u8 n))
    (h : wpList Try.prog ops Q rest (a.put o.dst (.slice (some ⟨w.heap.size, 0, none⟩) 3 3)) (w.alloc (.cells (vs .u8 (l ++ (m ++ n))) 23))) : wpList Try.prog ops Q (o :: rest) a w := by
  obtain ⟨i0, hi, hz0, hz1, hz2⟩ := info_parts info23
  refine wpList_buildSlice hg 44 23 3 #[(0, x), (1, y), (2, z)] ho (vs .u8 (l ++ (m ++ n))) i0 _ underlying44 hi hz0 (by rw [hz1]; decide) (by rw [hz1]; decide) ?_ h
  rw [hz1]
  have e := Great.fill_whole (s := 32) (by decide) [.agg (vs .u8 l), .agg (vs .u8 m), .agg (vs .u8 n)] ((Array.range (3 * 32)).map ((Value.agg (vs .u8 (List.replicate 32 0))).cells[· % (Value.agg (vs .u8 (List.replicate 32 0))).cells.size]!))
    (by
      intro v hv
      simp only [List.mem_cons, List.not_mem_nil, or_false] at hv
      rcases hv with rfl | rfl | rfl
      · show (vs .u8 l).size = 32
        rw [vs_size, hl]
      · show (vs .u8 m).size = 32
        rw [vs_size, hm]
      · show (vs .u8 n).size = 32
        rw [vs_size, hn])
    (by simp)
  have e2 : ((#[(0, x), (1, y), (2, z)] : Array (Nat × Operand)).map fun (i, x) => (i, a.eval x)).toList = (([.agg (vs .u8 l), .agg (vs .u8 m), .agg (vs .u8 n)] : List Value).zipIdx 0).map fun x => (x.2, x.1) := by
    simp [hx, hy, hz]
  rw [e2, e]
  congr 1
  simp [vs, Value.cells]
section
variable {C : World → Prop} {a : Act} {o : Oper} {K : Act → Prop}
/-- The address of a key of the slice. -/
theorem quiet_kidx (x y : Operand) (ho : o.op = .indexAddr 44 x y) (q n c i : Nat) (hx : a.eval x = .slice (some ⟨q, 0, none⟩) n c) (z : Int) (hy : a.eval y = .int .i64 z) (hz : z = (i : Int)) (hi : i < n)
    (hk : K (a.put o.dst (.pointer (some ⟨q, i * 32, none⟩)))) : o.quiet Try.prog a C K := by
  subst hz
  refine quiet_run _ (fun w hw => ?_) hk
  obtain ⟨i0, h0, hz0, hz1, hz2⟩ := info_parts info23
  have h1 : ((0 : Int) ≤ (i : Int) ∧ (i : Int) < (n : Int)) := ⟨by omega, by omega⟩
  have h2 : ((i : Int)).toNat = i := by omega
  unfold execOp
  simp [ho, hx, hy, Instr.indexAt, asIntOf, run_underlying underlying44, sizeOf, typeInfo, h0, hz1, h1, h2, Sem.run_bind, Sem.run_pure, Result.andThen_ok, Addr.add_mid]
  exact fun h => by omega
theorem quiet_key (x : Operand) (ho : o.op = .load 23 x) (q i : Nat) (hx : a.eval x = .pointer (some ⟨q, i, none⟩)) (l : List Int) (hl : l.length = 32) (hg : ∀ w, C w → w.rangeAt q i (vs .u8 l).toList)
    (hk : K (a.put o.dst (.agg (vs .u8 l)))) : o.quiet Try.prog a C K := by
  refine quiet_run _ (fun w hw => ?_) hk
  unfold execOp
  simp only [ho, hx, Instr.loadAt, Instr.sureAddr, Sem.run_bind, Sem.run_pure, Result.andThen_ok, run_loadVar_mid (P := Try.prog) w q i 23 (vs .u8 l).toList _ (hg w hw) Try.underlying23 rfl (by rw [size23]; simp [vs, hl])]
end
theorem key_range {w : World} {q : Nat} {pre l post : List Int} {t : TypeId} {n : Nat} (hn : pre.length = n) (h : w.heap[q]? = some (.cells (vs .u8 (pre ++ (l ++ post))) t (0, 0))) : w.rangeAt q n (vs .u8 l).toList := fun j v hj => by
  have hl : j < l.length := by
    have := (List.getElem?_eq_some_iff.1 hj).1
    simpa [vs] using this
  rw [cell_of_row w q (n + j) _ _ _ h, vs_get, List.getElem?_append_right (by omega), hn, Nat.add_sub_cancel_left, List.getElem?_append_left hl]
  simpa [vs] using hj
theorem wpList_q {P : Program} {ops : Array Oper} {rest : List Oper} {o : Oper} {a : Act} {w : World} {Q : Exit → Act → World → Prop} (hg : o.guard = none) (v : Value) (h : o.quiet P a (fun x => x = w) (fun a' => a' = a.put o.dst v))
    (hk : wpList P ops Q rest (a.put o.dst v) w) : wpList P ops Q (o :: rest) a w :=
  wpList_plain hg fun _ hK => Oper.wp_of_quiet (C := fun x => x = w) rfl (fun a' w' hw' e => by rw [e, hw']; exact hK _ _ hk) h
end Go.Proofs.Ytbkbodcncjhcmaa
