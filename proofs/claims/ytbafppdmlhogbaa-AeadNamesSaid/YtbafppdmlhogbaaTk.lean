/- A block is added and the sum multiplied (number.taken): contract. Conditions: the three parts are within their bits. -/
import Derived.Test.YtbafppdmlhogbaaT
namespace Go.Proofs.Ytbafppdmlhogbaa
set_option linter.unusedSimpArgs false
set_option linter.unusedVariables false
open Go.RowKit

/-- P. -/
def pp : Int := 1361129467683753853853498429727072845819
/-- The number of three parts. -/
def nv (a b c : Int) : Int := a + 17592186044416 * b + 309485009821345068724781056 * c
theorem Ar.of {w : World} {g : Nat} {t : TypeId} {k : IntKind} {l : List Int} (h : w.heap[g]? = some (.cells (vs k l) t (0, 0))) : Ar w g t k l := h
theorem calm3P {w : World} {A B C : Obj} {W0 : World} (h : ((w.alloc A).alloc B).alloc C = W0) : W0.heap[w.heap.size]? = some A ∧ W0.heap[w.heap.size + 1]? = some B ∧ W0.heap[w.heap.size + 1 + 1]? = some C ∧ Fr (fun _ => False) w W0 := by
  obtain ⟨V, hV⟩ : ∃ V, (w.alloc A).alloc B = V := ⟨_, rfl⟩
  have h2 := calm2 hV
  have sV : V.heap.size = w.heap.size + 1 + 1 := by rw [← hV]; simp
  rw [hV] at h
  have h1 := calm1a h
  rw [sV] at h1
  exact ⟨(h1.2.block _ (by omega) (fun x => x)).trans h2.1, (h1.2.block _ (by omega) (fun x => x)).trans h2.2.1, h1.1, h2.2.2.trans h1.2⟩
theorem calm4P {w : World} {A B C D : Obj} {W0 : World} (h : (((w.alloc A).alloc B).alloc C).alloc D = W0) : W0.heap[w.heap.size]? = some A ∧ W0.heap[w.heap.size + 1]? = some B ∧ W0.heap[w.heap.size + 1 + 1]? = some C ∧ W0.heap[w.heap.size + 1 + 1 + 1]? = some D ∧ Fr (fun _ => False) w W0 := by
  obtain ⟨V, hV⟩ : ∃ V, ((w.alloc A).alloc B).alloc C = V := ⟨_, rfl⟩
  have h3 := calm3P hV
  have sV : V.heap.size = w.heap.size + 1 + 1 + 1 := by rw [← hV]; simp
  rw [hV] at h
  have h1 := calm1a h
  rw [sV] at h1
  exact ⟨(h1.2.block _ (by omega) (fun x => x)).trans h3.1, (h1.2.block _ (by omega) (fun x => x)).trans h3.2.1, (h1.2.block _ (by omega) (fun x => x)).trans h3.2.2.1, h1.1, h3.2.2.2.trans h1.2⟩
theorem mul_bd {a b A B : Int} (h0 : 0 ≤ a) (h1 : a ≤ A) (g0 : 0 ≤ b) (g1 : b ≤ B) : 0 ≤ a * b ∧ a * b ≤ A * B :=
  ⟨Int.mul_nonneg h0 g0, Int.mul_le_mul h1 g1 g0 (by omega)⟩
/-- What the three sums come to. -/
theorem taken_mod (x y z r0 r1 r2 a b c : Int) (ha : a = x * r0 + y * (20 * r2) + z * (20 * r1)) (hb : b = a / 17592186044416 + x * r1 + y * r0 + z * (20 * r2)) (hc : c = b / 17592186044416 + x * r2 + y * r1 + z * r0) :
    nv (a % 17592186044416 + 5 * (c / 4398046511104)) (b % 17592186044416) (c % 4398046511104) % pp = nv x y z * nv r0 r1 r2 % pp := by
  obtain ⟨p00, h00⟩ : ∃ p, p = x * r0 := ⟨_, rfl⟩
  obtain ⟨p01, h01⟩ : ∃ p, p = x * r1 := ⟨_, rfl⟩
  obtain ⟨p02, h02⟩ : ∃ p, p = x * r2 := ⟨_, rfl⟩
  obtain ⟨p10, h10⟩ : ∃ p, p = y * r0 := ⟨_, rfl⟩
  obtain ⟨p11, h11⟩ : ∃ p, p = y * r1 := ⟨_, rfl⟩
  obtain ⟨p12, h12⟩ : ∃ p, p = y * r2 := ⟨_, rfl⟩
  obtain ⟨p20, h20⟩ : ∃ p, p = z * r0 := ⟨_, rfl⟩
  obtain ⟨p21, h21⟩ : ∃ p, p = z * r1 := ⟨_, rfl⟩
  obtain ⟨p22, h22⟩ : ∃ p, p = z * r2 := ⟨_, rfl⟩
  have e : nv x y z * nv r0 r1 r2 = p00 + 17592186044416 * (p01 + p10) + 309485009821345068724781056 * (p02 + p11 + p20) + 5444517870735015415413993718908291383296 * (p12 + p21) + 95780971304118053647396689196894323976171195136475136 * p22 := by
    rw [h00, h01, h02, h10, h11, h12, h20, h21, h22]
    unfold nv
    grind
  have ea : a = p00 + 20 * p12 + 20 * p21 := by rw [ha, h00, h12, h21]; grind
  have eb : b = a / 17592186044416 + p01 + p10 + 20 * p22 := by rw [hb, h01, h10, h22]; grind
  have ec : c = b / 17592186044416 + p02 + p11 + p20 := by rw [hc, h02, h11, h20]
  have k : nv x y z * nv r0 r1 r2 = nv (a % 17592186044416 + 5 * (c / 4398046511104)) (b % 17592186044416) (c % 4398046511104) + pp * (4 * (p12 + p21 + 17592186044416 * p22) + c / 4398046511104) := by
    rw [e]
    unfold nv pp
    clear e h00 h01 h02 h10 h11 h12 h20 h21 h22 ha hb hc
    omega
  rw [k, Int.add_mul_emod_self_left]

/-- Within their bits: a first part, as it is kept. -/
structure In (m0 m1 m2 : Int) : Prop where
  a0 : 0 ≤ m0
  a1 : m0 < 2251799813685248
  b0 : 0 ≤ m1
  b1 : m1 < 17592186044416
  c0 : 0 ≤ m2
  c1 : m2 < 4398046511104

set_option maxRecDepth 100000 in
set_option maxHeartbeats 8000000 in
theorem taken_ex (n0 n1 n2 b0 b1 b2 r0 r1 r2 : Int) (hn : In n0 n1 n2) (g0 : 0 ≤ b0 ∧ b0 < 17592186044416) (g1 : 0 ≤ b1 ∧ b1 < 17592186044416) (g2 : 0 ≤ b2 ∧ b2 < 2199023255552)
    (f0 : 0 ≤ r0 ∧ r0 < 17592186044416) (f1 : 0 ≤ r1 ∧ r1 < 17592186044416) (f2 : 0 ≤ r2 ∧ r2 < 68719476736) :
    ∃ m0 m1 m2, In m0 m1 m2 ∧ nv m0 m1 m2 % pp = nv (n0 + b0) (n1 + b1) (n2 + b2) * nv r0 r1 r2 % pp ∧ ∀ w : World,
    Calls Try.prog 38 #[.agg (vs .u64 [n0, n1, n2]), .agg (vs .u64 [b0, b1, b2]), .agg (vs .u64 [r0, r1, r2])] w fun e w' => e = .returned (.agg (vs .u64 [m0, m1, m2])) ∧ Fr (fun _ => False) w w' := by
  obtain ⟨x, hx⟩ : ∃ x, n0 + b0 = x := ⟨_, rfl⟩
  obtain ⟨y, hy⟩ : ∃ x, n1 + b1 = x := ⟨_, rfl⟩
  obtain ⟨z, hz⟩ : ∃ x, n2 + b2 = x := ⟨_, rfl⟩
  have bx : 0 ≤ x ∧ x ≤ 2269391999729664 := by have := hn.a0; have := hn.a1; omega
  have by' : 0 ≤ y ∧ y ≤ 35184372088832 := by have := hn.b0; have := hn.b1; omega
  have bz : 0 ≤ z ∧ z ≤ 6597069766656 := by have := hn.c0; have := hn.c1; omega
  have x0 := mul_bd bx.1 bx.2 f0.1 (Int.le_of_lt f0.2)
  have x1 := mul_bd bx.1 bx.2 f1.1 (Int.le_of_lt f1.2)
  have x2 := mul_bd bx.1 bx.2 f2.1 (Int.le_of_lt f2.2)
  have y0 := mul_bd by'.1 by'.2 f0.1 (Int.le_of_lt f0.2)
  have y1 := mul_bd by'.1 by'.2 f1.1 (Int.le_of_lt f1.2)
  have y2 := mul_bd by'.1 by'.2 (show 0 ≤ 20 * r2 by omega) (show 20 * r2 ≤ 1374389534720 by omega)
  have z0 := mul_bd bz.1 bz.2 f0.1 (Int.le_of_lt f0.2)
  have z1 := mul_bd bz.1 bz.2 (show 0 ≤ 20 * r1 by omega) (show 20 * r1 ≤ 351843720888320 by omega)
  have z2 := mul_bd bz.1 bz.2 (show 0 ≤ 20 * r2 by omega) (show 20 * r2 ≤ 1374389534720 by omega)
  obtain ⟨a1, ha1⟩ : ∃ a, 0 + x * r0 = a := ⟨_, rfl⟩
  obtain ⟨a2, ha2⟩ : ∃ a, a1 + y * (20 * r2) = a := ⟨_, rfl⟩
  obtain ⟨a, ha⟩ : ∃ a', a2 + z * (20 * r1) = a' := ⟨_, rfl⟩
  obtain ⟨sa, hsa⟩ : ∃ s, a / 17592186044416 = s := ⟨_, rfl⟩
  obtain ⟨c1, hc1⟩ : ∃ a, sa + x * r1 = a := ⟨_, rfl⟩
  obtain ⟨c2, hc2⟩ : ∃ a, c1 + y * r0 = a := ⟨_, rfl⟩
  obtain ⟨b, hb⟩ : ∃ a', c2 + z * (20 * r2) = a' := ⟨_, rfl⟩
  obtain ⟨sb, hsb⟩ : ∃ s, b / 17592186044416 = s := ⟨_, rfl⟩
  obtain ⟨d1, hd1⟩ : ∃ a, sb + x * r2 = a := ⟨_, rfl⟩
  obtain ⟨d2, hd2⟩ : ∃ a, d1 + y * r1 = a := ⟨_, rfl⟩
  obtain ⟨c, hc⟩ : ∃ a', d2 + z * r0 = a' := ⟨_, rfl⟩
  obtain ⟨sc, hsc⟩ : ∃ s, c / 4398046511104 = s := ⟨_, rfl⟩
  obtain ⟨o1, ho1⟩ : ∃ s, 20 * r1 = s := ⟨_, rfl⟩
  obtain ⟨o2, ho2⟩ : ∃ s, 20 * r2 = s := ⟨_, rfl⟩
  have HM := taken_mod x y z r0 r1 r2 a b c (by rw [← ha, ← ha2, ← ha1]; omega) (by rw [hsa, ← hb, ← hc2, ← hc1]) (by rw [hsb, ← hc, ← hd2, ← hd1])
  rw [hsc, ← hx, ← hy, ← hz] at HM
  rw [ho2] at ha2 hb y2 z2
  rw [ho1] at ha z1
  simp only [Int.reduceMul] at x0 x1 x2 y0 y1 y2 z0 z1 z2
  have P1 : ∀ W, Calls Try.prog 49 #[.agg (wd 0), .int .u64 x, .int .u64 r0] W fun e w' => e = .returned (.agg (wd a1)) ∧ Fr (fun _ => False) W w' := fun W => plus_is 0 x r0 a1 W (by omega) ⟨by omega, by omega⟩ ⟨by omega, by omega⟩ ha1 (by omega)
  have P2 : ∀ W, Calls Try.prog 49 #[.agg (wd a1), .int .u64 y, .int .u64 o2] W fun e w' => e = .returned (.agg (wd a2)) ∧ Fr (fun _ => False) W w' := fun W => plus_is a1 y o2 a2 W (by omega) ⟨by omega, by omega⟩ ⟨by omega, by omega⟩ ha2 (by omega)
  have P3 : ∀ W, Calls Try.prog 49 #[.agg (wd a2), .int .u64 z, .int .u64 o1] W fun e w' => e = .returned (.agg (wd a)) ∧ Fr (fun _ => False) W w' := fun W => plus_is a2 z o1 a W (by omega) ⟨by omega, by omega⟩ ⟨by omega, by omega⟩ ha (by omega)
  have P4 : ∀ W, Calls Try.prog 50 #[.agg (wd a), .int .u64 44] W fun e w' => e = .returned (.int .u64 sa) ∧ Fr (fun _ => False) W w' := fun W => from44_is a sa W (by omega) hsa (by omega)
  have P5 : ∀ W, Calls Try.prog 49 #[.agg (wd sa), .int .u64 x, .int .u64 r1] W fun e w' => e = .returned (.agg (wd c1)) ∧ Fr (fun _ => False) W w' := fun W => plus_is sa x r1 c1 W (by omega) ⟨by omega, by omega⟩ ⟨by omega, by omega⟩ hc1 (by omega)
  have P6 : ∀ W, Calls Try.prog 49 #[.agg (wd c1), .int .u64 y, .int .u64 r0] W fun e w' => e = .returned (.agg (wd c2)) ∧ Fr (fun _ => False) W w' := fun W => plus_is c1 y r0 c2 W (by omega) ⟨by omega, by omega⟩ ⟨by omega, by omega⟩ hc2 (by omega)
  have P7 : ∀ W, Calls Try.prog 49 #[.agg (wd c2), .int .u64 z, .int .u64 o2] W fun e w' => e = .returned (.agg (wd b)) ∧ Fr (fun _ => False) W w' := fun W => plus_is c2 z o2 b W (by omega) ⟨by omega, by omega⟩ ⟨by omega, by omega⟩ hb (by omega)
  have P8 : ∀ W, Calls Try.prog 50 #[.agg (wd b), .int .u64 44] W fun e w' => e = .returned (.int .u64 sb) ∧ Fr (fun _ => False) W w' := fun W => from44_is b sb W (by omega) hsb (by omega)
  have P9 : ∀ W, Calls Try.prog 49 #[.agg (wd sb), .int .u64 x, .int .u64 r2] W fun e w' => e = .returned (.agg (wd d1)) ∧ Fr (fun _ => False) W w' := fun W => plus_is sb x r2 d1 W (by omega) ⟨by omega, by omega⟩ ⟨by omega, by omega⟩ hd1 (by omega)
  have P10 : ∀ W, Calls Try.prog 49 #[.agg (wd d1), .int .u64 y, .int .u64 r1] W fun e w' => e = .returned (.agg (wd d2)) ∧ Fr (fun _ => False) W w' := fun W => plus_is d1 y r1 d2 W (by omega) ⟨by omega, by omega⟩ ⟨by omega, by omega⟩ hd2 (by omega)
  have P11 : ∀ W, Calls Try.prog 49 #[.agg (wd d2), .int .u64 z, .int .u64 r0] W fun e w' => e = .returned (.agg (wd c)) ∧ Fr (fun _ => False) W w' := fun W => plus_is d2 z r0 c W (by omega) ⟨by omega, by omega⟩ ⟨by omega, by omega⟩ hc (by omega)
  have P12 : ∀ W, Calls Try.prog 50 #[.agg (wd c), .int .u64 42] W fun e w' => e = .returned (.int .u64 sc) ∧ Fr (fun _ => False) W w' := fun W => from42_is c sc W (by omega) hsc (by omega)
  obtain ⟨m0, hm0⟩ : ∃ m, a % 17592186044416 + 5 * sc = m := ⟨_, rfl⟩
  obtain ⟨m1, hm1⟩ : ∃ m, b % 17592186044416 = m := ⟨_, rfl⟩
  obtain ⟨m2, hm2⟩ : ∃ m, c % 4398046511104 = m := ⟨_, rfl⟩
  obtain ⟨ma, hma⟩ : ∃ m, a % 17592186044416 = m := ⟨_, rfl⟩
  rw [hm0, hm1, hm2] at HM
  refine ⟨m0, m1, m2, ⟨by omega, by omega, by omega, by omega, by omega, by omega⟩, HM, fun w => ?_⟩
  have A1 : bits .and .u64 (a % 18446744073709551616) 17592186044415 = ma := (low_bits 44 (by decide) _ ⟨by omega, by omega⟩).trans (by omega)
  have A2 : bits .and .u64 (b % 18446744073709551616) 17592186044415 = m1 := (low_bits 44 (by decide) _ ⟨by omega, by omega⟩).trans (by omega)
  have A3 : bits .and .u64 (c % 18446744073709551616) 4398046511103 = m2 := (low_bits 42 (by decide) _ ⟨by omega, by omega⟩).trans (by omega)
  have A4 : IntKind.u64.wrap (5 * sc) = 5 * sc := wrap_in _ ⟨by omega, by omega⟩
  have A5 : IntKind.u64.wrap (ma + 5 * sc) = m0 := (wrap_in _ ⟨by omega, by omega⟩).trans (by omega)
  have A6 : IntKind.u64.wrap (n0 + b0) = x := by rw [hx]; exact wrap_in _ ⟨by omega, by omega⟩
  have A7 : IntKind.u64.wrap (n1 + b1) = y := by rw [hy]; exact wrap_in _ ⟨by omega, by omega⟩
  have A8 : IntKind.u64.wrap (n2 + b2) = z := by rw [hz]; exact wrap_in _ ⟨by omega, by omega⟩
  have A9 : IntKind.u64.wrap (20 * r1) = o1 := by rw [ho1]; exact wrap_in _ ⟨by omega, by omega⟩
  have A10 : IntKind.u64.wrap (20 * r2) = o2 := by rw [ho2]; exact wrap_in _ ⟨by omega, by omega⟩
  rw [wd_low (c := sa) ⟨by omega, by omega⟩] at P5
  rw [wd_low (c := sb) ⟨by omega, by omega⟩] at P9
  rw [wd_zero] at P1
  obtain ⟨la, hla⟩ : ∃ m, a % 18446744073709551616 = m := ⟨_, rfl⟩
  obtain ⟨lb, hlb⟩ : ∃ m, b % 18446744073709551616 = m := ⟨_, rfl⟩
  obtain ⟨lc, hlc⟩ : ∃ m, c % 18446744073709551616 = m := ⟨_, rfl⟩
  have cA : Hid ((wd a)[1]? = some (.int .u64 la)) := by show _ = _; rw [← hla]; rfl
  have cB : Hid ((wd b)[1]? = some (.int .u64 lb)) := by show _ = _; rw [← hlb]; rfl
  have cC : Hid ((wd c)[1]? = some (.int .u64 lc)) := by show _ = _; rw [← hlc]; rfl
  rw [hla] at A1
  rw [hlb] at A2
  rw [hlc] at A3
  obtain ⟨Va1, hVa1⟩ : ∃ V, wd a1 = V := ⟨_, rfl⟩
  obtain ⟨Va2, hVa2⟩ : ∃ V, wd a2 = V := ⟨_, rfl⟩
  obtain ⟨Va, hVa⟩ : ∃ V, wd a = V := ⟨_, rfl⟩
  obtain ⟨Vc1, hVc1⟩ : ∃ V, wd c1 = V := ⟨_, rfl⟩
  obtain ⟨Vc2, hVc2⟩ : ∃ V, wd c2 = V := ⟨_, rfl⟩
  obtain ⟨Vb, hVb⟩ : ∃ V, wd b = V := ⟨_, rfl⟩
  obtain ⟨Vd1, hVd1⟩ : ∃ V, wd d1 = V := ⟨_, rfl⟩
  obtain ⟨Vd2, hVd2⟩ : ∃ V, wd d2 = V := ⟨_, rfl⟩
  obtain ⟨Vc, hVc⟩ : ∃ V, wd c = V := ⟨_, rfl⟩
  rw [hVa1] at P1 P2
  rw [hVa2] at P2 P3
  rw [hVa] at P3 P4 cA
  rw [hVc1] at P5 P6
  rw [hVc2] at P6 P7
  rw [hVb] at P7 P8 cB
  rw [hVd1] at P9 P10
  rw [hVd2] at P10 P11
  rw [hVc] at P11 P12 cC
  have sVa : Hid (Va.size = 2) := by show _ = _; rw [← hVa]; rfl
  have sVb : Hid (Vb.size = 2) := by show _ = _; rw [← hVb]; rfl
  have sVc : Hid (Vc.size = 2) := by show _ = _; rw [← hVc]; rfl
  have oVa : Hid (Va.all (·.oneCell') = true) := by show _ = _; rw [← hVa]; exact vs_all .u64 [a / 18446744073709551616, a % 18446744073709551616]
  have oVb : Hid (Vb.all (·.oneCell') = true) := by show _ = _; rw [← hVb]; exact vs_all .u64 [b / 18446744073709551616, b % 18446744073709551616]
  have oVc : Hid (Vc.all (·.oneCell') = true) := by show _ = _; rw [← hVc]; exact vs_all .u64 [c / 18446744073709551616, c % 18446744073709551616]
  clear hx hy hz bx by' bz x0 x1 x2 y0 y1 y2 z0 z1 z2 ha1 ha2 ha hsa hc1 hc2 hb hsb hd1 hd2 hc hsc ho1 ho2 HM hm0 hm1 hm2 hma hla hlb hlc hVa1 hVa2 hVa hVc1 hVc2 hVb hVd1 hVd2 hVc hn g0 g1 g2 f0 f1 f2
  go_enter Try.func38, Try.ntmps38
  go_upto_region 1 with (fail)
  generalize hW : (((w.alloc (.cells (vs .u64 [n0, n1, n2]) 62)).alloc (.cells (vs .u64 [b0, b1, b2]) 62)).alloc (.cells (vs .u64 [r0, r1, r2]) 62)).alloc (.cells #[.int .u64 0, .int .u64 0, .int .u64 0] 62) = W0
  have HW := Lib.hid (calm4P hW)
  have X0 : Hid (Ar W0 w.heap.size 62 .u64 [n0, n1, n2]) := HW.out.1
  have X1 : Hid (Ar W0 (w.heap.size + 1) 62 .u64 [b0, b1, b2]) := HW.out.2.1
  have X2 : Hid (Ar W0 (w.heap.size + 1 + 1) 62 .u64 [r0, r1, r2]) := HW.out.2.2.1
  have X3 : Hid (W0.heap[w.heap.size + 1 + 1 + 1]? = some (.cells #[.int .u64 0, .int .u64 0, .int .u64 0] 62)) := HW.out.2.2.2.1
  have F0 : Hid (Fr (fun _ => False) w W0) := HW.out.2.2.2.2
  clear hW HW
  refine wp_region_quiet (C := Calm W0) (by kernel_rfl) (by kernel_rfl) (Calm.start _ _ (Fr.refl _ _)) ?_
  refine BigFrame.wpQuiet_want rfl fun K hK => ?_
  try simp only [Act.put, List.setIfInBounds_toArray, List.set_cons_succ, List.set_cons_zero]
  go_big_quiet_op
  first
    | refine ⟨_, fun _ _ => rfl, hK _ ?_⟩
    | refine hK _ ?_
  refine BigFrame.wpQuiet_want rfl fun K hK => quiet_oneP 60 .u64 (.tmp 15) rfl (w.heap.size) (0) rfl (n0) Try.underlying60 (fun _ h => (Ar.fr X0.out h (fun x => x)).cell rfl) (hK _ ?_)
  refine BigFrame.wpQuiet_want rfl fun K hK => ?_
  try simp only [Act.put, List.setIfInBounds_toArray, List.set_cons_succ, List.set_cons_zero]
  go_big_quiet_op
  first
    | refine ⟨_, fun _ _ => rfl, hK _ ?_⟩
    | refine hK _ ?_
  refine BigFrame.wpQuiet_want rfl fun K hK => quiet_oneP 60 .u64 (.tmp 17) rfl (w.heap.size + 1) (0) rfl (b0) Try.underlying60 (fun _ h => (Ar.fr X1.out h (fun x => x)).cell rfl) (hK _ ?_)
  refine BigFrame.wpQuiet_want rfl fun K hK => ?_
  try simp only [Act.put, List.setIfInBounds_toArray, List.set_cons_succ, List.set_cons_zero]
  go_big_quiet_op
  first
    | refine ⟨_, fun _ _ => rfl, hK _ ?_⟩
    | refine hK _ ?_
  refine BigFrame.wpQuiet_want rfl fun K hK => ?_
  try simp only [Act.put, List.setIfInBounds_toArray, List.set_cons_succ, List.set_cons_zero]
  go_big_quiet_op
  first
    | refine ⟨_, fun _ _ => rfl, hK _ ?_⟩
    | refine hK _ ?_
  refine BigFrame.wpQuiet_want rfl fun K hK => quiet_oneP 60 .u64 (.tmp 20) rfl (w.heap.size) (1) rfl (n1) Try.underlying60 (fun _ h => (Ar.fr X0.out h (fun x => x)).cell rfl) (hK _ ?_)
  refine BigFrame.wpQuiet_want rfl fun K hK => ?_
  try simp only [Act.put, List.setIfInBounds_toArray, List.set_cons_succ, List.set_cons_zero]
  go_big_quiet_op
  first
    | refine ⟨_, fun _ _ => rfl, hK _ ?_⟩
    | refine hK _ ?_
  refine BigFrame.wpQuiet_want rfl fun K hK => quiet_oneP 60 .u64 (.tmp 22) rfl (w.heap.size + 1) (1) rfl (b1) Try.underlying60 (fun _ h => (Ar.fr X1.out h (fun x => x)).cell rfl) (hK _ ?_)
  refine BigFrame.wpQuiet_want rfl fun K hK => ?_
  try simp only [Act.put, List.setIfInBounds_toArray, List.set_cons_succ, List.set_cons_zero]
  go_big_quiet_op
  first
    | refine ⟨_, fun _ _ => rfl, hK _ ?_⟩
    | refine hK _ ?_
  refine BigFrame.wpQuiet_want rfl fun K hK => ?_
  try simp only [Act.put, List.setIfInBounds_toArray, List.set_cons_succ, List.set_cons_zero]
  go_big_quiet_op
  first
    | refine ⟨_, fun _ _ => rfl, hK _ ?_⟩
    | refine hK _ ?_
  refine BigFrame.wpQuiet_want rfl fun K hK => quiet_oneP 60 .u64 (.tmp 25) rfl (w.heap.size) (2) rfl (n2) Try.underlying60 (fun _ h => (Ar.fr X0.out h (fun x => x)).cell rfl) (hK _ ?_)
  refine BigFrame.wpQuiet_want rfl fun K hK => ?_
  try simp only [Act.put, List.setIfInBounds_toArray, List.set_cons_succ, List.set_cons_zero]
  go_big_quiet_op
  first
    | refine ⟨_, fun _ _ => rfl, hK _ ?_⟩
    | refine hK _ ?_
  refine BigFrame.wpQuiet_want rfl fun K hK => quiet_oneP 60 .u64 (.tmp 27) rfl (w.heap.size + 1) (2) rfl (b2) Try.underlying60 (fun _ h => (Ar.fr X1.out h (fun x => x)).cell rfl) (hK _ ?_)
  refine BigFrame.wpQuiet_want rfl fun K hK => ?_
  try simp only [Act.put, List.setIfInBounds_toArray, List.set_cons_succ, List.set_cons_zero]
  go_big_quiet_op
  first
    | refine ⟨_, fun _ _ => rfl, hK _ ?_⟩
    | refine hK _ ?_
  refine BigFrame.wpQuiet_want rfl fun K hK => ?_
  try simp only [Act.put, List.setIfInBounds_toArray, List.set_cons_succ, List.set_cons_zero]
  go_big_quiet_op
  refine hK _ ?_
  refine BigFrame.wpQuiet_want rfl fun K hK => ?_
  try simp only [Act.put, List.setIfInBounds_toArray, List.set_cons_succ, List.set_cons_zero]
  go_big_quiet_op
  refine hK _ ?_
  refine BigFrame.wpQuiet_want rfl fun K hK => ?_
  try simp only [Act.put, List.setIfInBounds_toArray, List.set_cons_succ, List.set_cons_zero]
  go_big_quiet_op
  refine hK _ ?_
  refine wpQuiet_nil ?_
  intro w1 hw1
  have F1 : Hid (Fr (fun _ => False) w w1) := F0.out.trans hw1
  have G1 := Lib.hid hw1
  clear hw1
  try simp only [Act.put, List.setIfInBounds_toArray, List.set_cons_succ, List.set_cons_zero]
  replace X0 : Hid (Ar w1 (w.heap.size) 62 .u64 [n0, n1, n2]) := Ar.fr X0.out G1.out (fun x => x)
  replace X1 : Hid (Ar w1 (w.heap.size + 1) 62 .u64 [b0, b1, b2]) := Ar.fr X1.out G1.out (fun x => x)
  replace X2 : Hid (Ar w1 (w.heap.size + 1 + 1) 62 .u64 [r0, r1, r2]) := Ar.fr X2.out G1.out (fun x => x)
  replace X3 := Lib.hid (Calm.at X3.out G1.out)
  clear G1 F0
  go_upto_region 2 with (fail)
  refine wp_region_quiet (C := Calm w1) (by kernel_rfl) (by kernel_rfl) (Calm.start _ _ (Fr.refl _ _)) ?_
  refine BigFrame.wpQuiet_want rfl fun K hK => ?_
  try simp only [Act.put, List.setIfInBounds_toArray, List.set_cons_succ, List.set_cons_zero]
  go_big_quiet_op
  first
    | refine ⟨_, fun _ _ => rfl, hK _ ?_⟩
    | refine hK _ ?_
  refine BigFrame.wpQuiet_want rfl fun K hK => quiet_oneP 60 .u64 (.tmp 30) rfl (w.heap.size + 1 + 1) (1) rfl (r1) Try.underlying60 (fun _ h => (Ar.fr X2.out h (fun x => x)).cell rfl) (hK _ ?_)
  refine BigFrame.wpQuiet_want rfl fun K hK => ?_
  try simp only [Act.put, List.setIfInBounds_toArray, List.set_cons_succ, List.set_cons_zero]
  go_big_quiet_op
  first
    | refine ⟨_, fun _ _ => rfl, hK _ ?_⟩
    | refine hK _ ?_
  refine BigFrame.wpQuiet_want rfl fun K hK => ?_
  try simp only [Act.put, List.setIfInBounds_toArray, List.set_cons_succ, List.set_cons_zero]
  go_big_quiet_op
  first
    | refine ⟨_, fun _ _ => rfl, hK _ ?_⟩
    | refine hK _ ?_
  refine BigFrame.wpQuiet_want rfl fun K hK => quiet_oneP 60 .u64 (.tmp 33) rfl (w.heap.size + 1 + 1) (2) rfl (r2) Try.underlying60 (fun _ h => (Ar.fr X2.out h (fun x => x)).cell rfl) (hK _ ?_)
  refine BigFrame.wpQuiet_want rfl fun K hK => ?_
  try simp only [Act.put, List.setIfInBounds_toArray, List.set_cons_succ, List.set_cons_zero]
  go_big_quiet_op
  first
    | refine ⟨_, fun _ _ => rfl, hK _ ?_⟩
    | refine hK _ ?_
  refine BigFrame.wpQuiet_want rfl fun K hK => ?_
  try simp only [Act.put, List.setIfInBounds_toArray, List.set_cons_succ, List.set_cons_zero]
  go_big_quiet_op
  refine hK _ ?_
  refine BigFrame.wpQuiet_want rfl fun K hK => ?_
  try simp only [Act.put, List.setIfInBounds_toArray, List.set_cons_succ, List.set_cons_zero]
  go_big_quiet_op
  refine hK _ ?_
  refine wpQuiet_nil ?_
  intro w2 hw2
  have F2 : Hid (Fr (fun _ => False) w w2) := F1.out.trans hw2
  have G2 := Lib.hid hw2
  clear hw2
  try simp only [Act.put, List.setIfInBounds_toArray, List.set_cons_succ, List.set_cons_zero]
  replace X0 : Hid (Ar w2 (w.heap.size) 62 .u64 [n0, n1, n2]) := Ar.fr X0.out G2.out (fun x => x)
  replace X1 : Hid (Ar w2 (w.heap.size + 1) 62 .u64 [b0, b1, b2]) := Ar.fr X1.out G2.out (fun x => x)
  replace X2 : Hid (Ar w2 (w.heap.size + 1 + 1) 62 .u64 [r0, r1, r2]) := Ar.fr X2.out G2.out (fun x => x)
  replace X3 := Lib.hid (Calm.at X3.out G2.out)
  clear G2 F1
  clear A6 A7 A8 A9 A10
  go_upto_region 3 with (fail)
  refine wp_region_seq (fun b a w' => ∃ g12 : Nat, Fr (fun _ => False) w2 w' ∧ (b 11 = true → w2.heap.size ≤ g12 ∧ w'.heap[g12]? = some (.cells (if b 12 = true then Va else #[.int .u64 0, .int .u64 0]) 80 (0, 0))) ∧ (b 12 = true → b 11 = true) ∧ a = ⟨#[.agg (vs .u64 [n0, n1, n2]), .agg (vs .u64 [b0, b1, b2]), .agg (vs .u64 [r0, r1, r2]), .pointer (some ⟨w.heap.size, 0, none⟩), .pointer (some ⟨w.heap.size + 1, 0, none⟩), .pointer (some ⟨w.heap.size + 1 + 1, 0, none⟩), .pointer (some ⟨w.heap.size + 1 + 1 + 1, 0, none⟩), .int .u64 x, .int .u64 y, .int .u64 z, .int .u64 o1, .int .u64 o2, if b 11 = true then .pointer (some ⟨g12, 0, none⟩) else undef, undef, undef, .pointer (some ⟨w.heap.size, 0, none⟩), .int .u64 n0, .pointer (some ⟨w.heap.size + 1, 0, none⟩), .int .u64 b0, .int .u64 x, .pointer (some ⟨w.heap.size, 1, none⟩), .int .u64 n1, .pointer (some ⟨w.heap.size + 1, 1, none⟩), .int .u64 b1, .int .u64 y, .pointer (some ⟨w.heap.size, 2, none⟩), .int .u64 n2, .pointer (some ⟨w.heap.size + 1, 2, none⟩), .int .u64 b2, .int .u64 z, .pointer (some ⟨w.heap.size + 1 + 1, 1, none⟩), .int .u64 r1, .int .u64 o1, .pointer (some ⟨w.heap.size + 1 + 1, 2, none⟩), .int .u64 r2, .int .u64 o2, if b 0 = true then .agg #[.int .u64 0, .int .u64 0] else undef, if b 1 = true then .int .u64 x else undef, if b 2 = true then .pointer (some ⟨w.heap.size + 1 + 1, 0, none⟩) else undef, if b 3 = true then .int .u64 r0 else undef, if b 4 = true then .agg Va1 else undef, if b 5 = true then .int .u64 y else undef, if b 6 = true then .int .u64 o2 else undef, if b 7 = true then .agg Va2 else undef, if b 8 = true then .int .u64 z else undef, if b 9 = true then .int .u64 o1 else undef, if b 10 = true then .agg Va else undef, undef, undef, undef, undef, undef, undef, undef, undef, undef, undef, undef, undef, undef, undef, undef, undef, undef, undef, undef, undef, undef, undef, undef, undef, undef, undef, undef, undef, undef, undef, undef, undef, undef, undef, undef, undef, undef, undef, undef, undef, undef, undef, undef], []⟩) (by kernel_rfl) ?start3 ?step3 ?done3
  case start3 => exact ⟨0, Fr.refl _ _, by simp, by simp, by simp⟩
  case step3 =>
    intro i o b a w1 ho hI hb hr
    obtain ⟨g12, hF, h11, hq11, rfl⟩ := hI
    match i, ho with
    | 0, ho =>
      injection ho with ho
      subst ho
      refine wp_quiet_here (.agg #[.int .u64 0, .int .u64 0]) (quiet_run _ (fun _ _ => by kernel_rfl) rfl) (fun w2 hw2 => ?_)
      refine ⟨g12, hF.trans hw2, ?_, ?_, ?_⟩
      · intro hx
        replace hx : b 11 = true := by simpa [upd] using hx
        obtain ⟨k1', k2⟩ := h11 hx
        refine ⟨k1', (hw2.block _ (heap_lt k2) (fun x => x)).trans ?_⟩
        rw [k2]
        simp [upd]
      · simpa [upd] using hq11
      · simp [upd, Act.put]
    | 1, ho =>
      injection ho with ho
      subst ho
      have d0 : b 0 = true := hr 0 (by decide)
      simp only [d0, if_true]
      refine wp_quiet_here (.int .u64 x) ?_ (fun w2 hw2 => ?_)
      · go_big_quiet_op
        first
          | (simp [Act.put]; done)
          | exact ⟨_, fun _ _ => rfl, by simp [Act.put]⟩
      refine ⟨g12, hF.trans hw2, ?_, ?_, ?_⟩
      · intro hx
        replace hx : b 11 = true := by simpa [upd] using hx
        obtain ⟨k1', k2⟩ := h11 hx
        refine ⟨k1', (hw2.block _ (heap_lt k2) (fun x => x)).trans ?_⟩
        rw [k2]
        simp [upd]
      · simpa [upd] using hq11
      · simp [upd, Act.put, d0]
    | 2, ho =>
      injection ho with ho
      subst ho
      have d0 : b 0 = true := hr 0 (by decide)
      have d1 : b 1 = true := hr 1 (by decide)
      simp only [d0, d1, if_true]
      refine wp_quiet_here (.pointer (some ⟨w.heap.size + 1 + 1, 0, none⟩)) ?_ (fun w2 hw2 => ?_)
      · go_big_quiet_op
        first
          | (simp [Act.put]; done)
          | exact ⟨_, fun _ _ => rfl, by simp [Act.put]⟩
      refine ⟨g12, hF.trans hw2, ?_, ?_, ?_⟩
      · intro hx
        replace hx : b 11 = true := by simpa [upd] using hx
        obtain ⟨k1', k2⟩ := h11 hx
        refine ⟨k1', (hw2.block _ (heap_lt k2) (fun x => x)).trans ?_⟩
        rw [k2]
        simp [upd]
      · simpa [upd] using hq11
      · simp [upd, Act.put, d0, d1]
    | 3, ho =>
      injection ho with ho
      subst ho
      have d0 : b 0 = true := hr 0 (by decide)
      have d1 : b 1 = true := hr 1 (by decide)
      have d2 : b 2 = true := hr 2 (by decide)
      simp only [d0, d1, d2, if_true]
      refine wp_quiet_here (.int .u64 r0) (quiet_oneP 60 .u64 (.tmp 38) rfl (w.heap.size + 1 + 1) 0 rfl r0 Try.underlying60 (fun _ h => (Ar.fr (Ar.fr (Ar.of X2.out) hF (fun x => x)) h (fun x => x)).cell rfl) rfl) (fun w2 hw2 => ?_)
      refine ⟨g12, hF.trans hw2, ?_, ?_, ?_⟩
      · intro hx
        replace hx : b 11 = true := by simpa [upd] using hx
        obtain ⟨k1', k2⟩ := h11 hx
        refine ⟨k1', (hw2.block _ (heap_lt k2) (fun x => x)).trans ?_⟩
        rw [k2]
        simp [upd]
      · simpa [upd] using hq11
      · simp [upd, Act.put, d0, d1, d2]
    | 4, ho =>
      injection ho with ho
      subst ho
      have d0 : b 0 = true := hr 0 (by decide)
      have d1 : b 1 = true := hr 1 (by decide)
      have d2 : b 2 = true := hr 2 (by decide)
      have d3 : b 3 = true := hr 3 (by decide)
      simp only [d0, d1, d2, d3, if_true]
      refine wp_quiet_here (.agg Va1) ?_ (fun w2 hw2 => ?_)
      · go_big_quiet_op
        exact ⟨_, Calm.calls P1, by simp [Act.put]⟩
      refine ⟨g12, hF.trans hw2, ?_, ?_, ?_⟩
      · intro hx
        replace hx : b 11 = true := by simpa [upd] using hx
        obtain ⟨k1', k2⟩ := h11 hx
        refine ⟨k1', (hw2.block _ (heap_lt k2) (fun x => x)).trans ?_⟩
        rw [k2]
        simp [upd]
      · simpa [upd] using hq11
      · simp [upd, Act.put, d0, d1, d2, d3]
    | 5, ho =>
      injection ho with ho
      subst ho
      have d0 : b 0 = true := hr 0 (by decide)
      have d1 : b 1 = true := hr 1 (by decide)
      have d2 : b 2 = true := hr 2 (by decide)
      have d3 : b 3 = true := hr 3 (by decide)
      have d4 : b 4 = true := hr 4 (by decide)
      simp only [d0, d1, d2, d3, d4, if_true]
      refine wp_quiet_here (.int .u64 y) ?_ (fun w2 hw2 => ?_)
      · go_big_quiet_op
        first
          | (simp [Act.put]; done)
          | exact ⟨_, fun _ _ => rfl, by simp [Act.put]⟩
      refine ⟨g12, hF.trans hw2, ?_, ?_, ?_⟩
      · intro hx
        replace hx : b 11 = true := by simpa [upd] using hx
        obtain ⟨k1', k2⟩ := h11 hx
        refine ⟨k1', (hw2.block _ (heap_lt k2) (fun x => x)).trans ?_⟩
        rw [k2]
        simp [upd]
      · simpa [upd] using hq11
      · simp [upd, Act.put, d0, d1, d2, d3, d4]
    | 6, ho =>
      injection ho with ho
      subst ho
      have d0 : b 0 = true := hr 0 (by decide)
      have d1 : b 1 = true := hr 1 (by decide)
      have d2 : b 2 = true := hr 2 (by decide)
      have d3 : b 3 = true := hr 3 (by decide)
      have d4 : b 4 = true := hr 4 (by decide)
      have d5 : b 5 = true := hr 5 (by decide)
      simp only [d0, d1, d2, d3, d4, d5, if_true]
      refine wp_quiet_here (.int .u64 o2) ?_ (fun w2 hw2 => ?_)
      · go_big_quiet_op
        first
          | (simp [Act.put]; done)
          | exact ⟨_, fun _ _ => rfl, by simp [Act.put]⟩
      refine ⟨g12, hF.trans hw2, ?_, ?_, ?_⟩
      · intro hx
        replace hx : b 11 = true := by simpa [upd] using hx
        obtain ⟨k1', k2⟩ := h11 hx
        refine ⟨k1', (hw2.block _ (heap_lt k2) (fun x => x)).trans ?_⟩
        rw [k2]
        simp [upd]
      · simpa [upd] using hq11
      · simp [upd, Act.put, d0, d1, d2, d3, d4, d5]
    | 7, ho =>
      injection ho with ho
      subst ho
      have d0 : b 0 = true := hr 0 (by decide)
      have d1 : b 1 = true := hr 1 (by decide)
      have d2 : b 2 = true := hr 2 (by decide)
      have d3 : b 3 = true := hr 3 (by decide)
      have d4 : b 4 = true := hr 4 (by decide)
      have d5 : b 5 = true := hr 5 (by decide)
      have d6 : b 6 = true := hr 6 (by decide)
      simp only [d0, d1, d2, d3, d4, d5, d6, if_true]
      refine wp_quiet_here (.agg Va2) ?_ (fun w2 hw2 => ?_)
      · go_big_quiet_op
        exact ⟨_, Calm.calls P2, by simp [Act.put]⟩
      refine ⟨g12, hF.trans hw2, ?_, ?_, ?_⟩
      · intro hx
        replace hx : b 11 = true := by simpa [upd] using hx
        obtain ⟨k1', k2⟩ := h11 hx
        refine ⟨k1', (hw2.block _ (heap_lt k2) (fun x => x)).trans ?_⟩
        rw [k2]
        simp [upd]
      · simpa [upd] using hq11
      · simp [upd, Act.put, d0, d1, d2, d3, d4, d5, d6]
    | 8, ho =>
      injection ho with ho
      subst ho
      have d0 : b 0 = true := hr 0 (by decide)
      have d1 : b 1 = true := hr 1 (by decide)
      have d2 : b 2 = true := hr 2 (by decide)
      have d3 : b 3 = true := hr 3 (by decide)
      have d4 : b 4 = true := hr 4 (by decide)
      have d5 : b 5 = true := hr 5 (by decide)
      have d6 : b 6 = true := hr 6 (by decide)
      have d7 : b 7 = true := hr 7 (by decide)
      simp only [d0, d1, d2, d3, d4, d5, d6, d7, if_true]
      refine wp_quiet_here (.int .u64 z) ?_ (fun w2 hw2 => ?_)
      · go_big_quiet_op
        first
          | (simp [Act.put]; done)
          | exact ⟨_, fun _ _ => rfl, by simp [Act.put]⟩
      refine ⟨g12, hF.trans hw2, ?_, ?_, ?_⟩
      · intro hx
        replace hx : b 11 = true := by simpa [upd] using hx
        obtain ⟨k1', k2⟩ := h11 hx
        refine ⟨k1', (hw2.block _ (heap_lt k2) (fun x => x)).trans ?_⟩
        rw [k2]
        simp [upd]
      · simpa [upd] using hq11
      · simp [upd, Act.put, d0, d1, d2, d3, d4, d5, d6, d7]
    | 9, ho =>
      injection ho with ho
      subst ho
      have d0 : b 0 = true := hr 0 (by decide)
      have d1 : b 1 = true := hr 1 (by decide)
      have d2 : b 2 = true := hr 2 (by decide)
      have d3 : b 3 = true := hr 3 (by decide)
      have d4 : b 4 = true := hr 4 (by decide)
      have d5 : b 5 = true := hr 5 (by decide)
      have d6 : b 6 = true := hr 6 (by decide)
      have d7 : b 7 = true := hr 7 (by decide)
      have d8 : b 8 = true := hr 8 (by decide)
      simp only [d0, d1, d2, d3, d4, d5, d6, d7, d8, if_true]
      refine wp_quiet_here (.int .u64 o1) ?_ (fun w2 hw2 => ?_)
      · go_big_quiet_op
        first
          | (simp [Act.put]; done)
          | exact ⟨_, fun _ _ => rfl, by simp [Act.put]⟩
      refine ⟨g12, hF.trans hw2, ?_, ?_, ?_⟩
      · intro hx
        replace hx : b 11 = true := by simpa [upd] using hx
        obtain ⟨k1', k2⟩ := h11 hx
        refine ⟨k1', (hw2.block _ (heap_lt k2) (fun x => x)).trans ?_⟩
        rw [k2]
        simp [upd]
      · simpa [upd] using hq11
      · simp [upd, Act.put, d0, d1, d2, d3, d4, d5, d6, d7, d8]
    | 10, ho =>
      injection ho with ho
      subst ho
      have d0 : b 0 = true := hr 0 (by decide)
      have d1 : b 1 = true := hr 1 (by decide)
      have d2 : b 2 = true := hr 2 (by decide)
      have d3 : b 3 = true := hr 3 (by decide)
      have d4 : b 4 = true := hr 4 (by decide)
      have d5 : b 5 = true := hr 5 (by decide)
      have d6 : b 6 = true := hr 6 (by decide)
      have d7 : b 7 = true := hr 7 (by decide)
      have d8 : b 8 = true := hr 8 (by decide)
      have d9 : b 9 = true := hr 9 (by decide)
      simp only [d0, d1, d2, d3, d4, d5, d6, d7, d8, d9, if_true]
      refine wp_quiet_here (.agg Va) ?_ (fun w2 hw2 => ?_)
      · go_big_quiet_op
        exact ⟨_, Calm.calls P3, by simp [Act.put]⟩
      refine ⟨g12, hF.trans hw2, ?_, ?_, ?_⟩
      · intro hx
        replace hx : b 11 = true := by simpa [upd] using hx
        obtain ⟨k1', k2⟩ := h11 hx
        refine ⟨k1', (hw2.block _ (heap_lt k2) (fun x => x)).trans ?_⟩
        rw [k2]
        simp [upd]
      · simpa [upd] using hq11
      · simp [upd, Act.put, d0, d1, d2, d3, d4, d5, d6, d7, d8, d9]
    | 11, ho =>
      injection ho with ho
      subst ho
      have d0 : b 0 = true := hr 0 (by decide)
      have d1 : b 1 = true := hr 1 (by decide)
      have d2 : b 2 = true := hr 2 (by decide)
      have d3 : b 3 = true := hr 3 (by decide)
      have d4 : b 4 = true := hr 4 (by decide)
      have d5 : b 5 = true := hr 5 (by decide)
      have d6 : b 6 = true := hr 6 (by decide)
      have d7 : b 7 = true := hr 7 (by decide)
      have d8 : b 8 = true := hr 8 (by decide)
      have d9 : b 9 = true := hr 9 (by decide)
      have d10 : b 10 = true := hr 10 (by decide)
      simp only [d0, d1, d2, d3, d4, d5, d6, d7, d8, d9, d10, if_true]
      refine wp_alloc_any 80 rfl (#[.int .u64 0, .int .u64 0]) (fun W => by kernel_rfl) ?_
      refine ⟨w1.heap.size, hF.alloc _, ?_, ?_, ?_⟩
      · intro _
        refine ⟨hF.size, (heap_alloc_new w1 _).trans ?_⟩
        have hs : b 12 = false := by
          rcases hbs : b 12 with _ | _
          · rfl
          · rw [hq11 hbs] at hb
            cases hb
        simp [upd, hs]
      · simp [upd]
      · simp [upd, Act.put, d0, d1, d2, d3, d4, d5, d6, d7, d8, d9, d10]
    | 12, ho =>
      injection ho with ho
      subst ho
      have d0 : b 0 = true := hr 0 (by decide)
      have d1 : b 1 = true := hr 1 (by decide)
      have d2 : b 2 = true := hr 2 (by decide)
      have d3 : b 3 = true := hr 3 (by decide)
      have d4 : b 4 = true := hr 4 (by decide)
      have d5 : b 5 = true := hr 5 (by decide)
      have d6 : b 6 = true := hr 6 (by decide)
      have d7 : b 7 = true := hr 7 (by decide)
      have d8 : b 8 = true := hr 8 (by decide)
      have d9 : b 9 = true := hr 9 (by decide)
      have d10 : b 10 = true := hr 10 (by decide)
      have d11 : b 11 = true := hr 11 (by decide)
      simp only [d0, d1, d2, d3, d4, d5, d6, d7, d8, d9, d10, d11, if_true]
      obtain ⟨k1, k2⟩ := h11 d11
      rw [hb] at k2
      simp only [Bool.false_eq_true, if_false] at k2
      refine wp_store_row 80 (.tmp 12) (.tmp 46) rfl g12 (Va) rfl rfl 80 _ k2 (by rw [info64, sVa.out]) (by rw [sVa.out]; rfl) oVa.out ?_
      refine ⟨g12, hF.setRow _ (.inr k1), ?_, ?_, ?_⟩
      · intro _
        refine ⟨k1, (setRow_heap _ _ _ _ _ _ k2).trans ?_⟩
        simp [upd]
      · simp [upd, d11]
      · simp [upd, Act.put, d0, d1, d2, d3, d4, d5, d6, d7, d8, d9, d10, d11]
    | j + 13, ho => exact absurd ho (by simp)
  intro b a W4 hall hI
  obtain ⟨g12, hF, h11, hq11, rfl⟩ := hI
  have t0 : b 0 = true := hall 0 (by simp)
  have t1 : b 1 = true := hall 1 (by simp)
  have t2 : b 2 = true := hall 2 (by simp)
  have t3 : b 3 = true := hall 3 (by simp)
  have t4 : b 4 = true := hall 4 (by simp)
  have t5 : b 5 = true := hall 5 (by simp)
  have t6 : b 6 = true := hall 6 (by simp)
  have t7 : b 7 = true := hall 7 (by simp)
  have t8 : b 8 = true := hall 8 (by simp)
  have t9 : b 9 = true := hall 9 (by simp)
  have t10 : b 10 = true := hall 10 (by simp)
  have t11 : b 11 = true := hall 11 (by simp)
  have t12 : b 12 = true := hall 12 (by simp)
  simp only [t0, t1, t2, t3, t4, t5, t6, t7, t8, t9, t10, t11, t12, if_true, true_implies] at h11 hq11 ⊢
  have F4 : Hid (Fr (fun _ => False) w W4) := F2.out.trans hF
  have X4_0 := Lib.hid ((hF.block _ (heap_lt X0.out) (fun x => x)).trans X0.out)
  have X4_1 := Lib.hid ((hF.block _ (heap_lt X1.out) (fun x => x)).trans X1.out)
  have X4_2 := Lib.hid ((hF.block _ (heap_lt X2.out) (fun x => x)).trans X2.out)
  have X4_3 := Lib.hid ((hF.block _ (heap_lt X3.out) (fun x => x)).trans X3.out)
  have X4_4 := Lib.hid h11.2
  have Yg12 : w.heap.size ≤ g12 := Nat.le_trans F2.out.size h11.1
  clear hall hF h11 hq11 t0 t1 t2 t3 t4 t5 t6 t7 t8 t9 t10 t11 t12 F2
  go_upto_region 4 with (fail)
  refine wp_region_inv2 (fun b a w' => ∃ g13 : Nat, Fr (fun _ => False) W4 w' ∧ (b 14 = true → W4.heap.size ≤ g13 ∧ w'.heap[g13]? = some (.cells (if b 15 = true then Vb else #[.int .u64 0, .int .u64 0]) 80 (0, 0))) ∧ (b 15 = true → b 14 = true) ∧ a = ⟨#[.agg (vs .u64 [n0, n1, n2]), .agg (vs .u64 [b0, b1, b2]), .agg (vs .u64 [r0, r1, r2]), .pointer (some ⟨w.heap.size, 0, none⟩), .pointer (some ⟨w.heap.size + 1, 0, none⟩), .pointer (some ⟨w.heap.size + 1 + 1, 0, none⟩), .pointer (some ⟨w.heap.size + 1 + 1 + 1, 0, none⟩), .int .u64 x, .int .u64 y, .int .u64 z, .int .u64 o1, .int .u64 o2, .pointer (some ⟨g12, 0, none⟩), if b 14 = true then .pointer (some ⟨g13, 0, none⟩) else undef, undef, .pointer (some ⟨w.heap.size, 0, none⟩), .int .u64 n0, .pointer (some ⟨w.heap.size + 1, 0, none⟩), .int .u64 b0, .int .u64 x, .pointer (some ⟨w.heap.size, 1, none⟩), .int .u64 n1, .pointer (some ⟨w.heap.size + 1, 1, none⟩), .int .u64 b1, .int .u64 y, .pointer (some ⟨w.heap.size, 2, none⟩), .int .u64 n2, .pointer (some ⟨w.heap.size + 1, 2, none⟩), .int .u64 b2, .int .u64 z, .pointer (some ⟨w.heap.size + 1 + 1, 1, none⟩), .int .u64 r1, .int .u64 o1, .pointer (some ⟨w.heap.size + 1 + 1, 2, none⟩), .int .u64 r2, .int .u64 o2, .agg #[.int .u64 0, .int .u64 0], .int .u64 x, .pointer (some ⟨w.heap.size + 1 + 1, 0, none⟩), .int .u64 r0, .agg Va1, .int .u64 y, .int .u64 o2, .agg Va2, .int .u64 z, .int .u64 o1, .agg Va, if b 0 = true then .agg (Va) else undef, if b 1 = true then .int .u64 sa else undef, if b 2 = true then .agg #[.int .u64 0, .int .u64 sa] else undef, if b 3 = true then .int .u64 x else undef, if b 4 = true then .pointer (some ⟨w.heap.size + 1 + 1, 1, none⟩) else undef, if b 5 = true then .int .u64 r1 else undef, if b 6 = true then .agg Vc1 else undef, if b 7 = true then .int .u64 y else undef, if b 8 = true then .pointer (some ⟨w.heap.size + 1 + 1, 0, none⟩) else undef, if b 9 = true then .int .u64 r0 else undef, if b 10 = true then .agg Vc2 else undef, if b 11 = true then .int .u64 z else undef, if b 12 = true then .int .u64 o2 else undef, if b 13 = true then .agg Vb else undef, undef, undef, undef, undef, undef, undef, undef, undef, undef, undef, undef, undef, undef, undef, undef, undef, undef, undef, undef, undef, undef, undef, undef, undef, undef, undef, undef, undef, undef], []⟩) (by kernel_rfl) (by kernel_rfl) ?start4 ?step4 ?done4
  case start4 => exact ⟨0, ⟨rfl, rfl, rfl, Nat.le_refl _, fun _ _ _ => rfl⟩, by simp, by simp, by simp⟩
  case step4 =>
    intro i o b a w1 ho hI hb hr hc
    obtain ⟨g13, hF, h14, hq14, rfl⟩ := hI
    match i, ho with
    | 0, ho =>
      injection ho with ho
      subst ho
      refine wp_quiet_here _ (quiet_load 80 (.tmp 12) rfl (g12) rfl 80 _ (0, 0) _ (fun _ h => (Fr.block h _ (Nat.lt_of_lt_of_le (heap_lt X4_4.out) hF.size) (fun x => x)).trans ((hF.block _ (heap_lt X4_4.out) (fun x => x)).trans X4_4.out)) Try.underlying80 rfl (by rw [info64, sVa.out]) rfl) (fun w2 hw2 => ?_)
      refine ⟨g13, hF.trans hw2, ?_, ?_, ?_⟩
      · intro hx
        replace hx : b 14 = true := by simpa [upd] using hx
        obtain ⟨k1', k2⟩ := h14 hx
        refine ⟨k1', (hw2.block _ (heap_lt k2) (fun x => x)).trans ?_⟩
        rw [k2]
        simp [upd]
      · simpa [upd] using hq14
      · simp [upd, Act.put]
    | 1, ho =>
      injection ho with ho
      subst ho
      simp [Region.binds] at hr
      have d0 : b 0 = true := by simp only [hr]
      simp only [hr, if_true]
      refine wp_quiet_here (.int .u64 sa) ?_ (fun w2 hw2 => ?_)
      · go_big_quiet_op
        exact ⟨_, Calm.calls P4, by simp [Act.put]⟩
      refine ⟨g13, hF.trans hw2, ?_, ?_, ?_⟩
      · intro hx
        replace hx : b 14 = true := by simpa [upd] using hx
        obtain ⟨k1', k2⟩ := h14 hx
        refine ⟨k1', (hw2.block _ (heap_lt k2) (fun x => x)).trans ?_⟩
        rw [k2]
        simp [upd]
      · simpa [upd] using hq14
      · simp [upd, Act.put, hr]
    | 2, ho =>
      injection ho with ho
      subst ho
      simp [Region.binds] at hr
      have d1 : b 1 = true := by simp only [hr]
      simp only [hr, if_true]
      refine wp_quiet_here (.agg #[.int .u64 0, .int .u64 sa]) (quiet_run _ (fun _ _ => by kernel_rfl) rfl) (fun w2 hw2 => ?_)
      refine ⟨g13, hF.trans hw2, ?_, ?_, ?_⟩
      · intro hx
        replace hx : b 14 = true := by simpa [upd] using hx
        obtain ⟨k1', k2⟩ := h14 hx
        refine ⟨k1', (hw2.block _ (heap_lt k2) (fun x => x)).trans ?_⟩
        rw [k2]
        simp [upd]
      · simpa [upd] using hq14
      · simp [upd, Act.put, hr]
    | 3, ho =>
      injection ho with ho
      subst ho
      refine wp_quiet_here (.int .u64 x) (BigFrame.quiet_move _ rfl rfl) (fun w2 hw2 => ?_)
      refine ⟨g13, hF.trans hw2, ?_, ?_, ?_⟩
      · intro hx
        replace hx : b 14 = true := by simpa [upd] using hx
        obtain ⟨k1', k2⟩ := h14 hx
        refine ⟨k1', (hw2.block _ (heap_lt k2) (fun x => x)).trans ?_⟩
        rw [k2]
        simp [upd]
      · simpa [upd] using hq14
      · simp [upd, Act.put]
    | 4, ho =>
      injection ho with ho
      subst ho
      refine wp_quiet_here (.pointer (some ⟨w.heap.size + 1 + 1, 1, none⟩)) ?_ (fun w2 hw2 => ?_)
      · simp only [Bool.false_eq_true] 
        go_big_quiet_op
        first
          | (simp [Act.put]; done)
          | exact ⟨_, fun _ _ => rfl, by simp [Act.put]⟩
      refine ⟨g13, hF.trans hw2, ?_, ?_, ?_⟩
      · intro hx
        replace hx : b 14 = true := by simpa [upd] using hx
        obtain ⟨k1', k2⟩ := h14 hx
        refine ⟨k1', (hw2.block _ (heap_lt k2) (fun x => x)).trans ?_⟩
        rw [k2]
        simp [upd]
      · simpa [upd] using hq14
      · simp [upd, Act.put]
    | 5, ho =>
      injection ho with ho
      subst ho
      simp [Region.binds] at hr
      have d4 : b 4 = true := by simp only [hr]
      simp only [hr, if_true]
      refine wp_quiet_here (.int .u64 r1) (quiet_oneP 60 .u64 (.tmp 51) rfl (w.heap.size + 1 + 1) 1 rfl r1 Try.underlying60 (fun _ h => (Ar.fr (Ar.fr (Ar.of X4_2.out) hF (fun x => x)) h (fun x => x)).cell rfl) rfl) (fun w2 hw2 => ?_)
      refine ⟨g13, hF.trans hw2, ?_, ?_, ?_⟩
      · intro hx
        replace hx : b 14 = true := by simpa [upd] using hx
        obtain ⟨k1', k2⟩ := h14 hx
        refine ⟨k1', (hw2.block _ (heap_lt k2) (fun x => x)).trans ?_⟩
        rw [k2]
        simp [upd]
      · simpa [upd] using hq14
      · simp [upd, Act.put, hr]
    | 6, ho =>
      injection ho with ho
      subst ho
      simp [Region.binds] at hr
      have d2 : b 2 = true := by simp only [hr]
      have d3 : b 3 = true := by simp only [hr]
      have d5 : b 5 = true := by simp only [hr]
      simp only [hr, if_true]
      refine wp_quiet_here (.agg Vc1) ?_ (fun w2 hw2 => ?_)
      · go_big_quiet_op
        exact ⟨_, Calm.calls P5, by simp [Act.put]⟩
      refine ⟨g13, hF.trans hw2, ?_, ?_, ?_⟩
      · intro hx
        replace hx : b 14 = true := by simpa [upd] using hx
        obtain ⟨k1', k2⟩ := h14 hx
        refine ⟨k1', (hw2.block _ (heap_lt k2) (fun x => x)).trans ?_⟩
        rw [k2]
        simp [upd]
      · simpa [upd] using hq14
      · simp [upd, Act.put, hr]
    | 7, ho =>
      injection ho with ho
      subst ho
      refine wp_quiet_here (.int .u64 y) (BigFrame.quiet_move _ rfl rfl) (fun w2 hw2 => ?_)
      refine ⟨g13, hF.trans hw2, ?_, ?_, ?_⟩
      · intro hx
        replace hx : b 14 = true := by simpa [upd] using hx
        obtain ⟨k1', k2⟩ := h14 hx
        refine ⟨k1', (hw2.block _ (heap_lt k2) (fun x => x)).trans ?_⟩
        rw [k2]
        simp [upd]
      · simpa [upd] using hq14
      · simp [upd, Act.put]
    | 8, ho =>
      injection ho with ho
      subst ho
      refine wp_quiet_here (.pointer (some ⟨w.heap.size + 1 + 1, 0, none⟩)) ?_ (fun w2 hw2 => ?_)
      · simp only [Bool.false_eq_true] 
        go_big_quiet_op
        first
          | (simp [Act.put]; done)
          | exact ⟨_, fun _ _ => rfl, by simp [Act.put]⟩
      refine ⟨g13, hF.trans hw2, ?_, ?_, ?_⟩
      · intro hx
        replace hx : b 14 = true := by simpa [upd] using hx
        obtain ⟨k1', k2⟩ := h14 hx
        refine ⟨k1', (hw2.block _ (heap_lt k2) (fun x => x)).trans ?_⟩
        rw [k2]
        simp [upd]
      · simpa [upd] using hq14
      · simp [upd, Act.put]
    | 9, ho =>
      injection ho with ho
      subst ho
      simp [Region.binds] at hr
      have d8 : b 8 = true := by simp only [hr]
      simp only [hr, if_true]
      refine wp_quiet_here (.int .u64 r0) (quiet_oneP 60 .u64 (.tmp 55) rfl (w.heap.size + 1 + 1) 0 rfl r0 Try.underlying60 (fun _ h => (Ar.fr (Ar.fr (Ar.of X4_2.out) hF (fun x => x)) h (fun x => x)).cell rfl) rfl) (fun w2 hw2 => ?_)
      refine ⟨g13, hF.trans hw2, ?_, ?_, ?_⟩
      · intro hx
        replace hx : b 14 = true := by simpa [upd] using hx
        obtain ⟨k1', k2⟩ := h14 hx
        refine ⟨k1', (hw2.block _ (heap_lt k2) (fun x => x)).trans ?_⟩
        rw [k2]
        simp [upd]
      · simpa [upd] using hq14
      · simp [upd, Act.put, hr]
    | 10, ho =>
      injection ho with ho
      subst ho
      simp [Region.binds] at hr
      have d6 : b 6 = true := by simp only [hr]
      have d7 : b 7 = true := by simp only [hr]
      have d9 : b 9 = true := by simp only [hr]
      simp only [hr, if_true]
      refine wp_quiet_here (.agg Vc2) ?_ (fun w2 hw2 => ?_)
      · go_big_quiet_op
        exact ⟨_, Calm.calls P6, by simp [Act.put]⟩
      refine ⟨g13, hF.trans hw2, ?_, ?_, ?_⟩
      · intro hx
        replace hx : b 14 = true := by simpa [upd] using hx
        obtain ⟨k1', k2⟩ := h14 hx
        refine ⟨k1', (hw2.block _ (heap_lt k2) (fun x => x)).trans ?_⟩
        rw [k2]
        simp [upd]
      · simpa [upd] using hq14
      · simp [upd, Act.put, hr]
    | 11, ho =>
      injection ho with ho
      subst ho
      refine wp_quiet_here (.int .u64 z) (BigFrame.quiet_move _ rfl rfl) (fun w2 hw2 => ?_)
      refine ⟨g13, hF.trans hw2, ?_, ?_, ?_⟩
      · intro hx
        replace hx : b 14 = true := by simpa [upd] using hx
        obtain ⟨k1', k2⟩ := h14 hx
        refine ⟨k1', (hw2.block _ (heap_lt k2) (fun x => x)).trans ?_⟩
        rw [k2]
        simp [upd]
      · simpa [upd] using hq14
      · simp [upd, Act.put]
    | 12, ho =>
      injection ho with ho
      subst ho
      refine wp_quiet_here (.int .u64 o2) (BigFrame.quiet_move _ rfl rfl) (fun w2 hw2 => ?_)
      refine ⟨g13, hF.trans hw2, ?_, ?_, ?_⟩
      · intro hx
        replace hx : b 14 = true := by simpa [upd] using hx
        obtain ⟨k1', k2⟩ := h14 hx
        refine ⟨k1', (hw2.block _ (heap_lt k2) (fun x => x)).trans ?_⟩
        rw [k2]
        simp [upd]
      · simpa [upd] using hq14
      · simp [upd, Act.put]
    | 13, ho =>
      injection ho with ho
      subst ho
      simp [Region.binds] at hr
      have d10 : b 10 = true := by simp only [hr]
      have d11 : b 11 = true := by simp only [hr]
      have d12 : b 12 = true := by simp only [hr]
      simp only [hr, if_true]
      refine wp_quiet_here (.agg Vb) ?_ (fun w2 hw2 => ?_)
      · go_big_quiet_op
        exact ⟨_, Calm.calls P7, by simp [Act.put]⟩
      refine ⟨g13, hF.trans hw2, ?_, ?_, ?_⟩
      · intro hx
        replace hx : b 14 = true := by simpa [upd] using hx
        obtain ⟨k1', k2⟩ := h14 hx
        refine ⟨k1', (hw2.block _ (heap_lt k2) (fun x => x)).trans ?_⟩
        rw [k2]
        simp [upd]
      · simpa [upd] using hq14
      · simp [upd, Act.put, hr]
    | 14, ho =>
      injection ho with ho
      subst ho
      refine wp_alloc_any 80 rfl (#[.int .u64 0, .int .u64 0]) (fun W => by kernel_rfl) ?_
      refine ⟨w1.heap.size, hF.alloc _, ?_, ?_, ?_⟩
      · intro _
        refine ⟨hF.size, (heap_alloc_new w1 _).trans ?_⟩
        have hs : b 15 = false := by
          rcases hbs : b 15 with _ | _
          · rfl
          · rw [hq14 hbs] at hb
            cases hb
        simp [upd, hs]
      · simp [upd]
      · simp [upd, Act.put]
    | 15, ho =>
      injection ho with ho
      subst ho
      simp [Region.binds] at hr
      have d13 : b 13 = true := by simp only [hr]
      have d14 : b 14 = true := by simp only [hr]
      simp only [hr, if_true]
      obtain ⟨k1, k2⟩ := h14 d14
      rw [hb] at k2
      simp only [Bool.false_eq_true, if_false] at k2
      refine wp_store_row 80 (.tmp 13) (.tmp 60) rfl g13 (Vb) rfl rfl 80 _ k2 (by rw [info64, sVb.out]) (by rw [sVb.out]; rfl) oVb.out ?_
      refine ⟨g13, hF.setRow _ (.inr k1), ?_, ?_, ?_⟩
      · intro _
        refine ⟨k1, (setRow_heap _ _ _ _ _ _ k2).trans ?_⟩
        simp [upd]
      · simp [upd, d14]
      · simp [upd, Act.put, hr]
    | j + 16, ho => exact absurd ho (by simp)
  intro b a W5 hall hI
  obtain ⟨g13, hF, h14, hq14, rfl⟩ := hI
  have t0 : b 0 = true := hall 0 (by simp)
  have t1 : b 1 = true := hall 1 (by simp)
  have t2 : b 2 = true := hall 2 (by simp)
  have t3 : b 3 = true := hall 3 (by simp)
  have t4 : b 4 = true := hall 4 (by simp)
  have t5 : b 5 = true := hall 5 (by simp)
  have t6 : b 6 = true := hall 6 (by simp)
  have t7 : b 7 = true := hall 7 (by simp)
  have t8 : b 8 = true := hall 8 (by simp)
  have t9 : b 9 = true := hall 9 (by simp)
  have t10 : b 10 = true := hall 10 (by simp)
  have t11 : b 11 = true := hall 11 (by simp)
  have t12 : b 12 = true := hall 12 (by simp)
  have t13 : b 13 = true := hall 13 (by simp)
  have t14 : b 14 = true := hall 14 (by simp)
  have t15 : b 15 = true := hall 15 (by simp)
  simp only [t0, t1, t2, t3, t4, t5, t6, t7, t8, t9, t10, t11, t12, t13, t14, t15, if_true, true_implies] at h14 hq14 ⊢
  have F5 : Hid (Fr (fun _ => False) w W5) := F4.out.trans hF
  have X5_0 := Lib.hid ((hF.block _ (heap_lt X4_0.out) (fun x => x)).trans X4_0.out)
  have X5_1 := Lib.hid ((hF.block _ (heap_lt X4_1.out) (fun x => x)).trans X4_1.out)
  have X5_2 := Lib.hid ((hF.block _ (heap_lt X4_2.out) (fun x => x)).trans X4_2.out)
  have X5_3 := Lib.hid ((hF.block _ (heap_lt X4_3.out) (fun x => x)).trans X4_3.out)
  have X5_4 := Lib.hid ((hF.block _ (heap_lt X4_4.out) (fun x => x)).trans X4_4.out)
  have X5_5 := Lib.hid h14.2
  have Yg13 : w.heap.size ≤ g13 := Nat.le_trans F4.out.size h14.1
  clear hall hF h14 hq14 t0 t1 t2 t3 t4 t5 t6 t7 t8 t9 t10 t11 t12 t13 t14 t15 X4_0 X4_1 X4_2 X4_3 X4_4 F4
  go_upto_region 5 with (fail)
  refine wp_region_inv2 (fun b a w' => ∃ g14 : Nat, Fr (fun _ => False) W5 w' ∧ (b 15 = true → W5.heap.size ≤ g14 ∧ w'.heap[g14]? = some (.cells (if b 16 = true then Vc else #[.int .u64 0, .int .u64 0]) 80 (0, 0))) ∧ (b 16 = true → b 15 = true) ∧ a = ⟨#[.agg (vs .u64 [n0, n1, n2]), .agg (vs .u64 [b0, b1, b2]), .agg (vs .u64 [r0, r1, r2]), .pointer (some ⟨w.heap.size, 0, none⟩), .pointer (some ⟨w.heap.size + 1, 0, none⟩), .pointer (some ⟨w.heap.size + 1 + 1, 0, none⟩), .pointer (some ⟨w.heap.size + 1 + 1 + 1, 0, none⟩), .int .u64 x, .int .u64 y, .int .u64 z, .int .u64 o1, .int .u64 o2, .pointer (some ⟨g12, 0, none⟩), .pointer (some ⟨g13, 0, none⟩), if b 15 = true then .pointer (some ⟨g14, 0, none⟩) else undef, .pointer (some ⟨w.heap.size, 0, none⟩), .int .u64 n0, .pointer (some ⟨w.heap.size + 1, 0, none⟩), .int .u64 b0, .int .u64 x, .pointer (some ⟨w.heap.size, 1, none⟩), .int .u64 n1, .pointer (some ⟨w.heap.size + 1, 1, none⟩), .int .u64 b1, .int .u64 y, .pointer (some ⟨w.heap.size, 2, none⟩), .int .u64 n2, .pointer (some ⟨w.heap.size + 1, 2, none⟩), .int .u64 b2, .int .u64 z, .pointer (some ⟨w.heap.size + 1 + 1, 1, none⟩), .int .u64 r1, .int .u64 o1, .pointer (some ⟨w.heap.size + 1 + 1, 2, none⟩), .int .u64 r2, .int .u64 o2, .agg #[.int .u64 0, .int .u64 0], .int .u64 x, .pointer (some ⟨w.heap.size + 1 + 1, 0, none⟩), .int .u64 r0, .agg Va1, .int .u64 y, .int .u64 o2, .agg Va2, .int .u64 z, .int .u64 o1, .agg Va, .agg (Va), .int .u64 sa, .agg #[.int .u64 0, .int .u64 sa], .int .u64 x, .pointer (some ⟨w.heap.size + 1 + 1, 1, none⟩), .int .u64 r1, .agg Vc1, .int .u64 y, .pointer (some ⟨w.heap.size + 1 + 1, 0, none⟩), .int .u64 r0, .agg Vc2, .int .u64 z, .int .u64 o2, .agg Vb, if b 0 = true then .agg (Vb) else undef, if b 1 = true then .int .u64 sb else undef, if b 2 = true then .agg #[.int .u64 0, .int .u64 sb] else undef, if b 3 = true then .int .u64 x else undef, if b 4 = true then .pointer (some ⟨w.heap.size + 1 + 1, 2, none⟩) else undef, if b 5 = true then .int .u64 r2 else undef, if b 6 = true then .agg Vd1 else undef, if b 7 = true then .int .u64 y else undef, if b 8 = true then .pointer (some ⟨w.heap.size + 1 + 1, 1, none⟩) else undef, if b 9 = true then .int .u64 r1 else undef, if b 10 = true then .agg Vd2 else undef, if b 11 = true then .int .u64 z else undef, if b 12 = true then .pointer (some ⟨w.heap.size + 1 + 1, 0, none⟩) else undef, if b 13 = true then .int .u64 r0 else undef, if b 14 = true then .agg Vc else undef, undef, undef, undef, undef, undef, undef, undef, undef, undef, undef, undef, undef, undef, undef], []⟩) (by kernel_rfl) (by kernel_rfl) ?start5 ?step5 ?done5
  case start5 => exact ⟨0, ⟨rfl, rfl, rfl, Nat.le_refl _, fun _ _ _ => rfl⟩, by simp, by simp, by simp⟩
  case step5 =>
    intro i o b a w1 ho hI hb hr hc
    obtain ⟨g14, hF, h15, hq15, rfl⟩ := hI
    match i, ho with
    | 0, ho =>
      injection ho with ho
      subst ho
      refine wp_quiet_here _ (quiet_load 80 (.tmp 13) rfl (g13) rfl 80 _ (0, 0) _ (fun _ h => (Fr.block h _ (Nat.lt_of_lt_of_le (heap_lt X5_5.out) hF.size) (fun x => x)).trans ((hF.block _ (heap_lt X5_5.out) (fun x => x)).trans X5_5.out)) Try.underlying80 rfl (by rw [info64, sVb.out]) rfl) (fun w2 hw2 => ?_)
      refine ⟨g14, hF.trans hw2, ?_, ?_, ?_⟩
      · intro hx
        replace hx : b 15 = true := by simpa [upd] using hx
        obtain ⟨k1', k2⟩ := h15 hx
        refine ⟨k1', (hw2.block _ (heap_lt k2) (fun x => x)).trans ?_⟩
        rw [k2]
        simp [upd]
      · simpa [upd] using hq15
      · simp [upd, Act.put]
    | 1, ho =>
      injection ho with ho
      subst ho
      simp [Region.binds] at hr
      have d0 : b 0 = true := by simp only [hr]
      simp only [hr, if_true]
      refine wp_quiet_here (.int .u64 sb) ?_ (fun w2 hw2 => ?_)
      · go_big_quiet_op
        exact ⟨_, Calm.calls P8, by simp [Act.put]⟩
      refine ⟨g14, hF.trans hw2, ?_, ?_, ?_⟩
      · intro hx
        replace hx : b 15 = true := by simpa [upd] using hx
        obtain ⟨k1', k2⟩ := h15 hx
        refine ⟨k1', (hw2.block _ (heap_lt k2) (fun x => x)).trans ?_⟩
        rw [k2]
        simp [upd]
      · simpa [upd] using hq15
      · simp [upd, Act.put, hr]
    | 2, ho =>
      injection ho with ho
      subst ho
      simp [Region.binds] at hr
      have d1 : b 1 = true := by simp only [hr]
      simp only [hr, if_true]
      refine wp_quiet_here (.agg #[.int .u64 0, .int .u64 sb]) (quiet_run _ (fun _ _ => by kernel_rfl) rfl) (fun w2 hw2 => ?_)
      refine ⟨g14, hF.trans hw2, ?_, ?_, ?_⟩
      · intro hx
        replace hx : b 15 = true := by simpa [upd] using hx
        obtain ⟨k1', k2⟩ := h15 hx
        refine ⟨k1', (hw2.block _ (heap_lt k2) (fun x => x)).trans ?_⟩
        rw [k2]
        simp [upd]
      · simpa [upd] using hq15
      · simp [upd, Act.put, hr]
    | 3, ho =>
      injection ho with ho
      subst ho
      refine wp_quiet_here (.int .u64 x) (BigFrame.quiet_move _ rfl rfl) (fun w2 hw2 => ?_)
      refine ⟨g14, hF.trans hw2, ?_, ?_, ?_⟩
      · intro hx
        replace hx : b 15 = true := by simpa [upd] using hx
        obtain ⟨k1', k2⟩ := h15 hx
        refine ⟨k1', (hw2.block _ (heap_lt k2) (fun x => x)).trans ?_⟩
        rw [k2]
        simp [upd]
      · simpa [upd] using hq15
      · simp [upd, Act.put]
    | 4, ho =>
      injection ho with ho
      subst ho
      refine wp_quiet_here (.pointer (some ⟨w.heap.size + 1 + 1, 2, none⟩)) ?_ (fun w2 hw2 => ?_)
      · simp only [Bool.false_eq_true] 
        go_big_quiet_op
        first
          | (simp [Act.put]; done)
          | exact ⟨_, fun _ _ => rfl, by simp [Act.put]⟩
      refine ⟨g14, hF.trans hw2, ?_, ?_, ?_⟩
      · intro hx
        replace hx : b 15 = true := by simpa [upd] using hx
        obtain ⟨k1', k2⟩ := h15 hx
        refine ⟨k1', (hw2.block _ (heap_lt k2) (fun x => x)).trans ?_⟩
        rw [k2]
        simp [upd]
      · simpa [upd] using hq15
      · simp [upd, Act.put]
    | 5, ho =>
      injection ho with ho
      subst ho
      simp [Region.binds] at hr
      have d4 : b 4 = true := by simp only [hr]
      simp only [hr, if_true]
      refine wp_quiet_here (.int .u64 r2) (quiet_oneP 60 .u64 (.tmp 65) rfl (w.heap.size + 1 + 1) 2 rfl r2 Try.underlying60 (fun _ h => (Ar.fr (Ar.fr (Ar.of X5_2.out) hF (fun x => x)) h (fun x => x)).cell rfl) rfl) (fun w2 hw2 => ?_)
      refine ⟨g14, hF.trans hw2, ?_, ?_, ?_⟩
      · intro hx
        replace hx : b 15 = true := by simpa [upd] using hx
        obtain ⟨k1', k2⟩ := h15 hx
        refine ⟨k1', (hw2.block _ (heap_lt k2) (fun x => x)).trans ?_⟩
        rw [k2]
        simp [upd]
      · simpa [upd] using hq15
      · simp [upd, Act.put, hr]
    | 6, ho =>
      injection ho with ho
      subst ho
      simp [Region.binds] at hr
      have d2 : b 2 = true := by simp only [hr]
      have d3 : b 3 = true := by simp only [hr]
      have d5 : b 5 = true := by simp only [hr]
      simp only [hr, if_true]
      refine wp_quiet_here (.agg Vd1) ?_ (fun w2 hw2 => ?_)
      · go_big_quiet_op
        exact ⟨_, Calm.calls P9, by simp [Act.put]⟩
      refine ⟨g14, hF.trans hw2, ?_, ?_, ?_⟩
      · intro hx
        replace hx : b 15 = true := by simpa [upd] using hx
        obtain ⟨k1', k2⟩ := h15 hx
        refine ⟨k1', (hw2.block _ (heap_lt k2) (fun x => x)).trans ?_⟩
        rw [k2]
        simp [upd]
      · simpa [upd] using hq15
      · simp [upd, Act.put, hr]
    | 7, ho =>
      injection ho with ho
      subst ho
      refine wp_quiet_here (.int .u64 y) (BigFrame.quiet_move _ rfl rfl) (fun w2 hw2 => ?_)
      refine ⟨g14, hF.trans hw2, ?_, ?_, ?_⟩
      · intro hx
        replace hx : b 15 = true := by simpa [upd] using hx
        obtain ⟨k1', k2⟩ := h15 hx
        refine ⟨k1', (hw2.block _ (heap_lt k2) (fun x => x)).trans ?_⟩
        rw [k2]
        simp [upd]
      · simpa [upd] using hq15
      · simp [upd, Act.put]
    | 8, ho =>
      injection ho with ho
      subst ho
      refine wp_quiet_here (.pointer (some ⟨w.heap.size + 1 + 1, 1, none⟩)) ?_ (fun w2 hw2 => ?_)
      · simp only [Bool.false_eq_true] 
        go_big_quiet_op
        first
          | (simp [Act.put]; done)
          | exact ⟨_, fun _ _ => rfl, by simp [Act.put]⟩
      refine ⟨g14, hF.trans hw2, ?_, ?_, ?_⟩
      · intro hx
        replace hx : b 15 = true := by simpa [upd] using hx
        obtain ⟨k1', k2⟩ := h15 hx
        refine ⟨k1', (hw2.block _ (heap_lt k2) (fun x => x)).trans ?_⟩
        rw [k2]
        simp [upd]
      · simpa [upd] using hq15
      · simp [upd, Act.put]
    | 9, ho =>
      injection ho with ho
      subst ho
      simp [Region.binds] at hr
      have d8 : b 8 = true := by simp only [hr]
      simp only [hr, if_true]
      refine wp_quiet_here (.int .u64 r1) (quiet_oneP 60 .u64 (.tmp 69) rfl (w.heap.size + 1 + 1) 1 rfl r1 Try.underlying60 (fun _ h => (Ar.fr (Ar.fr (Ar.of X5_2.out) hF (fun x => x)) h (fun x => x)).cell rfl) rfl) (fun w2 hw2 => ?_)
      refine ⟨g14, hF.trans hw2, ?_, ?_, ?_⟩
      · intro hx
        replace hx : b 15 = true := by simpa [upd] using hx
        obtain ⟨k1', k2⟩ := h15 hx
        refine ⟨k1', (hw2.block _ (heap_lt k2) (fun x => x)).trans ?_⟩
        rw [k2]
        simp [upd]
      · simpa [upd] using hq15
      · simp [upd, Act.put, hr]
    | 10, ho =>
      injection ho with ho
      subst ho
      simp [Region.binds] at hr
      have d6 : b 6 = true := by simp only [hr]
      have d7 : b 7 = true := by simp only [hr]
      have d9 : b 9 = true := by simp only [hr]
      simp only [hr, if_true]
      refine wp_quiet_here (.agg Vd2) ?_ (fun w2 hw2 => ?_)
      · go_big_quiet_op
        exact ⟨_, Calm.calls P10, by simp [Act.put]⟩
      refine ⟨g14, hF.trans hw2, ?_, ?_, ?_⟩
      · intro hx
        replace hx : b 15 = true := by simpa [upd] using hx
        obtain ⟨k1', k2⟩ := h15 hx
        refine ⟨k1', (hw2.block _ (heap_lt k2) (fun x => x)).trans ?_⟩
        rw [k2]
        simp [upd]
      · simpa [upd] using hq15
      · simp [upd, Act.put, hr]
    | 11, ho =>
      injection ho with ho
      subst ho
      refine wp_quiet_here (.int .u64 z) (BigFrame.quiet_move _ rfl rfl) (fun w2 hw2 => ?_)
      refine ⟨g14, hF.trans hw2, ?_, ?_, ?_⟩
      · intro hx
        replace hx : b 15 = true := by simpa [upd] using hx
        obtain ⟨k1', k2⟩ := h15 hx
        refine ⟨k1', (hw2.block _ (heap_lt k2) (fun x => x)).trans ?_⟩
        rw [k2]
        simp [upd]
      · simpa [upd] using hq15
      · simp [upd, Act.put]
    | 12, ho =>
      injection ho with ho
      subst ho
      refine wp_quiet_here (.pointer (some ⟨w.heap.size + 1 + 1, 0, none⟩)) ?_ (fun w2 hw2 => ?_)
      · simp only [Bool.false_eq_true] 
        go_big_quiet_op
        first
          | (simp [Act.put]; done)
          | exact ⟨_, fun _ _ => rfl, by simp [Act.put]⟩
      refine ⟨g14, hF.trans hw2, ?_, ?_, ?_⟩
      · intro hx
        replace hx : b 15 = true := by simpa [upd] using hx
        obtain ⟨k1', k2⟩ := h15 hx
        refine ⟨k1', (hw2.block _ (heap_lt k2) (fun x => x)).trans ?_⟩
        rw [k2]
        simp [upd]
      · simpa [upd] using hq15
      · simp [upd, Act.put]
    | 13, ho =>
      injection ho with ho
      subst ho
      simp [Region.binds] at hr
      have d12 : b 12 = true := by simp only [hr]
      simp only [hr, if_true]
      refine wp_quiet_here (.int .u64 r0) (quiet_oneP 60 .u64 (.tmp 73) rfl (w.heap.size + 1 + 1) 0 rfl r0 Try.underlying60 (fun _ h => (Ar.fr (Ar.fr (Ar.of X5_2.out) hF (fun x => x)) h (fun x => x)).cell rfl) rfl) (fun w2 hw2 => ?_)
      refine ⟨g14, hF.trans hw2, ?_, ?_, ?_⟩
      · intro hx
        replace hx : b 15 = true := by simpa [upd] using hx
        obtain ⟨k1', k2⟩ := h15 hx
        refine ⟨k1', (hw2.block _ (heap_lt k2) (fun x => x)).trans ?_⟩
        rw [k2]
        simp [upd]
      · simpa [upd] using hq15
      · simp [upd, Act.put, hr]
    | 14, ho =>
      injection ho with ho
      subst ho
      simp [Region.binds] at hr
      have d10 : b 10 = true := by simp only [hr]
      have d11 : b 11 = true := by simp only [hr]
      have d13 : b 13 = true := by simp only [hr]
      simp only [hr, if_true]
      refine wp_quiet_here (.agg Vc) ?_ (fun w2 hw2 => ?_)
      · go_big_quiet_op
        exact ⟨_, Calm.calls P11, by simp [Act.put]⟩
      refine ⟨g14, hF.trans hw2, ?_, ?_, ?_⟩
      · intro hx
        replace hx : b 15 = true := by simpa [upd] using hx
        obtain ⟨k1', k2⟩ := h15 hx
        refine ⟨k1', (hw2.block _ (heap_lt k2) (fun x => x)).trans ?_⟩
        rw [k2]
        simp [upd]
      · simpa [upd] using hq15
      · simp [upd, Act.put, hr]
    | 15, ho =>
      injection ho with ho
      subst ho
      refine wp_alloc_any 80 rfl (#[.int .u64 0, .int .u64 0]) (fun W => by kernel_rfl) ?_
      refine ⟨w1.heap.size, hF.alloc _, ?_, ?_, ?_⟩
      · intro _
        refine ⟨hF.size, (heap_alloc_new w1 _).trans ?_⟩
        have hs : b 16 = false := by
          rcases hbs : b 16 with _ | _
          · rfl
          · rw [hq15 hbs] at hb
            cases hb
        simp [upd, hs]
      · simp [upd]
      · simp [upd, Act.put]
    | 16, ho =>
      injection ho with ho
      subst ho
      simp [Region.binds] at hr
      have d14 : b 14 = true := by simp only [hr]
      have d15 : b 15 = true := by simp only [hr]
      simp only [hr, if_true]
      obtain ⟨k1, k2⟩ := h15 d15
      rw [hb] at k2
      simp only [Bool.false_eq_true, if_false] at k2
      refine wp_store_row 80 (.tmp 14) (.tmp 75) rfl g14 (Vc) rfl rfl 80 _ k2 (by rw [info64, sVc.out]) (by rw [sVc.out]; rfl) oVc.out ?_
      refine ⟨g14, hF.setRow _ (.inr k1), ?_, ?_, ?_⟩
      · intro _
        refine ⟨k1, (setRow_heap _ _ _ _ _ _ k2).trans ?_⟩
        simp [upd]
      · simp [upd, d15]
      · simp [upd, Act.put, hr]
    | j + 17, ho => exact absurd ho (by simp)
  intro b a W6 hall hI
  obtain ⟨g14, hF, h15, hq15, rfl⟩ := hI
  have t0 : b 0 = true := hall 0 (by simp)
  have t1 : b 1 = true := hall 1 (by simp)
  have t2 : b 2 = true := hall 2 (by simp)
  have t3 : b 3 = true := hall 3 (by simp)
  have t4 : b 4 = true := hall 4 (by simp)
  have t5 : b 5 = true := hall 5 (by simp)
  have t6 : b 6 = true := hall 6 (by simp)
  have t7 : b 7 = true := hall 7 (by simp)
  have t8 : b 8 = true := hall 8 (by simp)
  have t9 : b 9 = true := hall 9 (by simp)
  have t10 : b 10 = true := hall 10 (by simp)
  have t11 : b 11 = true := hall 11 (by simp)
  have t12 : b 12 = true := hall 12 (by simp)
  have t13 : b 13 = true := hall 13 (by simp)
  have t14 : b 14 = true := hall 14 (by simp)
  have t15 : b 15 = true := hall 15 (by simp)
  have t16 : b 16 = true := hall 16 (by simp)
  simp only [t0, t1, t2, t3, t4, t5, t6, t7, t8, t9, t10, t11, t12, t13, t14, t15, t16, if_true, true_implies] at h15 hq15 ⊢
  have F6 : Hid (Fr (fun _ => False) w W6) := F5.out.trans hF
  have X6_0 := Lib.hid ((hF.block _ (heap_lt X5_0.out) (fun x => x)).trans X5_0.out)
  have X6_1 := Lib.hid ((hF.block _ (heap_lt X5_1.out) (fun x => x)).trans X5_1.out)
  have X6_2 := Lib.hid ((hF.block _ (heap_lt X5_2.out) (fun x => x)).trans X5_2.out)
  have X6_3 := Lib.hid ((hF.block _ (heap_lt X5_3.out) (fun x => x)).trans X5_3.out)
  have X6_4 := Lib.hid ((hF.block _ (heap_lt X5_4.out) (fun x => x)).trans X5_4.out)
  have X6_5 := Lib.hid ((hF.block _ (heap_lt X5_5.out) (fun x => x)).trans X5_5.out)
  have X6_6 := Lib.hid h15.2
  have Yg14 : w.heap.size ≤ g14 := Nat.le_trans F5.out.size h15.1
  clear hall hF h15 hq15 t0 t1 t2 t3 t4 t5 t6 t7 t8 t9 t10 t11 t12 t13 t14 t15 t16 X5_0 X5_1 X5_2 X5_3 X5_4 X5_5 F5
  go_upto_region 6 with (fail)
  refine wp_region_quiet_tail (C := Calm W6) 14 (by kernel_rfl) (by kernel_rfl) (Calm.start _ _ (Fr.refl _ _)) ?_
  simp only [List.take_succ_cons, List.take_zero, List.drop_succ_cons, List.drop_zero]
  refine BigFrame.wpQuiet_want rfl fun K hK => ?_
  try simp only [Act.put, List.setIfInBounds_toArray, List.set_cons_succ, List.set_cons_zero]
  go_big_quiet_op
  first
    | refine ⟨_, fun _ _ => rfl, hK _ ?_⟩
    | refine hK _ ?_
  refine BigFrame.wpQuiet_want rfl fun K hK => quiet_oneP 60 .u64 (.tmp 76) rfl (g12) (1) rfl (la) Try.underlying60 (fun _ h => (cell_of_row _ _ _ _ _ _ (Calm.at X6_4.out h)).trans cA.out) (hK _ ?_)
  refine BigFrame.wpQuiet_want rfl fun K hK => ?_
  try simp only [Act.put, List.setIfInBounds_toArray, List.set_cons_succ, List.set_cons_zero]
  go_big_quiet_op
  first
    | refine ⟨_, fun _ _ => rfl, hK _ ?_⟩
    | refine hK _ ?_
  refine BigFrame.wpQuiet_want rfl fun K hK => quiet_load 80 (.tmp 14) rfl (g14) rfl 80 _ (0, 0) _ (fun _ h => Calm.at X6_6.out h) Try.underlying80 rfl (by rw [info64, sVc.out]) (hK _ ?_)
  refine BigFrame.wpQuiet_want rfl fun K hK => ?_
  try simp only [Act.put, List.setIfInBounds_toArray, List.set_cons_succ, List.set_cons_zero]
  go_big_quiet_op
  refine ⟨_, Calm.calls P12, hK _ ?_⟩
  refine BigFrame.wpQuiet_want rfl fun K hK => ?_
  try simp only [Act.put, List.setIfInBounds_toArray, List.set_cons_succ, List.set_cons_zero]
  go_big_quiet_op
  first
    | refine ⟨_, fun _ _ => rfl, hK _ ?_⟩
    | refine hK _ ?_
  refine BigFrame.wpQuiet_want rfl fun K hK => ?_
  try simp only [Act.put, List.setIfInBounds_toArray, List.set_cons_succ, List.set_cons_zero]
  go_big_quiet_op
  first
    | refine ⟨_, fun _ _ => rfl, hK _ ?_⟩
    | refine hK _ ?_
  refine BigFrame.wpQuiet_want rfl fun K hK => ?_
  try simp only [Act.put, List.setIfInBounds_toArray, List.set_cons_succ, List.set_cons_zero]
  go_big_quiet_op
  first
    | refine ⟨_, fun _ _ => rfl, hK _ ?_⟩
    | refine hK _ ?_
  refine BigFrame.wpQuiet_want rfl fun K hK => quiet_oneP 60 .u64 (.tmp 83) rfl (g13) (1) rfl (lb) Try.underlying60 (fun _ h => (cell_of_row _ _ _ _ _ _ (Calm.at X6_5.out h)).trans cB.out) (hK _ ?_)
  refine BigFrame.wpQuiet_want rfl fun K hK => ?_
  try simp only [Act.put, List.setIfInBounds_toArray, List.set_cons_succ, List.set_cons_zero]
  go_big_quiet_op
  first
    | refine ⟨_, fun _ _ => rfl, hK _ ?_⟩
    | refine hK _ ?_
  refine BigFrame.wpQuiet_want rfl fun K hK => ?_
  try simp only [Act.put, List.setIfInBounds_toArray, List.set_cons_succ, List.set_cons_zero]
  go_big_quiet_op
  first
    | refine ⟨_, fun _ _ => rfl, hK _ ?_⟩
    | refine hK _ ?_
  refine BigFrame.wpQuiet_want rfl fun K hK => quiet_oneP 60 .u64 (.tmp 86) rfl (g14) (1) rfl (lc) Try.underlying60 (fun _ h => (cell_of_row _ _ _ _ _ _ (Calm.at X6_6.out h)).trans cC.out) (hK _ ?_)
  refine BigFrame.wpQuiet_want rfl fun K hK => ?_
  try simp only [Act.put, List.setIfInBounds_toArray, List.set_cons_succ, List.set_cons_zero]
  go_big_quiet_op
  first
    | refine ⟨_, fun _ _ => rfl, hK _ ?_⟩
    | refine hK _ ?_
  refine BigFrame.wpQuiet_want rfl fun K hK => ?_
  try simp only [Act.put, List.setIfInBounds_toArray, List.set_cons_succ, List.set_cons_zero]
  go_big_quiet_op
  first
    | refine ⟨_, fun _ _ => rfl, hK _ ?_⟩
    | refine hK _ ?_
  refine wpQuiet_nil ?_
  intro w9 hw9
  have F9 : Hid (Fr (fun _ => False) w w9) := F6.out.trans hw9
  have G9 := Lib.hid hw9
  clear hw9
  try simp only [Act.put, List.setIfInBounds_toArray, List.set_cons_succ, List.set_cons_zero]
  have X9 := Lib.hid (Calm.at X6_3.out G9.out)
  go_wp2_with (first
    | refine wpList_store_row rfl 62 (.tmp 6) (.tmp 89) rfl (w.heap.size + 1 + 1 + 1) (vs .u64 [m0, m1, m2]) rfl rfl 62 _ X9.out (by rw [info46]; rfl) rfl (vs_all _ _) ?_)
  refine bodyPost_ret (results_cell_row Try.results38 _ _ _ 62 _ (0, 0) _ rfl (setRow_heap _ _ _ _ _ _ X9.out) Try.underlying62 rfl (by rw [info46]; rfl)) rfl ⟨rfl, F9.out.setRow _ (.inr (by omega))⟩
end Go.Proofs.Ytbafppdmlhogbaa
