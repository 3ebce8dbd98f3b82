/- The laws' hex: contract. Condition: fewer than a million bytes. -/
import Derived.Test.YtafpcaoccocpfaaZu
import Derived.Laws.Concat
namespace Go.Proofs.Ytafpcaoccocpfaa
set_option linter.unusedSimpArgs false
set_option linter.unusedVariables false
open Go.ChangeShapes Go.WideShapes Go.ChangeAt Go.RowKit


def hdU (n : Nat) : UInt8 := (#[48, 49, 50, 51, 52, 53, 54, 55, 56, 57, 97, 98, 99, 100, 101, 102] : Array UInt8).getD n 0
def hdI (n : Nat) : Int := ((hdU n).toNat : Int)
def hdB (n : Nat) : ByteArray := ⟨#[hdU n]⟩
/-- The first bytes as digits. -/
def hexT (l : List Int) : Nat → ByteArray
  | 0 => ⟨#[]⟩
  | i + 1 => (hexT l i ++ hdB ((l.getD i 0).toNat / 16)) ++ hdB ((l.getD i 0).toNat % 16)
theorem hexT_size (l : List Int) (i : Nat) : (hexT l i).size = 2 * i := by
  induction i with
  | zero => rfl
  | succ i ih =>
    rw [hexT, ByteArray.size_append, ByteArray.size_append, ih]
    show 2 * i + 1 + 1 = _
    omega
theorem run_index_hex {o : Oper} {a : Act} (y : Operand) (n : Nat) (hn : n < 16) (z : Int) (hz : z = (n : Int)) (ho : o.op = .index 9 (.const (.string ⟨#[48, 49, 50, 51, 52, 53, 54, 55, 56, 57, 97, 98, 99, 100, 101, 102]⟩)) y) (hy : a.eval y = .int .u8 z) (W : World) :
    (execOp a.eval o).run Try.prog W = .ok (.value (.int .u8 (hdI n))) W := by
  try subst hz
  unfold execOp
  simp only [ho, hy]
  rcases (by omega : n = 0 ∨ n = 1 ∨ n = 2 ∨ n = 3 ∨ n = 4 ∨ n = 5 ∨ n = 6 ∨ n = 7 ∨ n = 8 ∨ n = 9 ∨ n = 10 ∨ n = 11 ∨ n = 12 ∨ n = 13 ∨ n = 14 ∨ n = 15) with rfl | rfl | rfl | rfl | rfl | rfl | rfl | rfl | rfl | rfl | rfl | rfl | rfl | rfl | rfl | rfl
  all_goals kernel_rfl
theorem run_convert_hex {o : Oper} {a : Act} (y : Operand) (n : Nat) (hn : n < 16) (ho : o.op = .convert 5 9 y) (hy : a.eval y = .int .u8 (hdI n)) (W : World) :
    (execOp a.eval o).run Try.prog W = .ok (.value (.string (hdB n))) W := by
  try subst hz
  unfold execOp
  simp only [ho, hy]
  rcases (by omega : n = 0 ∨ n = 1 ∨ n = 2 ∨ n = 3 ∨ n = 4 ∨ n = 5 ∨ n = 6 ∨ n = 7 ∨ n = 8 ∨ n = 9 ∨ n = 10 ∨ n = 11 ∨ n = 12 ∨ n = 13 ∨ n = 14 ∨ n = 15) with rfl | rfl | rfl | rfl | rfl | rfl | rfl | rfl | rfl | rfl | rfl | rfl | rfl | rfl | rfl | rfl
  all_goals kernel_rfl
set_option maxRecDepth 100000 in
set_option maxHeartbeats 8000000 in
theorem hex_is (g : Nat) (A : Option Addr) (m c : Nat) (l : List Int) (w : World) (hs : Sl w g (.slice A m c) l) (hm : m ≤ 1000000) :
    Calls Try.prog 23 #[.slice A m c] w fun e w' => e = .returned (.string (hexT l m)) ∧ Fr (fun _ => False) w w' := by
  have HS := Lib.hid hs
  have hl := Lib.hid hs.len
  obtain ⟨s0, hs0⟩ : ∃ s, s = hexT l 0 := ⟨_, rfl⟩
  have hE : Hid (s0 = ⟨#[]⟩) := hs0
  clear hs
  go_enter Try.func23, Try.ntmps23
  go_upto_region 3 with (fail)
  go_loopw [3, 4] (fun u3 u4 wr => ∃ (i : Nat) (s : ByteArray), u3 = .string s ∧ Hid (s = hexT l i) ∧ u4 = .int .i64 i ∧ i ≤ m ∧ Hid (Fr (fun _ => False) w wr)) (fun _ u4 _ => m - (intOf u4).toNat)
  case atStart => exact ⟨0, _, rfl, rfl, rfl, by omega, Lib.hid (Fr.refl _ _)⟩
  case round =>
  clear hE hs0
  obtain ⟨i, s, rfl, hS, rfl, hi, hF⟩ := hrel
  by_cases hil : i < m
  · obtain ⟨o, rfl, hc⟩ := (HS.out.fr hF.out (fun _ x => x)).at_ (by omega)
    have c0 := hc i hil
    obtain ⟨x, hx⟩ : ∃ x, l[i]? = some x := ⟨_, getD_some (by rw [hl.out]; exact hil)⟩
    have bx := HS.out.1 x (List.mem_of_getElem? hx)
    obtain ⟨n, rfl⟩ := Int.eq_ofNat_of_zero_le bx.1
    have n255 : n ≤ 255 := by omega
    rw [List.getD_eq_getElem?_getD, hx] at c0
    have C0 : Hid (wr.cell? ⟨g, o + i, none⟩ = some (.int .u8 (n : Int))) := c0
    have HN : Hid (hexT l (i + 1) = (s ++ hdB (n / 16)) ++ hdB (n % 16)) := by
      show _ = _
      rw [hexT, ← hS.out, List.getD_eq_getElem?_getD, hx]
      rfl
    have z1 : s.size = 2 * i := by rw [hS.out]; exact hexT_size _ _
    have Z1 : Hid (s.size + (hdB (n / 16)).size ≤ 9223372036854775807) := by
      show _ + 1 ≤ _
      omega
    have Z2 : Hid ((s ++ hdB (n / 16)).size + (hdB (n % 16)).size ≤ 9223372036854775807) := by
      show _ ≤ _
      rw [ByteArray.size_append]
      show _ + 1 + 1 ≤ _
      omega
    have N16 : Hid (n / 16 < 16 ∧ n % 16 < 16) := by show _ ∧ _; omega
    have e1 : ∀ W, (Op.stringOp .add s (hdB (n / 16))).run Try.prog W = .ok (.string (s ++ hdB (n / 16))) W := fun W => run_string_add_sum W _ _ Z1.out
    have e3 : ∀ W, (Op.stringOp .add (s ++ hdB (n / 16)) (hdB (n % 16))).run Try.prog W = .ok (.string ((s ++ hdB (n / 16)) ++ hdB (n % 16))) W := fun W => run_string_add_sum W _ _ Z2.out
    have p0 : 0 ≤ (n : Int) := by omega
    have e2 : bits .and .u8 (n : Int) 15 = (n : Int) % 16 := by
      show IntKind.u8.wrap ((BitVec.ofInt 8 (n : Int) &&& BitVec.ofInt 8 15).toNat : Int) = _
      rw [BitVec.toNat_and, show (BitVec.ofInt 8 15).toNat = 2 ^ 4 - 1 from rfl, Nat.and_two_pow_sub_one_eq_mod, BitVec.toNat_ofInt, IntKind.wrap_u8]
      omega
    have t1 : ((i : Int)).toNat = i := by omega
    have t2 : 0 ≤ (i : Int) := by omega
    have t3 : (i : Int) < m := by omega
    clear hc c0 hx bx z1
    go_upto_region 5 with (fail)
    refine wp_region_quiet (C := Calm wr) (by kernel_rfl) (by kernel_rfl) (Calm.start _ _ (Fr.refl _ _)) ?_
    refine BigFrame.wpQuiet_want rfl fun K hK => ?_
    try simp only [Act.put, List.setIfInBounds_toArray, List.set_cons_succ, List.set_cons_zero]
    go_big_quiet_op
    refine hK _ ?_
    refine BigFrame.wpQuiet_want rfl fun K hK => ?_
    try simp only [Act.put, List.setIfInBounds_toArray, List.set_cons_succ, List.set_cons_zero]
    go_big_quiet_op
    refine hK _ ?_
    refine BigFrame.wpQuiet_want rfl fun K hK => ?_
    try simp only [Act.put, List.setIfInBounds_toArray, List.set_cons_succ, List.set_cons_zero]
    go_big_quiet_op
    refine hK _ ?_
    refine BigFrame.wpQuiet_want rfl fun K hK => ?_
    try simp only [Act.put, List.setIfInBounds_toArray, List.set_cons_succ, List.set_cons_zero]
    go_big_quiet_op
    first
      | refine ⟨_, fun _ _ => rfl, hK _ ?_⟩
      | refine hK _ ?_
    refine BigFrame.wpQuiet_want rfl fun K hK => quiet_one 5 .u8 (.tmp 14) rfl g (o + i) rfl (n : Int) Try.underlying5 (fun _ h => (World.cell?_of_block (w := wr) (Fr.block h _ (World.block_lt_of_cell? _ _ C0.out) (fun x => x))).trans C0.out) (hK _ ?_)
    refine BigFrame.wpQuiet_want rfl fun K hK => ?_
    try simp only [Act.put, List.setIfInBounds_toArray, List.set_cons_succ, List.set_cons_zero]
    go_big_quiet_op
    first
      | refine ⟨_, fun _ _ => rfl, hK _ ?_⟩
      | refine hK _ ?_
    refine BigFrame.wpQuiet_want rfl fun K hK => quiet_run (.int .u8 (hdI (n / 16))) (fun W _ => run_index_hex (.tmp 16) (n / 16) N16.out.1 ((n : Int) / 16) (by omega) rfl rfl W) (hK _ ?_)
    refine BigFrame.wpQuiet_want rfl fun K hK => quiet_run (.string (hdB (n / 16))) (fun W _ => run_convert_hex (.tmp 17) (n / 16) N16.out.1 rfl rfl W) (hK _ ?_)
    refine BigFrame.wpQuiet_want rfl fun K hK => ?_
    try simp only [Act.put, List.setIfInBounds_toArray, List.set_cons_succ, List.set_cons_zero]
    go_big_quiet_op
    first
      | refine ⟨_, fun _ _ => rfl, hK _ ?_⟩
      | refine hK _ ?_
    refine BigFrame.wpQuiet_want rfl fun K hK => ?_
    try simp only [Act.put, List.setIfInBounds_toArray, List.set_cons_succ, List.set_cons_zero]
    go_big_quiet_op
    refine hK _ ?_
    refine BigFrame.wpQuiet_want rfl fun K hK => ?_
    try simp only [Act.put, List.setIfInBounds_toArray, List.set_cons_succ, List.set_cons_zero]
    go_big_quiet_op
    refine hK _ ?_
    refine BigFrame.wpQuiet_want rfl fun K hK => ?_
    try simp only [Act.put, List.setIfInBounds_toArray, List.set_cons_succ, List.set_cons_zero]
    go_big_quiet_op
    first
      | refine ⟨_, fun _ _ => rfl, hK _ ?_⟩
      | refine hK _ ?_
    refine BigFrame.wpQuiet_want rfl fun K hK => quiet_one 5 .u8 (.tmp 22) rfl g (o + i) rfl (n : Int) Try.underlying5 (fun _ h => (World.cell?_of_block (w := wr) (Fr.block h _ (World.block_lt_of_cell? _ _ C0.out) (fun x => x))).trans C0.out) (hK _ ?_)
    refine BigFrame.wpQuiet_want rfl fun K hK => ?_
    try simp only [Act.put, List.setIfInBounds_toArray, List.set_cons_succ, List.set_cons_zero]
    go_big_quiet_op
    first
      | refine ⟨_, fun _ _ => rfl, hK _ ?_⟩
      | refine hK _ ?_
    refine BigFrame.wpQuiet_want rfl fun K hK => quiet_run (.int .u8 (hdI (n % 16))) (fun W _ => run_index_hex (.tmp 24) (n % 16) N16.out.2 ((n : Int) % 16) (by omega) rfl rfl W) (hK _ ?_)
    refine BigFrame.wpQuiet_want rfl fun K hK => quiet_run (.string (hdB (n % 16))) (fun W _ => run_convert_hex (.tmp 25) (n % 16) N16.out.2 rfl rfl W) (hK _ ?_)
    refine BigFrame.wpQuiet_want rfl fun K hK => ?_
    try simp only [Act.put, List.setIfInBounds_toArray, List.set_cons_succ, List.set_cons_zero]
    go_big_quiet_op
    first
      | refine ⟨_, fun _ _ => rfl, hK _ ?_⟩
      | refine hK _ ?_
    refine BigFrame.wpQuiet_want rfl fun K hK => ?_
    try simp only [Act.put, List.setIfInBounds_toArray, List.set_cons_succ, List.set_cons_zero]
    go_big_quiet_op
    refine hK _ ?_
    refine wpQuiet_nil ?_
    intro w9 hw9
    have F9 : Hid (Fr (fun _ => False) w w9) := hF.out.trans hw9
    have G9 := Lib.hid hw9
    clear hw9
    try simp only [Act.put, List.setIfInBounds_toArray, List.set_cons_succ, List.set_cons_zero]
    obtain ⟨s2, hs2⟩ : ∃ t, t = (s ++ hdB (n / 16)) ++ hdB (n % 16) := ⟨_, rfl⟩
    have HS2 : Hid (s2 = hexT l (i + 1)) := by show _ = _; rw [HN.out, hs2]
    rw [← hs2]
    clear hs2 HN Z1 Z2 e1 e2 e3 C0
    go_wp2
    go_roundw
    case rel => exact ⟨i + 1, _, rfl, HS2, by go_num, by omega, F9⟩
    case measure => simp [intOf]; omega
  obtain rfl : i = m := by omega
  go_wp2
  go_ret
  exact ⟨by rw [hS.out]; rfl, hF.out⟩
end Go.Proofs.Ytafpcaoccocpfaa
