/-
  Chapter 6, the program: what a scope reaches (an interface value), and how it is told apart.
-/
import Derived.Test.YtidjebepgpbcnaaFilH
namespace Go.Proofs.Ytidjebepgpbcnaa
open Go.RowKit

theorem asN1 (W : World) : (Instr.typeAssert .nilIface 79 82 true).run Try.prog W = .ok (.tuple #[.agg #[], .bool false]) W := by kernel_rfl
theorem asN2 (W : World) : (Instr.typeAssert .nilIface 79 83 true).run Try.prog W = .ok (.tuple #[.agg #[], .bool false]) W := by kernel_rfl
theorem asN3 (W : World) : (Instr.typeAssert .nilIface 79 85 true).run Try.prog W = .ok (.tuple #[.agg #[.slice none 0 0], .bool false]) W := by kernel_rfl
theorem asN4 (W : World) : (Instr.typeAssert .nilIface 79 88 true).run Try.prog W = .ok (.tuple #[.agg #[.slice none 0 0], .bool false]) W := by kernel_rfl
theorem as11 (v : Value) (W : World) : (Instr.typeAssert (.iface 82 v) 79 82 true).run Try.prog W = .ok (.tuple #[v, .bool true]) W := by kernel_rfl
theorem as12 (v : Value) (W : World) : (Instr.typeAssert (.iface 82 v) 79 83 true).run Try.prog W = .ok (.tuple #[.agg #[], .bool false]) W := by kernel_rfl
theorem as13 (v : Value) (W : World) : (Instr.typeAssert (.iface 82 v) 79 85 true).run Try.prog W = .ok (.tuple #[.agg #[.slice none 0 0], .bool false]) W := by kernel_rfl
theorem as14 (v : Value) (W : World) : (Instr.typeAssert (.iface 82 v) 79 88 true).run Try.prog W = .ok (.tuple #[.agg #[.slice none 0 0], .bool false]) W := by kernel_rfl
theorem as21 (v : Value) (W : World) : (Instr.typeAssert (.iface 83 v) 79 82 true).run Try.prog W = .ok (.tuple #[.agg #[], .bool false]) W := by kernel_rfl
theorem as22 (v : Value) (W : World) : (Instr.typeAssert (.iface 83 v) 79 83 true).run Try.prog W = .ok (.tuple #[v, .bool true]) W := by kernel_rfl
theorem as23 (v : Value) (W : World) : (Instr.typeAssert (.iface 83 v) 79 85 true).run Try.prog W = .ok (.tuple #[.agg #[.slice none 0 0], .bool false]) W := by kernel_rfl
theorem as24 (v : Value) (W : World) : (Instr.typeAssert (.iface 83 v) 79 88 true).run Try.prog W = .ok (.tuple #[.agg #[.slice none 0 0], .bool false]) W := by kernel_rfl
theorem as31 (v : Value) (W : World) : (Instr.typeAssert (.iface 85 v) 79 82 true).run Try.prog W = .ok (.tuple #[.agg #[], .bool false]) W := by kernel_rfl
theorem as32 (v : Value) (W : World) : (Instr.typeAssert (.iface 85 v) 79 83 true).run Try.prog W = .ok (.tuple #[.agg #[], .bool false]) W := by kernel_rfl
theorem as33 (v : Value) (W : World) : (Instr.typeAssert (.iface 85 v) 79 85 true).run Try.prog W = .ok (.tuple #[v, .bool true]) W := by kernel_rfl
theorem as34 (v : Value) (W : World) : (Instr.typeAssert (.iface 85 v) 79 88 true).run Try.prog W = .ok (.tuple #[.agg #[.slice none 0 0], .bool false]) W := by kernel_rfl
theorem as41 (v : Value) (W : World) : (Instr.typeAssert (.iface 88 v) 79 82 true).run Try.prog W = .ok (.tuple #[.agg #[], .bool false]) W := by kernel_rfl
theorem as42 (v : Value) (W : World) : (Instr.typeAssert (.iface 88 v) 79 83 true).run Try.prog W = .ok (.tuple #[.agg #[], .bool false]) W := by kernel_rfl
theorem as43 (v : Value) (W : World) : (Instr.typeAssert (.iface 88 v) 79 85 true).run Try.prog W = .ok (.tuple #[.agg #[.slice none 0 0], .bool false]) W := by kernel_rfl
theorem as44 (v : Value) (W : World) : (Instr.typeAssert (.iface 88 v) 79 88 true).run Try.prog W = .ok (.tuple #[v, .bool true]) W := by kernel_rfl

set_option maxHeartbeats 800000 in
theorem reach_1 (vn : Value) (ev : Int) (w : World) (hv : ∃ p n c, vn = .slice p n c) :
    Calls Try.prog 63 #[.agg #[.int .i64 1, vn, .int .i64 ev]] w fun e w' => e = .returned (.iface 82 (.agg #[])) ∧ Below w.heap.size w w' := by
  obtain ⟨p, n, c, rfl⟩ := hv
  go_enter Try.func63, Try.ntmps63
  go_wp2
  go_ret
  exact ⟨rfl, (Below.refl _ _).alloc (Nat.le_refl _) _⟩
set_option maxHeartbeats 800000 in
theorem reach_2 (vn : Value) (ev : Int) (w : World) (hv : ∃ p n c, vn = .slice p n c) :
    Calls Try.prog 63 #[.agg #[.int .i64 2, vn, .int .i64 ev]] w fun e w' => e = .returned (.iface 83 (.agg #[])) ∧ Below w.heap.size w w' := by
  obtain ⟨p, n, c, rfl⟩ := hv
  go_enter Try.func63, Try.ntmps63
  go_wp2
  go_ret
  exact ⟨rfl, (Below.refl _ _).alloc (Nat.le_refl _) _⟩
set_option maxHeartbeats 800000 in
theorem reach_3 (vn : Value) (ev : Int) (w : World) (hv : ∃ p n c, vn = .slice p n c) :
    Calls Try.prog 63 #[.agg #[.int .i64 3, vn, .int .i64 ev]] w fun e w' => e = .returned (.iface 85 (.agg #[vn])) ∧ Below w.heap.size w w' := by
  obtain ⟨p, n, c, rfl⟩ := hv
  go_enter Try.func63, Try.ntmps63
  go_wp2
  go_ret
  exact ⟨rfl, (Below.refl _ _).alloc (Nat.le_refl _) _⟩
set_option maxHeartbeats 800000 in
theorem reach_4 (vn : Value) (ev : Int) (w : World) (hv : ∃ p n c, vn = .slice p n c) :
    Calls Try.prog 63 #[.agg #[.int .i64 4, vn, .int .i64 ev]] w fun e w' => e = .returned (.iface 88 (.agg #[vn])) ∧ Below w.heap.size w w' := by
  obtain ⟨p, n, c, rfl⟩ := hv
  go_enter Try.func63, Try.ntmps63
  go_wp2
  go_ret
  exact ⟨rfl, (Below.refl _ _).alloc (Nat.le_refl _) _⟩
set_option maxHeartbeats 800000 in
theorem reach_0 (kd : Int) (vn : Value) (ev : Int) (w : World) (hv : ∃ p n c, vn = .slice p n c) (t1 : (kd == 1) = false) (t2 : (kd == 2) = false) (t3 : (kd == 3) = false) (t4 : (kd == 4) = false) :
    Calls Try.prog 63 #[.agg #[.int .i64 kd, vn, .int .i64 ev]] w fun e w' => e = .returned .nilIface ∧ Below w.heap.size w w' := by
  obtain ⟨p, n, c, rfl⟩ := hv
  go_enter Try.func63, Try.ntmps63
  go_wp2
  go_ret
  exact ⟨rfl, (Below.refl _ _).alloc (Nat.le_refl _) _⟩

end Go.Proofs.Ytidjebepgpbcnaa
