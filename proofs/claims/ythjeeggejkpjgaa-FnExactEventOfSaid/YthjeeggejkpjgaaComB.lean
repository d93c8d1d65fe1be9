/-
  Chapter 10, the model: EventOf.
-/
import Derived.Test.YthjeeggejkpjgaaLawEventOf
import Derived.Test.YthjeeggejkpjgaaGg
namespace Go.Proofs.Ythjeeggejkpjgaa
open Go.RowKit

set_option maxHeartbeats 1600000 in
theorem specEventOf_c : CtrEventOf 9 (fun _ => True) := by
  intro x w _ _ _
  have hb : Below w.heap.size w (w.alloc (.cells #[.int .i64 x.kind, .int .i64 x.validity, .int .i64 x.uid, .int .i64 x.flags, sv x.name, sv x.text] 26)) := (Below.refl _ _).alloc (Nat.le_refl _) _
  by_cases h1 : x.kind = 1
  case pos =>
    have HV := Lib.hid (show evOf x.kind = 8 from by unfold evOf; rw [h1]; rfl)
    have t1 : (x.kind == 1) = true := by rw [beq_iff_eq]; omega
    clear h1
    go_enter Try.func9, Try.ntmps9
    go_wp2
    go_ret
    exact ⟨by rw [HV.out]; rfl, hb⟩
  by_cases h2 : x.kind = 2
  case pos =>
    have HV := Lib.hid (show evOf x.kind = 8 from by unfold evOf; rw [h2]; rfl)
    have t1 : (x.kind == 1) = false := by rw [beq_eq_false_iff_ne]; omega
    have t2 : (x.kind == 2) = true := by rw [beq_iff_eq]; omega
    clear h1 h2
    go_enter Try.func9, Try.ntmps9
    go_wp2
    go_ret
    exact ⟨by rw [HV.out]; rfl, hb⟩
  by_cases h3 : x.kind = 3
  case pos =>
    have HV := Lib.hid (show evOf x.kind = 8 from by unfold evOf; rw [h3]; rfl)
    have t1 : (x.kind == 1) = false := by rw [beq_eq_false_iff_ne]; omega
    have t2 : (x.kind == 2) = false := by rw [beq_eq_false_iff_ne]; omega
    have t3 : (x.kind == 3) = true := by rw [beq_iff_eq]; omega
    clear h1 h2 h3
    go_enter Try.func9, Try.ntmps9
    go_wp2
    go_ret
    exact ⟨by rw [HV.out]; rfl, hb⟩
  by_cases h4 : x.kind = 4
  case pos =>
    have HV := Lib.hid (show evOf x.kind = 1 from by unfold evOf; rw [h4]; rfl)
    have t1 : (x.kind == 1) = false := by rw [beq_eq_false_iff_ne]; omega
    have t2 : (x.kind == 2) = false := by rw [beq_eq_false_iff_ne]; omega
    have t3 : (x.kind == 3) = false := by rw [beq_eq_false_iff_ne]; omega
    have t4 : (x.kind == 4) = true := by rw [beq_iff_eq]; omega
    clear h1 h2 h3 h4
    go_enter Try.func9, Try.ntmps9
    go_wp2
    go_ret
    exact ⟨by rw [HV.out]; rfl, hb⟩
  by_cases h5 : x.kind = 5
  case pos =>
    have HV := Lib.hid (show evOf x.kind = 4 from by unfold evOf; rw [h5]; rfl)
    have t1 : (x.kind == 1) = false := by rw [beq_eq_false_iff_ne]; omega
    have t2 : (x.kind == 2) = false := by rw [beq_eq_false_iff_ne]; omega
    have t3 : (x.kind == 3) = false := by rw [beq_eq_false_iff_ne]; omega
    have t4 : (x.kind == 4) = false := by rw [beq_eq_false_iff_ne]; omega
    have t5 : (x.kind == 5) = true := by rw [beq_iff_eq]; omega
    clear h1 h2 h3 h4 h5
    go_enter Try.func9, Try.ntmps9
    go_wp2
    go_ret
    exact ⟨by rw [HV.out]; rfl, hb⟩
  by_cases h6 : x.kind = 6
  case pos =>
    have HV := Lib.hid (show evOf x.kind = 2 from by unfold evOf; rw [h6]; rfl)
    have t1 : (x.kind == 1) = false := by rw [beq_eq_false_iff_ne]; omega
    have t2 : (x.kind == 2) = false := by rw [beq_eq_false_iff_ne]; omega
    have t3 : (x.kind == 3) = false := by rw [beq_eq_false_iff_ne]; omega
    have t4 : (x.kind == 4) = false := by rw [beq_eq_false_iff_ne]; omega
    have t5 : (x.kind == 5) = false := by rw [beq_eq_false_iff_ne]; omega
    have t6 : (x.kind == 6) = true := by rw [beq_iff_eq]; omega
    clear h1 h2 h3 h4 h5 h6
    go_enter Try.func9, Try.ntmps9
    go_wp2
    go_ret
    exact ⟨by rw [HV.out]; rfl, hb⟩
  have HV := Lib.hid (show evOf x.kind = 0 from by unfold evOf; rw [if_neg (by omega), if_neg h4, if_neg h5, if_neg h6])
  have t1 : (x.kind == 1) = false := by rw [beq_eq_false_iff_ne]; omega
  have t2 : (x.kind == 2) = false := by rw [beq_eq_false_iff_ne]; omega
  have t3 : (x.kind == 3) = false := by rw [beq_eq_false_iff_ne]; omega
  have t4 : (x.kind == 4) = false := by rw [beq_eq_false_iff_ne]; omega
  have t5 : (x.kind == 5) = false := by rw [beq_eq_false_iff_ne]; omega
  have t6 : (x.kind == 6) = false := by rw [beq_eq_false_iff_ne]; omega
  clear h1 h2 h3 h4 h5 h6
  go_enter Try.func9, Try.ntmps9
  go_wp2
  go_ret
  exact ⟨by rw [HV.out]; rfl, hb⟩

end Go.Proofs.Ythjeeggejkpjgaa
