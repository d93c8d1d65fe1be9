/-
  Chapter 1's walks: Unhex.
-/
import Derived.Test.YtnlopkbkdchfnaaOrd
import Derived.Test.YtnlopkbkdchfnaaShelf
namespace Go.Proofs.Ytnlopkbkdchfnaa
open Go.RowKit

def halfc (b : UInt8) : Option Nat := if 48 ≤ b.toNat ∧ b.toNat ≤ 57 then some (b.toNat - 48) else if 97 ≤ b.toNat ∧ b.toNat ≤ 102 then some (b.toNat - 87) else none
def unhexl : List UInt8 → Option (List UInt8)
  | [] => some []
  | [_] => none
  | a :: b :: r => match halfc a, halfc b, unhexl r with
    | some x, some y, some t => some (UInt8.ofNat (16 * x + y) :: t)
    | _, _, _ => none

theorem halfc_le {b : UInt8} {x : Nat} (h : halfc b = some x) : x ≤ 15 := by
  unfold halfc at h
  split at h
  · cases h; omega
  · split at h
    · cases h; omega
    · cases h

theorem unhexl_app : ∀ (p acc q : List UInt8), unhexl p = some acc → unhexl (p ++ q) = (unhexl q).map (acc ++ ·)
  | [], acc, q, h => by simp only [unhexl] at h; cases h; simp
  | [_], acc, q, h => by simp [unhexl] at h
  | a :: b :: r, acc, q, h => by
    simp only [unhexl] at h
    simp only [List.cons_append, unhexl]
    cases hx : halfc a <;> cases hy : halfc b <;> cases hr : unhexl r <;> rw [hx, hy, hr] at h <;> simp only at h <;> cases h
    rename_i x y t
    rw [unhexl_app r t q hr]
    cases unhexl q <;> simp

theorem unhexl_len : ∀ (l r : List UInt8), unhexl l = some r → l.length = 2 * r.length
  | [], r, h => by simp only [unhexl] at h; cases h; rfl
  | [_], r, h => by simp [unhexl] at h
  | a :: b :: l, r, h => by
    simp only [unhexl] at h
    cases hx : halfc a <;> cases hy : halfc b <;> cases hr : unhexl l <;> rw [hx, hy, hr] at h <;> simp only at h <;> cases h
    rename_i x y t
    have := unhexl_len l t hr
    simp only [List.length_cons]
    omega

theorem unhexl_odd (l : List UInt8) (h : l.length % 2 = 1) : unhexl l = none := by
  cases hr : unhexl l with
  | none => rfl
  | some r => have := unhexl_len l r hr; omega

/-- One round's step: two letters more. -/
theorem unhexl_step (s : ByteArray) (j : Nat) (h : 2 * j + 1 < s.size) (acc : List UInt8) (hp : unhexl (s.data.toList.take (2 * j)) = some acc) :
    (∀ x y, halfc s[2 * j] = some x → halfc s[2 * j + 1] = some y → unhexl (s.data.toList.take (2 * (j + 1))) = some (acc ++ [UInt8.ofNat (16 * x + y)])) ∧
    (halfc s[2 * j] = none ∨ halfc s[2 * j + 1] = none → unhexl s.data.toList = none) := by
  constructor
  · intro x y hx hy
    have e : s.data.toList.take (2 * (j + 1)) = s.data.toList.take (2 * j) ++ [s[2 * j], s[2 * j + 1]] := by
      rw [show 2 * (j + 1) = 2 * j + 1 + 1 from by omega, take_str s (2 * j + 1) h, take_str s (2 * j) (by omega)]; simp
    rw [e, unhexl_app _ _ _ hp]
    simp [unhexl, hx, hy]
  · intro hn
    have e : s.data.toList = s.data.toList.take (2 * j) ++ (s[2 * j] :: s[2 * j + 1] :: s.data.toList.drop (2 * j + 1 + 1)) := by
      have h1 : 2 * j < s.data.toList.length := by simp; omega
      have h2 : 2 * j + 1 < s.data.toList.length := by simp; omega
      have e1 := List.drop_eq_getElem_cons h1
      have e2 := List.drop_eq_getElem_cons h2
      have := (List.take_append_drop (2 * j) s.data.toList).symm
      rw [e1, e2] at this
      exact this
    rw [e, unhexl_app _ _ _ hp]
    rcases hn with hn | hn
    · simp [unhexl, hn]
    · simp only [unhexl, hn]; cases halfc s[2 * j] <;> simp

theorem halfc_none {b : UInt8} (h : (match halfc b with | some x => (x : Int) | none => -1) < 0) : halfc b = none := by
  cases hc : halfc b with
  | none => rfl
  | some x => rw [hc] at h; simp only at h; omega

theorem bv_ofNat {n : Nat} (h : n < 256) : bv (UInt8.ofNat n) = .int .u8 (n : Int) := by
  show Value.int .u8 ((UInt8.ofNat n).toNat : Int) = _
  rw [UInt8.toNat_ofNat_of_lt' (by simpa using h)]

def halfI (b : UInt8) : Int := match halfc b with | some x => x | none => -1

theorem halfI_eq (b : UInt8) : halfI b = if 48 ≤ (b.toNat : Int) ∧ (b.toNat : Int) ≤ 57 then (b.toNat : Int) - 48 else if 97 ≤ (b.toNat : Int) ∧ (b.toNat : Int) ≤ 102 then (b.toNat : Int) - 87 else -1 := by
  unfold halfI halfc
  by_cases h1 : 48 ≤ b.toNat ∧ b.toNat ≤ 57
  · have e1 : 48 ≤ (b.toNat : Int) ∧ (b.toNat : Int) ≤ 57 := by omega
    rw [if_pos h1, if_pos e1]; simp only; omega
  · have e1 : ¬ (48 ≤ (b.toNat : Int) ∧ (b.toNat : Int) ≤ 57) := by omega
    rw [if_neg h1, if_neg e1]
    by_cases h2 : 97 ≤ b.toNat ∧ b.toNat ≤ 102
    · have e2 : 97 ≤ (b.toNat : Int) ∧ (b.toNat : Int) ≤ 102 := by omega
      rw [if_pos h2, if_pos e2]; simp only; omega
    · have e2 : ¬ (97 ≤ (b.toNat : Int) ∧ (b.toNat : Int) ≤ 102) := by omega
      rw [if_neg h2, if_neg e2]
theorem halfI_some {b : UInt8} {x : Nat} (h : halfc b = some x) : halfI b = x := by unfold halfI; rw [h]
theorem halfI_none {b : UInt8} (h : halfc b = none) : halfI b = -1 := by unfold halfI; rw [h]

set_option maxHeartbeats 400000 in
theorem l1Half_any (b : UInt8) (w : World) :
    Calls Try.prog 39 #[.int .u8 (b.toNat : Int)] w fun e w' => e = .returned (.int .i64 (halfI b)) ∧ w = w' := by
  have hb : b.toNat < 256 := b.toNat_lt
  have key : ∀ v : Int, v = halfI b → Ending.returned (.int .i64 v) = .returned (.int .i64 (halfI b)) := fun v h => by rw [h]
  go_enter Try.func39, Try.ntmps39
  go_wp2
  all_goals go_ret
  all_goals refine ⟨key _ ?_, rfl⟩
  all_goals rw [halfI_eq]
  all_goals first | (rw [if_pos (by omega)]) | (rw [if_neg (by omega), if_pos (by omega)]; omega) | (rw [if_neg (by omega), if_neg (by omega)])

/-- What Unhex hands back. -/
def unhexV (l : List UInt8) : Value := match unhexl l with | some r => .tuple #[.string ⟨r.toArray⟩, .bool true] | none => .tuple #[.string ⟨#[]⟩, .bool false]

set_option maxHeartbeats 800000 in
theorem specUnhex_any (s : ByteArray) (w : World) (hs : s.size ≤ 1048576) :
    Calls Try.prog 16 #[.string s] w fun e w' => e = .returned (unhexV s.data.toList) ∧ Below w.heap.size w w' := by
  have hnone : unhexl s.data.toList = none → unhexV s.data.toList = .tuple #[.string ⟨#[]⟩, .bool false] := fun h => by unfold unhexV; rw [h]
  have hsome : ∀ r, unhexl s.data.toList = some r → unhexV s.data.toList = .tuple #[.string ⟨r.toArray⟩, .bool true] := fun r h => by unfold unhexV; rw [h]
  have Hn := Lib.hid hnone
  have Hs := Lib.hid hsome
  clear hnone hsome
  have hm : ((s.size : Int)).tmod 2 = (s.size : Int) % 2 := Int.tmod_eq_emod_of_nonneg (by omega)
  by_cases hodd : s.size % 2 = 1
  · have ho : ((s.size : Int) % 2 == 1) = true := by simp; omega
    have hu := Lib.hid (unhexl_odd s.data.toList (by simpa using hodd))
    go_enter Try.func16, Try.ntmps16
    go_wp2
    go_ret2
    exact ⟨by rw [Hn.out hu.out]; rfl, (Below.refl _ _).alloc (Nat.le_refl _) _⟩
  · have ho : ((s.size : Int) % 2 == 1) = false := by simp; omega
    go_enter Try.func16, Try.ntmps16
    go_wp2
    go_loopw [2, 3, 4, 5, 6, 7] (fun a b v i _ _ wr => ∃ (j : Nat) (acc : List UInt8), 2 * j ≤ s.size ∧ i = .int .i64 (2 * j : Nat) ∧ unhexl (s.data.toList.take (2 * j)) = some acc ∧ wr.ownsRow w.heap.size 5 1 v j (acc.map bv) ∧ Below w.heap.size w wr ∧ a = .string ⟨#[]⟩ ∧ b = .bool false) (fun _ _ _ i _ _ _ => s.size - (intOf i).toNat)
    case atStart => exact ⟨0, [], by omega, rfl, rfl, by simpa using World.ownsRow_made w #[] 0 (Nat.le_refl _) (by unfold maxLen; omega) rfl, (Below.refl _ _).alloc (Nat.le_refl _) _, rfl, rfl⟩
    case round =>
      obtain ⟨j, acc, hj, rfl, hac, hown, hbr, rfl, rfl⟩ := hrel
      have Hac := Lib.hid hac
      clear hac hm ho
      have hbr0 := hbr.size
      by_cases hlt : 2 * j < s.size
      · have hlt1 : 2 * j + 1 < s.size := by omega
        have Hst := Lib.hid (unhexl_step s j hlt1 acc Hac.out)
        cases hcx : halfc s[2 * j] with
        | none =>
          have hx := halfI_none hcx
          have HN := Lib.hid (Hn.out (Hst.out.2 (.inl hcx)))
          clear hcx
          go_wp2_with (go_at_call 39; refine (l1Half_any _ _).mono ?_; rintro e w' ⟨rfl, rfl⟩)
          go_ret2
          exact ⟨by rw [HN.out]; rfl, hbr⟩
        | some x =>
          have hx := halfI_some hcx
          have hx15 := halfc_le hcx
          cases hcy : halfc s[2 * j + 1] with
          | none =>
            have hy := halfI_none hcy
            have HN := Lib.hid (Hn.out (Hst.out.2 (.inr hcy)))
            clear hcx hcy
            go_wp2_with (go_at_call 39; refine (l1Half_any _ _).mono ?_; rintro e w' ⟨rfl, rfl⟩)
            go_ret2
            exact ⟨by rw [HN.out]; rfl, hbr⟩
          | some y =>
            have hy := halfI_some hcy
            have hy15 := halfc_le hcy
            have HN := Lib.hid (Hst.out.1 x y hcx hcy)
            clear hcx hcy
            go_wp2_with (first | (go_at_call 39; refine (l1Half_any _ _).mono ?_; rintro e w' ⟨rfl, rfl⟩) | (at_builtin; refine wpList_app1 Try.el_u8 rfl (.tmp 34) (.tmp 40) rfl w wr u4 j _ rfl hown hbr hbr0 _ (.inr rfl) 1 1 rfl rfl (by simp [Value.oneCell']) (by omega) (by omega) (by omega) ?_))
            intro g cap w' hown' hbr' _ _ _
            go_wp2
            go_roundw
            case rel =>
              refine ⟨j + 1, _, by omega, by go_num, HN.out, ?_, hbr', rfl, rfl⟩
              rw [List.map_append]
              rw [List.map_singleton, bv_ofNat (by omega), show ((16 * x + y : Nat) : Int) = 16 * (x : Int) + (y : Int) from by omega]
              exact hown'
            case measure => simp [intOf]; omega
      · obtain rfl : j = s.size / 2 := by omega
        have e2 : 2 * (s.size / 2) = s.size := by omega
        rw [e2, take_str_all] at Hac
        have hl := unhexl_len _ _ Hac.out
        have hback := conv_own (P := Try.prog) 22 9 5 hown (by simp at hl; omega) Try.underlying22 Try.underlying5 Try.underlying9
        clear hown hl e2
        go_wp2
        go_ret2
        exact ⟨by rw [Hs.out _ Hac.out]; rfl, hbr⟩


def hexd : List UInt8 := [48, 49, 50, 51, 52, 53, 54, 55, 56, 57, 97, 98, 99, 100, 101, 102]
theorem indexByte_hexd (b : UInt8) : Lib.indexByte hexd b = halfI b := by
  have h : ∀ n : Fin 256, Lib.indexByte hexd (UInt8.ofNat n.val) = halfI (UInt8.ofNat n.val) := by decide +kernel
  have := h ⟨b.toNat, b.toNat_lt⟩
  simpa using this

set_option maxHeartbeats 400000 in
theorem halfOf_some (b : UInt8) (x : Nat) (h : halfc b = some x) (w : World) :
    Calls Try.prog 50 #[.int .u8 (b.toNat : Int)] w fun e w' => e = .returned (.int .u8 (x : Int)) ∧ w = w' := by
  have hx := halfc_le h
  have hi : Lib.indexByte [48, 49, 50, 51, 52, 53, 54, 55, 56, 57, 97, 98, 99, 100, 101, 102] b = (x : Int) := (indexByte_hexd b).trans (halfI_some h)
  go_enter Try.func50, Try.ntmps50
  go_wp2_with fail
  refine (Try.strings_IndexByte _ _ _).mono ?_
  rintro e w' ⟨rfl, rfl⟩
  go_wp2
  go_ret
  exact ⟨rfl, rfl⟩

def hexPan : Value := .iface 9 (.string ⟨#[110, 111, 116, 32, 97, 32, 104, 101, 120, 97, 100, 101, 99, 105, 109, 97, 108, 32, 116, 101, 120, 116]⟩)

set_option maxHeartbeats 400000 in
theorem halfOf_none (b : UInt8) (h : halfc b = none) (w : World) :
    Calls Try.prog 50 #[.int .u8 (b.toNat : Int)] w fun e w' => e = .panicked [{ v := hexPan, recovered := false }] ∧ w = w' := by
  have hi : Lib.indexByte [48, 49, 50, 51, 52, 53, 54, 55, 56, 57, 97, 98, 99, 100, 101, 102] b = -1 := (indexByte_hexd b).trans (halfI_none h)
  go_enter Try.func50, Try.ntmps50
  go_wp2_with fail
  refine (Try.strings_IndexByte _ _ _).mono ?_
  rintro e w' ⟨rfl, rfl⟩
  go_wp2
  exact ⟨rfl, rfl, rfl⟩

theorem or16 (x y : Nat) (hx : x ≤ 15) (hy : y ≤ 15) : bits .or .u8 (IntKind.u8.wrap ((x : Int) * 16)) (y : Int) = ((16 * x + y : Nat) : Int) := by
  have h : ∀ x y : Fin 16, bits .or .u8 (IntKind.u8.wrap ((x.val : Int) * 16)) (y.val : Int) = ((16 * x.val + y.val : Nat) : Int) := by decide +kernel
  exact h ⟨x, by omega⟩ ⟨y, by omega⟩

/-- unhexOf: the text, or a panic. -/
def unhexPost (l : List UInt8) (w : World) (e : Ending) (w' : World) : Prop := (match unhexl l with | some r => e = .returned (.string ⟨r.toArray⟩) | none => e = .panicked [{ v := hexPan, recovered := false }]) ∧ Below w.heap.size w w'
theorem unhexPost_none {l : List UInt8} {w w' : World} {e : Ending} (h : unhexl l = none) (he : e = .panicked [{ v := hexPan, recovered := false }]) (hb : Below w.heap.size w w') : unhexPost l w e w' := by
  unfold unhexPost; rw [h]; exact ⟨he, hb⟩
theorem unhexPost_some {l r : List UInt8} {w w' : World} {e : Ending} (h : unhexl l = some r) (he : e = .returned (.string ⟨r.toArray⟩)) (hb : Below w.heap.size w w') : unhexPost l w e w' := by
  unfold unhexPost; rw [h]; exact ⟨he, hb⟩

set_option maxHeartbeats 1000000 in
theorem unhexOf_any (s : ByteArray) (w : World) (hs : s.size ≤ 1048576) :
    Calls Try.prog 37 #[.string s] w fun e w' => unhexPost s.data.toList w e w' := by
  have hm : ((s.size : Int)).tmod 2 = (s.size : Int) % 2 := Int.tmod_eq_emod_of_nonneg (by omega)
  by_cases hodd : s.size % 2 = 1
  · have ho : ((s.size : Int) % 2 != 0) = true := by simp; omega
    have hu := Lib.hid (unhexl_odd s.data.toList (by simpa using hodd))
    go_enter Try.func37, Try.ntmps37
    go_wp2
    exact ⟨rfl, unhexPost_none hu.out rfl (Below.refl _ _)⟩
  · have ho : ((s.size : Int) % 2 != 0) = false := by simp; omega
    go_enter Try.func37, Try.ntmps37
    go_wp2_with (refine wpList_mk Try.el_u8 rfl _ _ rfl w.heap.size w (Below.refl _ _) (Nat.le_refl _) _ _ _ (s.size / 2) rfl rfl (by omega) (by omega) (by omega) ?_)
    intro w1 hown1 hb1 _ _
    go_wp2
    go_loopw [3, 4] (fun v i wr => ∃ (j : Nat) (acc : List UInt8), 2 * j ≤ s.size ∧ i = .int .i64 (2 * j : Nat) ∧ unhexl (s.data.toList.take (2 * j)) = some acc ∧ wr.ownsRow w.heap.size 5 1 v j (acc.map bv) ∧ Below w.heap.size w wr) (fun _ i _ => s.size - (intOf i).toNat)
    case atStart => exact ⟨0, [], by omega, rfl, rfl, hown1, hb1⟩
    case round =>
      obtain ⟨j, acc, hj, rfl, hac, hown, hbr⟩ := hrel
      have Hac := Lib.hid hac
      clear hac hm ho hown1 hb1
      have hbr0 := hbr.size
      by_cases hlt : 2 * j < s.size
      · have hlt1 : 2 * j + 1 < s.size := by omega
        have Hst := Lib.hid (unhexl_step s j hlt1 acc Hac.out)
        have q1 : IntKind.i64.wrap (2 * (j : Int) + 1) = 2 * (j : Int) + 1 := by rw [IntKind.wrap_i64]; omega
        have q2 : (2 * (j : Int) + 1).toNat = 2 * j + 1 := by omega
        have q3 : (0 : Int) ≤ 2 * (j : Int) + 1 := by omega
        have q4 : 2 * (j : Int) + 1 < (s.size : Int) := by omega
        go_wp2
        refine ord_start [(0, true), (1, true), (2, true), (3, true), (6, true), (7, true), (8, true), (9, true), (4, false), (5, true), (10, false), (11, true), (12, false), (13, false), (14, true)] (fun _ => True) (by kernel_rfl) (by kernel_rfl) rfl (by kernel_rfl) ?_
        intro ops' hops
        clear hops
        simp only [List.map_cons, List.map_nil, pickOp_zero, pickOp_succ]
        iterate 8 (refine ord_flo ?_ (fun _ _ _ h => h) rfl ?_ trivial ?_; rotate_left; focus (intro _ _; go_simp; rfl))
        refine ord_ev rfl ?_
        go_simp
        cases hcx : halfc s[2 * j] with
        | none =>
          refine (halfOf_none _ hcx _).mono ?_
          rintro e w' ⟨rfl, rfl⟩
          exact ⟨rfl, unhexPost_none (Hst.out.2 (.inl hcx)) rfl hbr.drew⟩
        | some x =>
          have hx15 := halfc_le hcx
          refine (halfOf_some _ x hcx _).mono ?_
          rintro e w' ⟨rfl, rfl⟩
          refine ord_flo ?_ (fun _ _ _ h => h) rfl ?_ trivial ?_; rotate_left; focus (intro _ _; go_simp; rfl)
          refine ord_ev rfl ?_
          go_simp
          cases hcy : halfc s[2 * j + 1] with
          | none =>
            refine (halfOf_none _ hcy _).mono ?_
            rintro e w' ⟨rfl, rfl⟩
            exact ⟨rfl, unhexPost_none (Hst.out.2 (.inr hcy)) rfl hbr.drew⟩
          | some y =>
            have hy15 := halfc_le hcy
            refine (halfOf_some _ y hcy _).mono ?_
            rintro e w' ⟨rfl, rfl⟩
            refine ord_flo ?_ (fun _ _ _ h => h) rfl ?_ trivial ?_; rotate_left; focus (intro _ _; go_simp; rfl)
            refine ord_ev rfl ?_
            go_simp
            refine ord_ev rfl ?_
            refine wp_app1 Try.el_u8 (.tmp 20) (.tmp 32) rfl w wr u3 j _ rfl hown hbr hbr0 _ (.inl rfl) 1 1 rfl rfl (by simp [Value.oneCell']) (by omega) (by omega) (by omega) ?_
            intro g cap w' hown' hbr' _ _ _
            refine ⟨trivial, ?_⟩
            refine ord_flo ?_ (fun _ _ _ h => h) rfl ?_ trivial ?_; rotate_left; focus (intro _ _; go_simp; rfl)
            refine ord_done ?_
            clear hown hbr hbr0
            go_wp2
            go_roundw
            case rel =>
              refine ⟨j + 1, _, by omega, by go_num, Hst.out.1 x y hcx hcy, ?_, hbr'⟩
              rw [List.map_append, List.map_singleton, bv_ofNat (by omega)]
              rw [← or16 x y hx15 hy15]
              exact hown'
            case measure => simp [intOf]; omega
      · obtain rfl : j = s.size / 2 := by omega
        have e2 : 2 * (s.size / 2) = s.size := by omega
        rw [e2, take_str_all] at Hac
        have hl := unhexl_len _ _ Hac.out
        have hback := conv_own (P := Try.prog) 22 9 5 hown (by simp at hl; omega) Try.underlying22 Try.underlying5 Try.underlying9
        clear hown hl e2
        go_wp2
        go_ret
        exact unhexPost_some Hac.out rfl hbr


theorem unhexCatch_pan (p q : Addr) (x y : Value) (pv : Value) (w : World) (hc : w.cell? p = some x) (hz : w.frozen? p = false) (hd : w.cell? q = some y) (hy : w.frozen? q = false) (hpq : p ≠ q) :
    CallsD Try.prog 36 #[.pointer (some p), .pointer (some q)] (.panicking [{ v := .iface 9 pv, recovered := false }]) w fun e u' w' =>
      e = .returned (.tuple #[]) ∧ u' = .panicking [{ v := .iface 9 pv, recovered := true }] ∧ w' = (w.setCell p (.string ⟨#[]⟩)).setCell q (.bool false) := by
  have hq : (w.setCell p (.string ⟨#[]⟩)).cell? q = some y := (World.cell?_setCell_other w _ _ _ hpq).trans hd
  refine callsD_of_wpS Try.func36 rfl fun c₀ cs hu => ?_
  apply wpS_seq
  apply wpS_region
  simp [wpOpsS, go_sem, recoverD, hu, Try.ntmps36, Exit.thenS]
  refine wpS_cond (t := true) (by simp [Act.eval, Array.replicate]) ?_
  simp only [if_true]
  apply wpS_region
  simp [wpOpsS, go_sem, hc, hz, hy, hq, bodyPostS, results, Try.results36]

theorem unhexCatch_idle (p q : Addr) (w : World) :
    CallsD Try.prog 36 #[.pointer (some p), .pointer (some q)] .returning w fun e u' w' => e = .returned (.tuple #[]) ∧ u' = .returning ∧ w' = w := by
  refine callsD_of_wpS Try.func36 rfl fun c₀ cs hu => ?_
  apply wpS_seq
  apply wpS_region
  simp [wpOpsS, go_sem, recoverD, hu, Try.ntmps36, Exit.thenS]
  refine wpS_cond (t := false) (by simp [Act.eval, Array.replicate]) ?_
  simp only [Bool.false_eq_true, if_false]
  refine wpS_of_wp (wp_skip ?_)
  cases c₀
  simp_all [bodyPostS, results, Try.results36]

set_option maxHeartbeats 400000 in
theorem implUnhex_any (s : ByteArray) (w : World) (hs : s.size ≤ 1048576) :
    Calls Try.prog 14 #[.string s] w fun e w' => e = .returned (unhexV s.data.toList) ∧ Below w.heap.size w w' := by
  cases hu : unhexl s.data.toList with
  | none =>
    have hV : unhexV s.data.toList = .tuple #[.string ⟨#[]⟩, .bool false] := by unfold unhexV; rw [hu]
    rw [hV]
    clear hV
    have HU := Lib.hid hu
    clear hu
    have hmf : ∀ (fn : Fn) (first cap : Array Value) (w : World), (Instr.makeFunc fn first cap).run Try.prog w = .ok (.func fn first cap) w := fun _ _ _ _ => rfl
    go_enter_defers Try.func14, Try.ntmps14
    go_wp2_with fail
    refine (unhexOf_any s _ hs).mono ?_
    intro e w1 hp
    obtain ⟨he, hb⟩ := hp
    have hz : w.heap.size + 2 ≤ w1.heap.size := by have := hb.size; simp at this; omega
    have hb0 : Below w.heap.size w w1 := (((Below.refl _ _).alloc (Nat.le_refl _) _).alloc (by simp) _).trans (hb.mono (by simp; omega))
    have c1 : w1.cell? ⟨w.heap.size, 0, none⟩ = some (.string ⟨#[]⟩) := (hb.cell (p := ⟨w.heap.size, 0, none⟩) (by simp; omega)).trans (by simp [go_sem])
    have c2 : w1.cell? ⟨w.heap.size + 1, 0, none⟩ = some (.bool false) := (hb.cell (p := ⟨w.heap.size + 1, 0, none⟩) (by simp)).trans (by simp [go_sem])
    have f1 : w1.frozen? ⟨w.heap.size, 0, none⟩ = false := (hb.frozen (p := ⟨w.heap.size, 0, none⟩) (by simp; omega)).trans (by simp [go_sem])
    have f2 : w1.frozen? ⟨w.heap.size + 1, 0, none⟩ = false := (hb.frozen (p := ⟨w.heap.size + 1, 0, none⟩) (by simp)).trans (by simp [go_sem])
    have hne : (⟨w.heap.size, 0, none⟩ : Addr) ≠ ⟨w.heap.size + 1, 0, none⟩ := by intro h; injection h with h; omega
    rw [HU.out] at he
    simp only at he
    subst he
    clear hb
    refine leaves_cons (f := 36) (args := #[.pointer (some ⟨w.heap.size, 0, none⟩), .pointer (some ⟨w.heap.size + 1, 0, none⟩)]) (by simp) (by simp [go_sem]) ?_
    refine (unhexCatch_pan _ _ _ _ _ w1 c1 f1 c2 f2 hne).mono ?_
    rintro e u' w'' ⟨rfl, rfl, rfl⟩
    simp [Leaves, settle, results, Try.results14, go_sem, c1, c2]
    exact (hb0.setCell (Nat.le_refl _) _).setCell (by simp) _
  | some r =>
    have hV : unhexV s.data.toList = .tuple #[.string ⟨r.toArray⟩, .bool true] := by unfold unhexV; rw [hu]
    rw [hV]
    clear hV
    have HU := Lib.hid hu
    clear hu
    have hmf : ∀ (fn : Fn) (first cap : Array Value) (w : World), (Instr.makeFunc fn first cap).run Try.prog w = .ok (.func fn first cap) w := fun _ _ _ _ => rfl
    go_enter_defers Try.func14, Try.ntmps14
    go_wp2_with fail
    refine (unhexOf_any s _ hs).mono ?_
    intro e w1 hp
    obtain ⟨he, hb⟩ := hp
    have hz : w.heap.size + 2 ≤ w1.heap.size := by have := hb.size; simp at this; omega
    have hb0 : Below w.heap.size w w1 := (((Below.refl _ _).alloc (Nat.le_refl _) _).alloc (by simp) _).trans (hb.mono (by simp; omega))
    have c1 : w1.cell? ⟨w.heap.size, 0, none⟩ = some (.string ⟨#[]⟩) := (hb.cell (p := ⟨w.heap.size, 0, none⟩) (by simp; omega)).trans (by simp [go_sem])
    have c2 : w1.cell? ⟨w.heap.size + 1, 0, none⟩ = some (.bool false) := (hb.cell (p := ⟨w.heap.size + 1, 0, none⟩) (by simp)).trans (by simp [go_sem])
    have f1 : w1.frozen? ⟨w.heap.size, 0, none⟩ = false := (hb.frozen (p := ⟨w.heap.size, 0, none⟩) (by simp; omega)).trans (by simp [go_sem])
    have f2 : w1.frozen? ⟨w.heap.size + 1, 0, none⟩ = false := (hb.frozen (p := ⟨w.heap.size + 1, 0, none⟩) (by simp)).trans (by simp [go_sem])
    have hne : (⟨w.heap.size, 0, none⟩ : Addr) ≠ ⟨w.heap.size + 1, 0, none⟩ := by intro h; injection h with h; omega
    rw [HU.out] at he
    simp only at he
    subst he
    clear hb
    go_wp2
    refine leaves_cons (f := 36) (args := #[.pointer (some ⟨w.heap.size, 0, none⟩), .pointer (some ⟨w.heap.size + 1, 0, none⟩)]) (by simp) (by simp [go_sem]) ?_
    refine (unhexCatch_idle _ _ _).mono ?_
    rintro e u' w'' ⟨rfl, rfl, rfl⟩
    simp [Leaves, settle, results, Try.results14, go_sem, c1, c2]
    exact (hb0.setCell (Nat.le_refl _) _).setCell (by simp) _

end Go.Proofs.Ytnlopkbkdchfnaa
