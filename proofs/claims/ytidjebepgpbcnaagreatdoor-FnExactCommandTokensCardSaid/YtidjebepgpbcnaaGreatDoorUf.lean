/-
  Uf: CmdA CmdK (what the claim needs of them).
-/
import Derived.Test.YtidjebepgpbcnaaGreatDoorRows
import Derived.WalkKit
import Derived.WalkSpells
import Derived.WalkLawsBesides
import Derived.Laws.IdiomStrings
import Derived.Lib.Hide
import Derived.Deep.AppendLies
import Derived.OrdersHeld
import Derived.Lib.ItoaNum
import Derived.Lib.ItoaMem
import Derived.Lib.AppendStr
import Derived.Lib.ItoaLen
import Derived.Lib.Strings
import Derived.Lib.Bytealg
import Derived.Lib.OthersKept
import Derived.Laws.RangeAny
import Derived.Laws.BitsAllLaws
import Derived.Laws.BitsLemmas
import Derived.IntWalk
import Derived.Test.YtidjebepgpbcnaaGreatDoorProg
import Derived.Laws.IdiomRangeMap
import Derived.Maps.RangeRun
import Derived.Test.YtidjebepgpbcnaaGreatDoorUb
import Derived.Test.YtidjebepgpbcnaaGreatDoorUc
import Derived.Test.YtidjebepgpbcnaaGreatDoorUe

namespace Go.Proofs.YtidjebepgpbcnaaGreatDoor
open Go.RowKit

set_option maxHeartbeats 1600000 in
theorem specTagOk_any (s : ByteArray) (w : World) (hs : s.size ≤ maxLen) :
    Calls Tryz.prog 43 #[.string s] w fun e w' => e = .returned (.bool (tagB s.data.toList)) ∧ w = w' := by
  unfold maxLen at hs
  go_enter Tryz.func43, Tryz.ntmps43
  go_wp2
  go_loopw [3] (fun i wr => ∃ k : Nat, k ≤ s.size ∧ i = .int .i64 k ∧ (s.data.toList.take k).all tagc = true ∧ w = wr) (fun i _ => s.size - (intOf i).toNat)
  case atStart => exact ⟨0, by omega, rfl, rfl, rfl⟩
  case round =>
    obtain ⟨k, hk, rfl, hall, rfl⟩ := hrel
    have HALL := Lib.hid hall
    clear hall
    by_cases hlt : k < s.size
    · have hbn : s[k].toNat < 256 := s[k].toNat_lt
      have c1 := l1In_any (s[k].toNat : Int) 97 122 w
      have c2 := l1In_any (s[k].toNat : Int) 65 90 w
      have c3 := l1In_any (s[k].toNat : Int) 48 57 w
      have hstep : tagc s[k] = true → (s.data.toList.take (k + 1)).all tagc = true := fun h => by
        rw [take_str s k hlt, List.all_append, HALL.out]
        simp [h]
      cases h1 : inR s[k] 97 122 with
      | true =>
        have HN := Lib.hid (hstep (by simp [tagc, h1]))
        rw [show (decide ((97 : Int) ≤ (s[k].toNat : Int)) && decide ((s[k].toNat : Int) ≤ 122)) = true from h1] at c1
        have C1 := Lib.hid c1
        clear c1 c2 c3 h1 hstep
        go_wp2_with fail
        refine (C1.out).mono ?_
        rintro e w1 ⟨rfl, rfl⟩
        go_wp2
        go_roundw
        case rel => exact ⟨k + 1, by omega, by go_num, HN.out, trivial⟩
        case measure => simp [intOf]; omega
      | false =>
        rw [show (decide ((97 : Int) ≤ (s[k].toNat : Int)) && decide ((s[k].toNat : Int) ≤ 122)) = false from h1] at c1
        have C1 := Lib.hid c1
        cases h2 : inR s[k] 65 90 with
        | true =>
          have HN := Lib.hid (hstep (by simp [tagc, h2]))
          rw [show (decide ((65 : Int) ≤ (s[k].toNat : Int)) && decide ((s[k].toNat : Int) ≤ 90)) = true from h2] at c2
          have C2 := Lib.hid c2
          clear c1 c2 c3 h1 h2 hstep
          go_wp2_with fail
          refine (C1.out).mono ?_
          rintro e w1 ⟨rfl, rfl⟩
          go_wp2_with fail
          refine (C2.out).mono ?_
          rintro e w1 ⟨rfl, rfl⟩
          go_wp2
          go_roundw
          case rel => exact ⟨k + 1, by omega, by go_num, HN.out, trivial⟩
          case measure => simp [intOf]; omega
        | false =>
          rw [show (decide ((65 : Int) ≤ (s[k].toNat : Int)) && decide ((s[k].toNat : Int) ≤ 90)) = false from h2] at c2
          have C2 := Lib.hid c2
          cases h3 : inR s[k] 48 57 with
          | true =>
            have HN := Lib.hid (hstep (by simp [tagc, h3]))
            rw [show (decide ((48 : Int) ≤ (s[k].toNat : Int)) && decide ((s[k].toNat : Int) ≤ 57)) = true from h3] at c3
            have C3 := Lib.hid c3
            clear c1 c2 c3 h1 h2 h3 hstep
            go_wp2_with fail
            refine (C1.out).mono ?_
            rintro e w1 ⟨rfl, rfl⟩
            go_wp2_with fail
            refine (C2.out).mono ?_
            rintro e w1 ⟨rfl, rfl⟩
            go_wp2_with fail
            refine (C3.out).mono ?_
            rintro e w1 ⟨rfl, rfl⟩
            go_wp2
            go_roundw
            case rel => exact ⟨k + 1, by omega, by go_num, HN.out, trivial⟩
            case measure => simp [intOf]; omega
          | false =>
            have HV := Lib.hid (tag_bad s k hlt (by simp [tagc, h1, h2, h3]))
            rw [show (decide ((48 : Int) ≤ (s[k].toNat : Int)) && decide ((s[k].toNat : Int) ≤ 57)) = false from h3] at c3
            have C3 := Lib.hid c3
            clear c1 c2 c3 h1 h2 h3 hstep
            go_wp2_with fail
            refine (C1.out).mono ?_
            rintro e w1 ⟨rfl, rfl⟩
            go_wp2_with fail
            refine (C2.out).mono ?_
            rintro e w1 ⟨rfl, rfl⟩
            go_wp2_with fail
            refine (C3.out).mono ?_
            rintro e w1 ⟨rfl, rfl⟩
            go_wp2
            go_ret
            exact ⟨by rw [HV.out]; rfl, rfl⟩
    · obtain rfl : k = s.size := by omega
      have HV := Lib.hid (show tagB s.data.toList = (decide ((1 : Int) ≤ (s.size : Int)) && decide ((s.size : Int) ≤ 8)) by
        have := HALL.out
        rw [take_str_all] at this
        unfold tagB
        rw [this, str_len]
        rfl)
      go_wp2_with fail
      refine (l1In_any _ _ _ _).mono ?_
      rintro e w1 ⟨rfl, rfl⟩
      go_wp2
      go_ret
      exact ⟨by rw [HV.out]; rfl, rfl⟩

set_option maxRecDepth 20000 in
set_option maxHeartbeats 3200000 in
theorem specKindWord_any (k : Int) (w : World) :
    Calls Tryz.prog 20 #[.int .i64 k] w fun e w' => e = .returned (sv (kdW k)) ∧ Below w.heap.size w w' := by
  by_cases hk : 1 ≤ k ∧ k ≤ 15
  · have hc : k = 1 ∨ k = 2 ∨ k = 3 ∨ k = 4 ∨ k = 5 ∨ k = 6 ∨ k = 7 ∨ k = 8 ∨ k = 9 ∨ k = 10 ∨ k = 11 ∨ k = 12 ∨ k = 13 ∨ k = 14 ∨ k = 15 := by omega
    clear hk
    rcases hc with rfl | rfl | rfl | rfl | rfl | rfl | rfl | rfl | rfl | rfl | rfl | rfl | rfl | rfl | rfl
    all_goals
      go_enter Tryz.func20, Tryz.ntmps20
      go_wp2_with fail
      refine (l1In_any _ _ _ _).mono ?_
      rintro e w1 ⟨rfl, rfl⟩
      go_wp2
      go_ret
      exact ⟨rfl, (Below.refl _ _).alloc (Nat.le_refl _) _⟩
  · have HV := Lib.hid (kdW_no hk)
    have hd : (decide ((1 : Int) ≤ k) && decide (k ≤ 15)) = false := by
      rw [Bool.and_eq_false_iff, decide_eq_false_iff_not, decide_eq_false_iff_not]
      omega
    have c1 := l1In_any k 1 15 w
    rw [hd] at c1
    have C1 := Lib.hid c1
    clear c1 hd hk
    go_enter Tryz.func20, Tryz.ntmps20
    go_wp2_with fail
    refine (C1.out).mono ?_
    rintro e w1 ⟨rfl, rfl⟩
    go_wp2
    go_ret
    exact ⟨by rw [HV.out]; rfl, Below.refl _ _⟩

end Go.Proofs.YtidjebepgpbcnaaGreatDoor

namespace Go.Proofs.YtidjebepgpbcnaaGreatDoor
open Go.RowKit

/-- A new key is laid into a map that the call made: at its end. -/
theorem run_insert_new {P : Program} {mty kt et : TypeId} (hm : P.underlying mty = some (.map kt et)) (hd : P.underlying kt = some .string) (w : World) (A : Array MapEntry) (n : Nat) (k : ByteArray) (v : Value)
    (hf : Instr.findNow .string (.string k) A.toList 0 = some none) :
    (Instr.mapUpdate mty (.map (some w.heap.size)) (.string k) v).run P (w.alloc (.map A n)) = .ok () (w.alloc (.map (A.push ⟨.string k, v, n⟩) (n + 1))) := by
  have hb : (w.alloc (.map A n)).heap[w.heap.size]? = some (.map A n) := heap_alloc_new w _
  have hk : MapKept.IsKey .string (.string k) := trivial
  simp [Instr.mapUpdate, run_underlying hm, MapKept.run_getObj_map hb, MapKept.run_checkKey hd hk, MapKept.run_findKey hd hf, MapKept.run_setObj_map _ hb, Result.andThen]
  have hp : ∀ (h : Array Obj) (x y : Obj), (h.push x).setIfInBounds h.size y = h.push y := by
    intro h x y
    apply Array.toList_inj.1
    simp
  show ({ w.alloc (.map A n) with heap := (w.heap.push (.map A n)).setIfInBounds w.heap.size _ } : World) = _
  rw [hp]
  rfl

section
variable {P : Program} (w : World) {ops : Array Oper} {rest : List Oper} {o : Oper} {a : Act} {Q : Exit → Act → World → Prop}
theorem wpList_insert_new (hg : o.guard = none) (mty kt et : TypeId) (m x y : Operand) (hop : o.op = Op.insert mty m x y) (hm : P.underlying mty = some (.map kt et)) (hd : P.underlying kt = some .string)
    (A : Array MapEntry) (n : Nat) (k : ByteArray) (v : Value) (hm' : a.eval m = .map (some w.heap.size)) (hx : a.eval x = .string k) (hv : a.eval y = v)
    (hf : Instr.findNow .string (.string k) A.toList 0 = some none)
    (hK : wpList P ops Q rest (a.put o.dst undef) (w.alloc (.map (A.push ⟨.string k, v, n⟩) (n + 1)))) :
    wpList P ops Q (o :: rest) a (w.alloc (.map A n)) := by
  refine wpList_plain hg fun K' hK' => ?_
  unfold Oper.wp
  simp [execOp, hop, hm', hx, hv, run_insert_new hm hd w A n k v hf, Result.andThen]
  exact hK' _ _ hK
end

def kdEntry (i : Nat) : MapEntry := ⟨sv (kdWords.getD (i + 1) []), .int .i64 ((i : Int) + 1), i⟩
def kdMap : Array MapEntry := #[kdEntry 0, kdEntry 1, kdEntry 2, kdEntry 3, kdEntry 4, kdEntry 5, kdEntry 6, kdEntry 7, kdEntry 8, kdEntry 9, kdEntry 10, kdEntry 11, kdEntry 12, kdEntry 13, kdEntry 14]

theorem kd_mem : ∀ x ∈ kdMap.toList, ∃ v : Int, x.val = .int .i64 v ∧ x.key = sv (kdW v) ∧ x.born < 15 := by
  intro x hx
  have h : x ∈ [kdEntry 0, kdEntry 1, kdEntry 2, kdEntry 3, kdEntry 4, kdEntry 5, kdEntry 6, kdEntry 7, kdEntry 8, kdEntry 9, kdEntry 10, kdEntry 11, kdEntry 12, kdEntry 13, kdEntry 14] := hx
  simp only [List.mem_cons, List.not_mem_nil, or_false] at h
  rcases h with rfl | rfl | rfl | rfl | rfl | rfl | rfl | rfl | rfl | rfl | rfl | rfl | rfl | rfl | rfl <;> exact ⟨_, rfl, rfl, by decide⟩
theorem kd_born : (kdMap.toList.map (·.born)).Nodup := by
  show [0, 1, 2, 3, 4, 5, 6, 7, 8, 9, 10, 11, 12, 13, 14].Nodup
  decide
theorem kd_none {k : Int} (h : ∀ x ∈ kdMap.toList, ¬ valOf x.val = k) : kdW k = [] := by
  by_cases hk : 1 ≤ k ∧ k ≤ 15
  · exfalso
    have hm : ∀ i, i < 15 → kdEntry i ∈ kdMap.toList := by
      intro i hi
      have : kdMap.toList = (List.range 15).map kdEntry := rfl
      rw [this, List.mem_map]
      exact ⟨i, List.mem_range.2 hi, rfl⟩
    have := h _ (hm (k.toNat - 1) (by omega))
    apply this
    show ((k.toNat - 1 : Nat) : Int) + 1 = k
    omega
  · exact kdW_no hk

theorem below_setBlock {w0 w : World} {B r : Nat} (h : Below B w0 w) (hr : B ≤ r) (o : Obj) : Below B w0 (Go.ChangeMaps.setBlock w r o) :=
  ⟨h.os, h.tape, h.output, by have := h.size; simpa [Go.ChangeMaps.setBlock] using this, fun i hi => by
    have := h.block i hi
    rw [← this]
    simp only [Go.ChangeMaps.setBlock]
    rw [Array.getElem?_setIfInBounds_ne (by omega)]⟩

set_option maxRecDepth 20000 in
set_option maxHeartbeats 3200000 in
theorem commandKinds_any (w : World) : Calls Tryz.prog 92 #[] w fun e w' => e = .returned (.map (some w.heap.size)) ∧ w' = w.alloc (.map kdMap 15) := by
  have hmm := @run_makeMap Tryz.prog
  go_enter Tryz.func92, Tryz.ntmps92
  go_wp2_with (refine wpList_insert_new w rfl _ _ _ _ _ _ rfl Tryz.underlying106 Tryz.underlying9 _ _ _ _ rfl rfl rfl (by kernel_rfl) ?_)
  go_ret
  exact ⟨rfl, rfl⟩

set_option maxHeartbeats 1600000 in
theorem implKindWord_at (k : Int) (w : World) :
    Calls Tryz.prog 63 #[.int .i64 k] w fun e w' => e = .returned (sv (kdW k)) ∧ Below w.heap.size w w' := by
  go_enter Tryz.func63, Tryz.ntmps63
  go_wp2_with fail
  refine (commandKinds_any w).mono ?_
  rintro e w1 ⟨rfl, hw1⟩
  have hb : w1.heap[w.heap.size]? = some (.map kdMap 15) := by rw [hw1]; exact heap_alloc_new w _
  have hz1 : w1.heap.size = w.heap.size + 1 := by rw [hw1]; simp
  have hbl : Below w.heap.size w w1 := by rw [hw1]; exact (Below.refl _ w).alloc (Nat.le_refl _) _
  clear hw1
  have hrg := run_range_map (P := Tryz.prog) w1 _ _ _ w.heap.size kdMap 15 Tryz.underlying106 hb
  have hk0 : (w1.alloc (.mapIter (some w.heap.size) 15 #[] 15)).heap[w1.heap.size]? = some (.mapIter (some w.heap.size) 15 #[] 15) := heap_alloc_new w1 _
  have hb0 : (w1.alloc (.mapIter (some w.heap.size) 15 #[] 15)).heap[w.heap.size]? = some (.map kdMap 15) := by rw [heap_alloc_old w1 _ (by omega), hb]
  have hbl0 : Below w.heap.size w (w1.alloc (.mapIter (some w.heap.size) 15 #[] 15)) := hbl.alloc (by omega) _
  have HZ1 := Lib.hid hz1
  generalize (w1.alloc (.mapIter (some w.heap.size) 15 #[] 15)) = W0 at *
  generalize w1.heap.size = r at *
  clear hz1 hb hbl
  go_wp2
  go_loopw [] (fun wr => ∃ seen : Array Nat, wr.heap[r]? = some (.mapIter (some w.heap.size) 15 seen 15) ∧ wr.heap[w.heap.size]? = some (.map kdMap 15) ∧ Below w.heap.size w wr ∧ ∀ x ∈ kdMap.toList, seen.contains x.born = true → ¬ valOf x.val = k)
    (fun wr => (leftOf kdMap (wr.iterSeen r)).size)
  case atStart => exact ⟨#[], hk0, hb0, hbl0, fun x _ h => by simp at h⟩
  case round =>
    clear hk0 hb0 hbl0 hrg
    obtain ⟨seen, hr, hm, hbr, hno⟩ := hrel
    have Hno := Lib.hid hno
    clear hno
    have hsn : wr.iterSeen r = seen := by unfold World.iterSeen; rw [hr]
    have HSN := Lib.hid hsn
    clear hsn
    rcases run_next_at (P := Tryz.prog) wr 0 r w.heap.size 15 15 seen kdMap 15 hr hm (fun x hx => by obtain ⟨_, _, _, h⟩ := kd_mem x hx; exact h) (Nat.le_refl _) with ⟨h0, hrun⟩ | ⟨e, he, w2, hal, hrun⟩
    · have hnx : ∀ ty, (Instr.next (.pointer (some ⟨r, 0, none⟩)) false ty).run Tryz.prog wr = _ := fun _ => hrun
      have HV := Lib.hid (kd_none (fun x hx => Hno.out x hx (all_seen kdMap seen h0 x hx)))
      clear hrun h0 Hno HSN
      go_wp2
      go_ret
      exact ⟨by rw [HV.out]; rfl, hbr⟩
    · obtain ⟨v, hval, hkey, _⟩ := kd_mem e (mem_left he).1
      have hr2 : w2.heap[r]? = some (.mapIter (some w.heap.size) 15 seen 15) := by rcases hal with rfl | rfl <;> exact hr
      have hm2 : w2.heap[w.heap.size]? = some (.map kdMap 15) := by rcases hal with rfl | rfl <;> exact hm
      have hbr2 : Below w.heap.size w w2 := by
        rcases hal with rfl | rfl
        · exact hbr
        · exact hbr.drew
      have hset := MapKept.heap_set (o' := .mapIter (some w.heap.size) 15 (seen.push e.born) 15) hr2
      have hm3 : (Go.ChangeMaps.setBlock w2 r (.mapIter (some w.heap.size) 15 (seen.push e.born) 15)).heap[w.heap.size]? = some (.map kdMap 15) := (hset.2 w.heap.size (by have := HZ1.out; omega)).trans hm2
      have hr3 : (Go.ChangeMaps.setBlock w2 r (.mapIter (some w.heap.size) 15 (seen.push e.born) 15)).heap[r]? = some (.mapIter (some w.heap.size) 15 (seen.push e.born) 15) := hset.1
      have hbr3 : Below w.heap.size w (Go.ChangeMaps.setBlock w2 r (.mapIter (some w.heap.size) 15 (seen.push e.born) 15)) := below_setBlock hbr2 (by have := HZ1.out; omega) _
      have hen := run_entry_at (P := Tryz.prog) _ r w.heap.size 15 seen kdMap 15 e hr3 hm3 (mem_left he).1 kd_born
      have hsn3 : (Go.ChangeMaps.setBlock w2 r (.mapIter (some w.heap.size) 15 (seen.push e.born) 15)).iterSeen r = seen.push e.born := by unfold World.iterSeen; rw [hr3]
      have HLT := Lib.hid (left_shrinks kdMap seen e he)
      have HSN3 := Lib.hid hsn3
      have HM3 := Lib.hid hm3
      have HR3 := Lib.hid hr3
      have HB3 := Lib.hid hbr3
      have HKEY := Lib.hid hkey
      have HVAL := Lib.hid hval
      have HIN := Lib.hid (mem_left he)
      clear hsn3 hm3 hr3 hbr3 hset hr2 hm2 hbr2 hal hr hm hbr
      rw [hval] at hrun hen
      clear hkey hval he
      generalize Go.ChangeMaps.setBlock w2 r (.mapIter (some w.heap.size) 15 (seen.push e.born) 15) = W3 at *
      have hnx : ∀ ty, (Instr.next (.pointer (some ⟨r, 0, none⟩)) false ty).run Tryz.prog wr = _ := fun _ => hrun
      clear hrun
      cases hq : (v == k) with
      | true =>
        obtain rfl : v = k := beq_iff_eq.1 hq
        clear hq
        go_wp2
        go_ret
        exact ⟨by rw [HKEY.out]; rfl, HB3.out⟩
      | false =>
        have HNE := Lib.hid (beq_eq_false_iff_ne.1 hq)
        go_wp2
        go_roundw
        case rel =>
          refine ⟨seen.push e.born, HR3.out, HM3.out, HB3.out, fun x hx hc => ?_⟩
          rw [contains_push] at hc
          rcases Bool.or_eq_true _ _ ▸ hc with h1 | h1
          · exact Hno.out x hx h1
          · have : x = e := born_inj kd_born hx HIN.out.1 (beq_iff_eq.1 h1)
            subst this
            rw [HVAL.out]
            exact HNE.out
        case measure =>
          rw [HSN3.out, HSN.out]
          exact HLT.out
theorem implKindWord_any {G : World → Prop} : ImplKindWord G := fun k W _ _ => implKindWord_at k W

def tagR (r : Int) : Bool := (decide (97 ≤ r) && decide (r ≤ 122)) || (decide (65 ≤ r) && decide (r ≤ 90)) || (decide (48 ≤ r) && decide (r ≤ 57))
theorem tagR_no {r : Int} (h : 122 < r) : tagR r = false := by
  unfold tagR
  rw [decide_eq_false (show ¬ r ≤ 122 by omega), decide_eq_false (show ¬ r ≤ 90 by omega), decide_eq_false (show ¬ r ≤ 57 by omega)]
  simp

theorem inTag_any (r : Int) (w : World) :
    Calls Tryz.prog 89 #[.int .i32 r] w fun e w' => e = .returned (.bool (tagR r)) ∧ w = w' := by
  have HV := Lib.hid (show tagR r = ((decide (97 ≤ r) && decide (r ≤ 122)) || (decide (65 ≤ r) && decide (r ≤ 90)) || (decide (48 ≤ r) && decide (r ≤ 57))) from rfl)
  by_cases h1 : 97 ≤ r <;> by_cases h2 : r ≤ 122 <;> by_cases h3 : 65 ≤ r <;> by_cases h4 : r ≤ 90 <;> by_cases h5 : 48 ≤ r <;> by_cases h6 : r ≤ 57
  all_goals first
    | (exfalso; omega)
    | (simp only [h1, h2, h3, h4, h5, h6, decide_true, decide_false] at HV
       go_enter Tryz.func89, Tryz.ntmps89
       go_wp2
       go_ret
       exact ⟨by rw [HV.out]; rfl, rfl⟩)

theorem tagR_byte (b : UInt8) : tagR (b.toNat : Int) = tagc b := rfl
theorem tagB_end (s : ByteArray) (h : s.data.toList.all tagc = true) : tagB s.data.toList = (decide ((1 : Int) ≤ (s.size : Int)) && decide ((s.size : Int) ≤ 8)) := by
  unfold tagB
  rw [h, str_len]
  rfl

set_option maxHeartbeats 800000 in
theorem implTagOk_at (s : ByteArray) (w : World) (_hs : s.size ≤ maxLen) :
    Calls Tryz.prog 61 #[.string s] w fun e w' => e = .returned (.bool (tagB s.data.toList)) ∧ Below w.heap.size w w' := by
  unfold maxLen at _hs
  have hk0 : (w.iter s 0).heap[w.heap.size]? = some (.stringIter s 0) := World.iter_heap w s 0
  have hb0 : Below w.heap.size w (w.iter s 0) := (Below.refl _ w).alloc (Nat.le_refl _) _
  go_enter Tryz.func61, Tryz.ntmps61
  go_wp2
  go_loopw [2] (fun b wr => ∃ pos : Nat, pos ≤ s.size ∧ b = .bool false ∧ wr.heap[w.heap.size]? = some (.stringIter s pos) ∧ (s.data.toList.take pos).all tagc = true ∧ Below w.heap.size w wr)
    (fun _ wr => s.size - wr.iterPos w.heap.size)
  case atStart => exact ⟨0, Nat.zero_le _, rfl, hk0, rfl, hb0⟩
  case round =>
    obtain ⟨pos, hps, rfl, hk, hall, hbr⟩ := hrel
    have Hall := Lib.hid hall
    clear hall hk0 hb0
    have hmu := Lib.hid (iter_pos hk)
    by_cases hp : pos < s.size
    · have hbn : s[pos].toNat < 256 := s[pos].toNat_lt
      by_cases ha : s[pos].toNat < 128
      · have hnx : ∀ ty, (Instr.next (.pointer (some ⟨w.heap.size, 0, none⟩)) true ty).run Tryz.prog wr = _ := fun ty => Lib.run_next_ascii_at wr w.heap.size s pos ty hk hp ha
        have hk1 := Lib.hid (Lib.iterAt_heap wr w.heap.size s pos (pos + 1) hk)
        have hb1 : Below w.heap.size w (wr.iterAt w.heap.size s (pos + 1)) := Lib.below_iterAt hbr (Nat.le_refl _) s (pos + 1)
        clear hk hbr
        generalize wr.iterAt w.heap.size s (pos + 1) = W1 at hnx hk1 hb1
        have hc := fun W => inTag_any (s[pos].toNat : Int) W
        cases hd : tagR (s[pos].toNat : Int) with
        | true =>
          have HA := Lib.hid (all_take tagc s pos hp)
          have Hd := Lib.hid hd
          rw [hd] at hc
          have HC := Lib.hid hc
          clear hd hc
          go_wp2_with fail
          refine (HC.out _).mono ?_
          rintro e w' ⟨rfl, rfl⟩
          go_wp2
          go_roundw
          case rel => exact ⟨pos + 1, by omega, rfl, hk1.out, by rw [HA.out, Hall.out, ← tagR_byte, Hd.out]; rfl, hb1⟩
          case measure => rw [hmu.out, iter_pos hk1.out]; omega
        | false =>
          have HB := Lib.hid (tag_bad s pos hp hd)
          rw [hd] at hc
          have HC := Lib.hid hc
          clear hd hc
          go_wp2_with fail
          refine (HC.out _).mono ?_
          rintro e w' ⟨rfl, rfl⟩
          go_wp2
          go_ret
          exact ⟨by rw [HB.out]; rfl, hb1⟩
      · have hnx : ∀ ty, (Instr.next (.pointer (some ⟨w.heap.size, 0, none⟩)) true ty).run Tryz.prog wr = _ := fun ty => Lib.run_next_any_at wr w.heap.size s pos ty hk hp
        have hhi := (decode_high s pos hp (by omega)).1
        have hb1 : Below w.heap.size w (wr.iterAt w.heap.size s (pos + (Utf8.decode s pos).2)) := Lib.below_iterAt hbr (Nat.le_refl _) s _
        clear hk hbr
        generalize wr.iterAt w.heap.size s (pos + (Utf8.decode s pos).2) = W1 at hnx hb1
        generalize (Utf8.decode s pos).1 = r at hnx hhi
        have hc := fun W => inTag_any (r : Int) W
        rw [tagR_no (by omega)] at hc
        have HC := Lib.hid hc
        have HB := Lib.hid (tag_bad s pos hp (tagR_no (by omega)))
        clear hc
        go_wp2_with fail
        refine (HC.out _).mono ?_
        rintro e w' ⟨rfl, rfl⟩
        go_wp2
        go_ret
        exact ⟨by rw [HB.out]; rfl, hb1⟩
    · have hnx : ∀ ty, (Instr.next (.pointer (some ⟨w.heap.size, 0, none⟩)) true ty).run Tryz.prog wr = _ := fun ty => Lib.run_next_end_at wr w.heap.size s pos ty hk hp
      obtain rfl : pos = s.size := by omega
      rw [take_str_all] at Hall
      have HE := Lib.hid (tagB_end s Hall.out)
      clear Hall hk hmu
      by_cases h1 : (1 : Int) ≤ (s.size : Int)
      · by_cases h2 : (s.size : Int) ≤ 8
        · rw [show (decide ((1 : Int) ≤ (s.size : Int)) && decide ((s.size : Int) ≤ 8)) = true by simp [h1, h2]] at HE
          go_wp2
          go_ret
          exact ⟨by rw [HE.out]; rfl, hbr⟩
        · rw [show (decide ((1 : Int) ≤ (s.size : Int)) && decide ((s.size : Int) ≤ 8)) = false by simp [h2]] at HE
          go_wp2
          go_ret
          exact ⟨by rw [HE.out]; rfl, hbr⟩
      · rw [show (decide ((1 : Int) ≤ (s.size : Int)) && decide ((s.size : Int) ≤ 8)) = false by simp [h1]] at HE
        go_wp2
        go_ret
        exact ⟨by rw [HE.out]; rfl, hbr⟩
theorem implTagOk_any {G : World → Prop} : ImplTagOk G := fun s W _ h => implTagOk_at s W (by unfold maxLen; omega)

end Go.Proofs.YtidjebepgpbcnaaGreatDoor
