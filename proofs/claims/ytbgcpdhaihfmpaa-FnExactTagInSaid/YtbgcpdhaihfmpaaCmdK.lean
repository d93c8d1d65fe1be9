/-
  Chapter 7, the program: a map literal with constant words as keys, KindWord (a range over it, in whatever order), TagOk.
-/
import Derived.Test.YtbgcpdhaihfmpaaCmdA
import Derived.Laws.IdiomRangeMap
import Derived.Maps.RangeRun
import Derived.WalkKit
namespace Go.Proofs.Ytbgcpdhaihfmpaa
open Go.RowKit

/-- A new key is laid into a map that the call made: at its end. -/
theorem run_insert_new {P : Program} {mty kt et : TypeId} (hm : P.underlying mty = some (.map kt et)) (hd : P.underlying kt = some .string) (w : World) (A : Array MapEntry) (n : Nat) (k : ByteArray) (v : Value)
    (hf : Instr.findNow .string (.string k) A.toList 0 = some none) :
    (Instr.mapUpdate mty (.map (some w.heap.size)) (.string k) v).run P (w.alloc (.map A n)) = .ok () (w.alloc (.map (A.push ⟨.string k, v, n⟩) (n + 1))) := by
  have hb : (w.alloc (.map A n)).heap[w.heap.size]? = some (.map A n) := heap_alloc_new w _
  have hk : MapKept.IsKey .string (.string k) := trivial
  simp [Instr.mapUpdate, run_underlying hm, MapKept.run_getObj_map hb, MapKept.run_checkKey hd hk, MapKept.run_findKey hd hf, MapKept.run_setObj_map _ hb, Result.andThen]
  have hp : ∀ (h : Array Obj) (x y : Obj), (h.push x).setIfInBounds h.size y = h.push y := by
    intro h x y
    apply Array.toList_inj.1
    simp
  show ({ w.alloc (.map A n) with heap := (w.heap.push (.map A n)).setIfInBounds w.heap.size _ } : World) = _
  rw [hp]
  rfl

section
variable {P : Program} (w : World) {ops : Array Oper} {rest : List Oper} {o : Oper} {a : Act} {Q : Exit → Act → World → Prop}
theorem wpList_insert_new (hg : o.guard = none) (mty kt et : TypeId) (m x y : Operand) (hop : o.op = Op.insert mty m x y) (hm : P.underlying mty = some (.map kt et)) (hd : P.underlying kt = some .string)
    (A : Array MapEntry) (n : Nat) (k : ByteArray) (v : Value) (hm' : a.eval m = .map (some w.heap.size)) (hx : a.eval x = .string k) (hv : a.eval y = v)
    (hf : Instr.findNow .string (.string k) A.toList 0 = some none)
    (hK : wpList P ops Q rest (a.put o.dst undef) (w.alloc (.map (A.push ⟨.string k, v, n⟩) (n + 1)))) :
    wpList P ops Q (o :: rest) a (w.alloc (.map A n)) := by
  refine wpList_plain hg fun K' hK' => ?_
  unfold Oper.wp
  simp [execOp, hop, hm', hx, hv, run_insert_new hm hd w A n k v hf, Result.andThen]
  exact hK' _ _ hK
end

def kdEntry (i : Nat) : MapEntry := ⟨sv (kdWords.getD (i + 1) []), .int .i64 ((i : Int) + 1), i⟩
def kdMap : Array MapEntry := #[kdEntry 0, kdEntry 1, kdEntry 2, kdEntry 3, kdEntry 4, kdEntry 5, kdEntry 6, kdEntry 7, kdEntry 8, kdEntry 9, kdEntry 10, kdEntry 11, kdEntry 12, kdEntry 13, kdEntry 14]

theorem kd_mem : ∀ x ∈ kdMap.toList, ∃ v : Int, x.val = .int .i64 v ∧ x.key = sv (kdW v) ∧ x.born < 15 := by
  intro x hx
  have h : x ∈ [kdEntry 0, kdEntry 1, kdEntry 2, kdEntry 3, kdEntry 4, kdEntry 5, kdEntry 6, kdEntry 7, kdEntry 8, kdEntry 9, kdEntry 10, kdEntry 11, kdEntry 12, kdEntry 13, kdEntry 14] := hx
  simp only [List.mem_cons, List.not_mem_nil, or_false] at h
  rcases h with rfl | rfl | rfl | rfl | rfl | rfl | rfl | rfl | rfl | rfl | rfl | rfl | rfl | rfl | rfl <;> exact ⟨_, rfl, rfl, by decide⟩
theorem kd_born : (kdMap.toList.map (·.born)).Nodup := by
  show [0, 1, 2, 3, 4, 5, 6, 7, 8, 9, 10, 11, 12, 13, 14].Nodup
  decide
theorem kd_none {k : Int} (h : ∀ x ∈ kdMap.toList, ¬ valOf x.val = k) : kdW k = [] := by
  by_cases hk : 1 ≤ k ∧ k ≤ 15
  · exfalso
    have hm : ∀ i, i < 15 → kdEntry i ∈ kdMap.toList := by
      intro i hi
      have : kdMap.toList = (List.range 15).map kdEntry := rfl
      rw [this, List.mem_map]
      exact ⟨i, List.mem_range.2 hi, rfl⟩
    have := h _ (hm (k.toNat - 1) (by omega))
    apply this
    show ((k.toNat - 1 : Nat) : Int) + 1 = k
    omega
  · exact kdW_no hk

theorem below_setBlock {w0 w : World} {B r : Nat} (h : Below B w0 w) (hr : B ≤ r) (o : Obj) : Below B w0 (Go.ChangeMaps.setBlock w r o) :=
  ⟨h.os, h.tape, h.output, by have := h.size; simpa [Go.ChangeMaps.setBlock] using this, fun i hi => by
    have := h.block i hi
    rw [← this]
    simp only [Go.ChangeMaps.setBlock]
    rw [Array.getElem?_setIfInBounds_ne (by omega)]⟩

def tagR (r : Int) : Bool := (decide (97 ≤ r) && decide (r ≤ 122)) || (decide (65 ≤ r) && decide (r ≤ 90)) || (decide (48 ≤ r) && decide (r ≤ 57))
theorem tagR_no {r : Int} (h : 122 < r) : tagR r = false := by
  unfold tagR
  rw [decide_eq_false (show ¬ r ≤ 122 by omega), decide_eq_false (show ¬ r ≤ 90 by omega), decide_eq_false (show ¬ r ≤ 57 by omega)]
  simp

theorem inTag_any (r : Int) (w : World) :
    Calls Try.prog 12 #[.int .i32 r] w fun e w' => e = .returned (.bool (tagR r)) ∧ w = w' := by
  have HV := Lib.hid (show tagR r = ((decide (97 ≤ r) && decide (r ≤ 122)) || (decide (65 ≤ r) && decide (r ≤ 90)) || (decide (48 ≤ r) && decide (r ≤ 57))) from rfl)
  by_cases h1 : 97 ≤ r <;> by_cases h2 : r ≤ 122 <;> by_cases h3 : 65 ≤ r <;> by_cases h4 : r ≤ 90 <;> by_cases h5 : 48 ≤ r <;> by_cases h6 : r ≤ 57
  all_goals first
    | (exfalso; omega)
    | (simp only [h1, h2, h3, h4, h5, h6, decide_true, decide_false] at HV
       go_enter Try.func12, Try.ntmps12
       go_wp2
       go_ret
       exact ⟨by rw [HV.out]; rfl, rfl⟩)

theorem tagR_byte (b : UInt8) : tagR (b.toNat : Int) = tagc b := rfl
theorem tagB_end (s : ByteArray) (h : s.data.toList.all tagc = true) : tagB s.data.toList = (decide ((1 : Int) ≤ (s.size : Int)) && decide ((s.size : Int) ≤ 8)) := by
  unfold tagB
  rw [h, str_len]
  rfl

set_option maxHeartbeats 800000 in
theorem implTagOk_at (s : ByteArray) (w : World) (_hs : s.size ≤ maxLen) :
    Calls Try.prog 9 #[.string s] w fun e w' => e = .returned (.bool (tagB s.data.toList)) ∧ Below w.heap.size w w' := by
  unfold maxLen at _hs
  have hk0 : (w.iter s 0).heap[w.heap.size]? = some (.stringIter s 0) := World.iter_heap w s 0
  have hb0 : Below w.heap.size w (w.iter s 0) := (Below.refl _ w).alloc (Nat.le_refl _) _
  go_enter Try.func9, Try.ntmps9
  go_wp2
  go_loopw [2] (fun b wr => ∃ pos : Nat, pos ≤ s.size ∧ b = .bool false ∧ wr.heap[w.heap.size]? = some (.stringIter s pos) ∧ (s.data.toList.take pos).all tagc = true ∧ Below w.heap.size w wr)
    (fun _ wr => s.size - wr.iterPos w.heap.size)
  case atStart => exact ⟨0, Nat.zero_le _, rfl, hk0, rfl, hb0⟩
  case round =>
    obtain ⟨pos, hps, rfl, hk, hall, hbr⟩ := hrel
    have Hall := Lib.hid hall
    clear hall hk0 hb0
    have hmu := Lib.hid (iter_pos hk)
    by_cases hp : pos < s.size
    · have hbn : s[pos].toNat < 256 := s[pos].toNat_lt
      by_cases ha : s[pos].toNat < 128
      · have hnx : ∀ ty, (Instr.next (.pointer (some ⟨w.heap.size, 0, none⟩)) true ty).run Try.prog wr = _ := fun ty => Lib.run_next_ascii_at wr w.heap.size s pos ty hk hp ha
        have hk1 := Lib.hid (Lib.iterAt_heap wr w.heap.size s pos (pos + 1) hk)
        have hb1 : Below w.heap.size w (wr.iterAt w.heap.size s (pos + 1)) := Lib.below_iterAt hbr (Nat.le_refl _) s (pos + 1)
        clear hk hbr
        generalize wr.iterAt w.heap.size s (pos + 1) = W1 at hnx hk1 hb1
        have hc := fun W => inTag_any (s[pos].toNat : Int) W
        cases hd : tagR (s[pos].toNat : Int) with
        | true =>
          have HA := Lib.hid (all_take tagc s pos hp)
          have Hd := Lib.hid hd
          rw [hd] at hc
          have HC := Lib.hid hc
          clear hd hc
          go_wp2_with fail
          refine (HC.out _).mono ?_
          rintro e w' ⟨rfl, rfl⟩
          go_wp2
          go_roundw
          case rel => exact ⟨pos + 1, by omega, rfl, hk1.out, by rw [HA.out, Hall.out, ← tagR_byte, Hd.out]; rfl, hb1⟩
          case measure => rw [hmu.out, iter_pos hk1.out]; omega
        | false =>
          have HB := Lib.hid (tag_bad s pos hp hd)
          rw [hd] at hc
          have HC := Lib.hid hc
          clear hd hc
          go_wp2_with fail
          refine (HC.out _).mono ?_
          rintro e w' ⟨rfl, rfl⟩
          go_wp2
          go_ret
          exact ⟨by rw [HB.out]; rfl, hb1⟩
      · have hnx : ∀ ty, (Instr.next (.pointer (some ⟨w.heap.size, 0, none⟩)) true ty).run Try.prog wr = _ := fun ty => Lib.run_next_any_at wr w.heap.size s pos ty hk hp
        have hhi := (decode_high s pos hp (by omega)).1
        have hb1 : Below w.heap.size w (wr.iterAt w.heap.size s (pos + (Utf8.decode s pos).2)) := Lib.below_iterAt hbr (Nat.le_refl _) s _
        clear hk hbr
        generalize wr.iterAt w.heap.size s (pos + (Utf8.decode s pos).2) = W1 at hnx hb1
        generalize (Utf8.decode s pos).1 = r at hnx hhi
        have hc := fun W => inTag_any (r : Int) W
        rw [tagR_no (by omega)] at hc
        have HC := Lib.hid hc
        have HB := Lib.hid (tag_bad s pos hp (tagR_no (by omega)))
        clear hc
        go_wp2_with fail
        refine (HC.out _).mono ?_
        rintro e w' ⟨rfl, rfl⟩
        go_wp2
        go_ret
        exact ⟨by rw [HB.out]; rfl, hb1⟩
    · have hnx : ∀ ty, (Instr.next (.pointer (some ⟨w.heap.size, 0, none⟩)) true ty).run Try.prog wr = _ := fun ty => Lib.run_next_end_at wr w.heap.size s pos ty hk hp
      obtain rfl : pos = s.size := by omega
      rw [take_str_all] at Hall
      have HE := Lib.hid (tagB_end s Hall.out)
      clear Hall hk hmu
      by_cases h1 : (1 : Int) ≤ (s.size : Int)
      · by_cases h2 : (s.size : Int) ≤ 8
        · rw [show (decide ((1 : Int) ≤ (s.size : Int)) && decide ((s.size : Int) ≤ 8)) = true by simp [h1, h2]] at HE
          go_wp2
          go_ret
          exact ⟨by rw [HE.out]; rfl, hbr⟩
        · rw [show (decide ((1 : Int) ≤ (s.size : Int)) && decide ((s.size : Int) ≤ 8)) = false by simp [h2]] at HE
          go_wp2
          go_ret
          exact ⟨by rw [HE.out]; rfl, hbr⟩
      · rw [show (decide ((1 : Int) ≤ (s.size : Int)) && decide ((s.size : Int) ≤ 8)) = false by simp [h1]] at HE
        go_wp2
        go_ret
        exact ⟨by rw [HE.out]; rfl, hbr⟩
theorem implTagOk_any {G : World → Prop} : ImplTagOk G := fun s W _ h => implTagOk_at s W (by unfold maxLen; omega)

end Go.Proofs.Ytbgcpdhaihfmpaa
