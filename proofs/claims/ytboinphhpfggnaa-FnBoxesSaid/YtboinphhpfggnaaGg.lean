/-
  Gg: SetA, SetB, SetC, SetD.
-/
import Derived.Test.YtboinphhpfggnaaGa
import Derived.Test.YtboinphhpfggnaaGc
import Derived.Handy
import Derived.IntWalk

/-
  Chapter 4: spans; the model's SetOk, Members, MembersOf.
-/
namespace Go.Proofs.Ytboinphhpfggnaa
open Go.RowKit

structure Spn where
  low : Int
  high : Int

abbrev spnv (s : Spn) : Value := .agg #[.int .i64 s.low, .int .i64 s.high]
def spnc (s : Spn) : List Value := [.int .i64 s.low, .int .i64 s.high]
def numB (n : Int) : Bool := decide (0 ≤ n) && decide (n ≤ 999999999)
def spnB (s : Spn) : Bool := numB s.low && numB s.high
def setB (l : List Spn) : Bool := l.all spnB && (decide (1 ≤ l.length) && decide (l.length ≤ 5))
def minI (a b : Int) : Int := if a < b then a else b
def maxI (a b : Int) : Int := if b < a then a else b
def endI (x last : Int) : Int := if x = 0 then last else x
def inSpn (x last : Int) (s : Spn) : Bool := decide (minI (endI s.low last) (endI s.high last) ≤ x) && decide (x ≤ maxI (endI s.low last) (endI s.high last))
def inB (l : List Spn) (x last : Int) : Bool := l.any (inSpn x last)
/-- The numbers from 1 on, as many as k. -/
def upTo (k : Nat) : List Int := (List.range k).map fun (i : Nat) => (i : Int) + 1
def membersL (l : List Spn) (n : Int) : List Int := (upTo (minI n 999).toNat).filter fun x => inB l x (minI n 999)
def lastId : List Int → Int
  | [] => 0
  | a :: r => (a :: r).foldl maxI a
def membersOfL (l : List Spn) (ids : List Int) : List Int := ids.filter fun x => inB l x (lastId ids)
theorem upTo_succ (k : Nat) : upTo (k + 1) = upTo k ++ [(k : Int) + 1] := by simp [upTo, List.range_succ]
theorem all_not_at {α : Type} {p : α → Bool} {l : List α} {k : Nat} {x : α} (h : l[k]? = some x) (hp : p x = false) : l.all p = false := by
  rw [Bool.eq_false_iff]
  intro hc
  rw [List.all_eq_true] at hc
  rw [hc x (List.mem_of_getElem? h)] at hp
  cases hp
theorem any_at {α : Type} {p : α → Bool} {l : List α} {k : Nat} {x : α} (h : l[k]? = some x) (hp : p x = true) : l.any p = true := List.any_eq_true.2 ⟨x, List.mem_of_getElem? h, hp⟩
theorem take_at {α : Type} {l : List α} {k : Nat} {x : α} (h : l[k]? = some x) : l.take (k + 1) = l.take k ++ [x] := by
  obtain ⟨h1, h2⟩ := List.getElem?_eq_some_iff.1 h
  rw [List.take_succ_eq_append_getElem h1, h2]
/-- Element k of a slice of pairs. -/
theorem Rd.pair {w : World} {b off k : Nat} {l : List Spn} {x : Spn} (hc : ∀ i x, l[i]? = some x → ∀ j u, (spnc x)[j]? = some u → w.cell? ⟨b, off + i * 2 + j, none⟩ = some u) (h : l[k]? = some x) :
    w.cell? ⟨b, off + k * 2, none⟩ = some (.int .i64 x.low) ∧ w.cell? ⟨b, off + k * 2 + 1, none⟩ = some (.int .i64 x.high) := ⟨hc k x h 0 _ rfl, hc k x h 1 _ rfl⟩

end Go.Proofs.Ytboinphhpfggnaa

/-
  Chapter 4's walks: the model's Members and MembersOf.
-/
namespace Go.Proofs.Ytboinphhpfggnaa
open Go.RowKit

abbrev iv (n : Int) : Value := .int .i64 n
theorem Try.el_int : Elem Try.prog 33 3 1 8 := Elem.mk' (z := .int .i64 0) Try.underlying33 (by kernel_rfl) rfl (by omega)

/-- Numbers that the call made. -/
def IntsPost (ids : List Int) (w : World) (e : Ending) (w' : World) : Prop := ∃ v, e = .returned v ∧ w'.ownsRow w.heap.size 3 1 v ids.length (ids.map iv) ∧ Below w.heap.size w w'

theorem upTo_mem {k : Nat} {x : Int} (h : x ∈ upTo k) : 1 ≤ x ∧ x ≤ k := by
  simp only [upTo, List.mem_map, List.mem_range] at h
  obtain ⟨i, hi, rfl⟩ := h
  omega
theorem filter_upTo_yes {p : Int → Bool} {k : Nat} (h : p ((k : Int) + 1) = true) : (upTo (k + 1)).filter p = (upTo k).filter p ++ [(k : Int) + 1] := by rw [upTo_succ, List.filter_append]; simp [h]
theorem filter_upTo_no {p : Int → Bool} {k : Nat} (h : p ((k : Int) + 1) = false) : (upTo (k + 1)).filter p = (upTo k).filter p := by rw [upTo_succ, List.filter_append]; simp [h]
theorem filter_upTo_le (p : Int → Bool) (k : Nat) : ((upTo k).filter p).length ≤ k := by have := List.length_filter_le p (upTo k); simpa [upTo] using this

theorem foldl_snoc (a : Int) (l : List Int) (x : Int) : (l ++ [x]).foldl maxI a = maxI (l.foldl maxI a) x := by simp
theorem filter_snoc_yes {p : Int → Bool} {l : List Int} {x : Int} (h : p x = true) : (l ++ [x]).filter p = l.filter p ++ [x] := by rw [List.filter_append]; simp [h]
theorem filter_snoc_no {p : Int → Bool} {l : List Int} {x : Int} (h : p x = false) : (l ++ [x]).filter p = l.filter p := by rw [List.filter_append]; simp [h]

end Go.Proofs.Ytboinphhpfggnaa

/-
  Chapter 4: the laws' own helpers on spans and numbers: copy, equality, marks.
-/
namespace Go.Proofs.Ytboinphhpfggnaa
open Go.RowKit

set_option maxHeartbeats 400000 in
theorem eqIntS_same (a b : Value) (l : List Int) (w : World) (ha : Rd1 iv w a l) (hb : Rd1 iv w b l) (hl : l.length ≤ 140737488355328) :
    Calls Try.prog 27 #[a, b] w fun e w' => e = .returned (.bool true) ∧ Below w.heap.size w w' := by
  obtain ⟨p, c1, rfl, hp⟩ := ha.ex
  obtain ⟨q, c2, rfl, hq⟩ := hb.ex
  clear ha hb
  have HP := Lib.hid hp
  have HQ := Lib.hid hq
  clear hp hq
  go_enter Try.func27, Try.ntmps27
  go_wp2
  go_loopw [5] (fun i wr => ∃ k : Nat, k ≤ l.length ∧ i = .int .i64 k ∧ Below w.heap.size w wr) (fun i _ => l.length - (intOf i).toNat)
  case atStart => exact ⟨0, by omega, rfl, Below.refl _ _⟩
  case round =>
    obtain ⟨k, hk, rfl, hbr⟩ := hrel
    by_cases hlt : k < l.length
    · obtain ⟨b1, o1, rfl, hb1, hc1⟩ := HP.out.resolve_left (by intro h; subst h; simp at hlt)
      obtain ⟨b2, o2, rfl, hb2, hc2⟩ := HQ.out.resolve_left (by intro h; subst h; simp at hlt)
      obtain ⟨x, hx⟩ : ∃ x, l[k]? = some x := ⟨_, List.getElem?_eq_getElem hlt⟩
      have e1 : wr.cell? ⟨b1, o1 + k, none⟩ = some (iv x) := (hbr.cell (p := ⟨b1, o1 + k, none⟩) hb1).trans (hc1 k x hx)
      have e2 : wr.cell? ⟨b2, o2 + k, none⟩ = some (iv x) := (hbr.cell (p := ⟨b2, o2 + k, none⟩) hb2).trans (hc2 k x hx)
      clear hc1 hc2 hx HP HQ
      go_wp2
      refine ord_start [(0, true), (1, true), (2, true), (3, true), (4, true), (5, true), (6, true), (7, true), (8, true)] (fun W => W.cell? ⟨b1, o1 + k, none⟩ = some (iv x) ∧ W.cell? ⟨b2, o2 + k, none⟩ = some (iv x)) (by kernel_rfl) (by kernel_rfl) rfl (by kernel_rfl) ?_
      intro ops' hops
      clear hops
      simp only [List.map_cons, List.map_nil, pickOp_zero, pickOp_succ]
      iterate 9 (refine ord_flo ?_ (fun _ _ _ h => h) rfl ?_ ⟨e1, e2⟩ ?_; rotate_left; focus (intro W hS; obtain ⟨s1, s2⟩ := hS; go_simp; rfl))
      refine ord_done ?_
      go_simp
      go_wp2
      go_roundw
      case rel => exact ⟨k + 1, by omega, by go_num, hbr.drew⟩
      case measure => simp [intOf]; omega
    · obtain rfl : k = l.length := by omega
      go_wp2
      go_ret
      exact ⟨rfl, hbr⟩

/-- The numbers k, k + 1 .., as many as n. -/
def imarks (k n : Nat) : List Int := (List.range n).map fun (i : Nat) => ((k + i : Nat) : Int)
theorem imarks_length (k n : Nat) : (imarks k n).length = n := by simp [imarks]
theorem imarks_succ (k n : Nat) : imarks k (n + 1) = imarks k n ++ [((k + n : Nat) : Int)] := by simp [imarks, List.range_succ]
theorem imarks_at (k n i : Nat) (h : i < n) : (imarks k n)[i]? = some ((k + i : Nat) : Int) := by simp [imarks, h]
/-- One cell of an owned row is set, those ahead of it are done. -/
theorem own_one {w : World} {B g n c j : Nat} {e : TypeId} {A rest : List Value} (h : w.ownsRow B e 1 (.slice (some ⟨g, 0, none⟩) n c) n (A ++ rest)) (hA : A.length = j) (hj : j < n) (x : Value) :
    (∃ rest', (w.setCell ⟨g, j, none⟩ x).ownsRow B e 1 (.slice (some ⟨g, 0, none⟩) n c) n ((A ++ [x]) ++ rest')) ∧ (∃ u, w.cell? ⟨g, j, none⟩ = some u) ∧ w.frozen? ⟨g, j, none⟩ = false := by
  have hl : (A ++ rest).length = n := by have := h.1; simpa using this
  have hl0 := hl
  rw [List.length_append, hA] at hl
  refine ⟨?_, ⟨(A ++ rest)[j]'(by omega), by rw [h.cellAt j (by omega)]; exact List.getElem?_eq_getElem _⟩, h.frozenAt _⟩
  cases rest with
  | nil => simp at hl; omega
  | cons r0 r =>
    have h1 := (h.stored j x).1
    rw [List.set_append_right _ _ (by omega), hA, Nat.sub_self, List.set_cons_zero] at h1
    exact ⟨r, by simpa using h1⟩

set_option maxHeartbeats 800000 in
theorem markIntS_any (v : Value) (n : Nat) (xs : List Value) (kk : Int) (k B : Nat) (hkk : kk = (k : Int)) (w : World) (hown : w.ownsRow B 3 1 v n xs) (hk : k ≤ 1000000000000) (hl : n ≤ 1000000000000) :
    Calls Try.prog 29 #[v, .int .i64 kk] w fun e w' => e = .returned (.int .i64 (k + n : Nat)) ∧ w'.ownsRow B 3 1 v n ((imarks k n).map iv) ∧ w.grownBy w' v.ownBlock := by
  subst hkk
  have hex : ∃ p c, v = .slice p n c ∧ (0 < n → ∃ g, p = some ⟨g, 0, none⟩) := by
    rcases h : hown.2 with ⟨hv, h0⟩ | ⟨g, cap, cur, hv, _⟩
    · exact ⟨none, 0, by rw [hv, h0], fun h => by omega⟩
    · exact ⟨_, cap, hv, fun _ => ⟨g, rfl⟩⟩
  obtain ⟨p, c, rfl, hp⟩ := hex
  have HP := Lib.hid hp
  clear hp
  go_enter Try.func29, Try.ntmps29
  go_wp2
  go_loopw [1, 5] (fun kk i wr => ∃ (j : Nat) (rest : List Value), j ≤ n ∧ i = .int .i64 j ∧ kk = .int .i64 (k + j : Nat) ∧ wr.ownsRow B 3 1 (.slice p n c) n ((imarks k j).map iv ++ rest) ∧ w.grownBy wr (Value.ownBlock (.slice p n c))) (fun _ i _ => n - (intOf i).toNat)
  case atStart => exact ⟨0, xs, by omega, rfl, rfl, hown, World.grownBy.refl _ _⟩
  case round =>
    obtain ⟨j, rest, hj, rfl, rfl, hor, hgr⟩ := hrel
    clear hown
    by_cases hlt : j < n
    · obtain ⟨g, rfl⟩ := HP.out (by omega)
      have hqb : k + j ≤ 3000000000000 := by omega
      generalize hq : k + j = q at *
      have HQ := Lib.hid hq
      obtain ⟨hset, ⟨u0, hu0⟩, hf0⟩ := own_one hor (by rw [List.length_map, imarks_length]) hlt (.int .i64 (q : Int))
      have HS := Lib.hid hset
      have HG := Lib.hid (grown_grown hgr (hor.stored j (.int .i64 (q : Int))).2)
      clear hset hor hgr HP hq
      go_wp2
      go_roundw
      case rel =>
        obtain ⟨rest', h⟩ := HS.out
        refine ⟨j + 1, rest', by omega, by go_num, ?_, ?_, HG.out⟩
        · have := HQ.out
          congr 1
          omega
        · rw [imarks_succ, HQ.out, List.map_append]
          exact h
      case measure => simp [intOf]; omega
    · obtain rfl : j = n := by omega
      have hrest : rest = [] := by
        have := hor.1
        rw [List.length_append, List.length_map, imarks_length] at this
        exact List.eq_nil_of_length_eq_zero (by omega)
      subst hrest
      rw [List.append_nil] at hor
      go_wp2
      go_ret
      exact ⟨rfl, hor, hgr⟩

set_option maxHeartbeats 800000 in
theorem heldIntS_any (v : Value) (kk : Int) (n k : Nat) (hkk : kk = (k : Int)) (w : World) (hr : Rd1 iv w v (imarks k n)) (hk : k ≤ 1000000000000) (hl : n ≤ 1000000000000) :
    Calls Try.prog 30 #[v, .int .i64 kk] w fun e w' => e = .returned (.int .i64 (k + n : Nat)) ∧ w = w' := by
  subst hkk
  obtain ⟨p, c, hv, hp⟩ := hr.ex
  rw [imarks_length] at hv
  subst hv
  have HP := Lib.hid hp
  clear hp hr
  go_enter Try.func30, Try.ntmps30
  go_wp2
  go_loop [1, 5] (fun kk i => ∃ j : Nat, j ≤ n ∧ i = .int .i64 j ∧ kk = .int .i64 (k + j : Nat)) (fun _ i => n - (intOf i).toNat)
  case atStart => exact ⟨0, by omega, rfl, rfl⟩
  case round =>
    obtain ⟨j, hj, rfl, rfl⟩ := hrel
    by_cases hlt : j < n
    · obtain ⟨b, o, rfl, hb1, hc1⟩ := HP.out.resolve_left (by intro h; have := congrArg List.length h; rw [imarks_length] at this; simp at this; omega)
      have hqb : k + j ≤ 3000000000000 := by omega
      have e1 : w.cell? ⟨b, o + j, none⟩ = some (.int .i64 ((k + j : Nat) : Int)) := hc1 j _ (imarks_at k n j hlt)
      generalize hq : k + j = q at *
      have HQ := Lib.hid hq
      clear hc1 HP hq
      go_wp2
      go_round
      case rel =>
        refine ⟨j + 1, by omega, by go_num, ?_⟩
        have := HQ.out
        congr 1
        omega
      case measure => simp [intOf]; omega
    · obtain rfl : j = n := by omega
      go_wp2
      go_ret
      exact ⟨rfl, rfl⟩

/-- make([]int, n). -/
theorem wpList_ints {w : World} {ops : Array Oper} {rest : List Oper} {o : Oper} {a : Act} {Q : Exit → Act → World → Prop}
    (hgd : o.guard = none) (l c : Operand) (ho : o.op = Op.makeSlice 33 l c) (B : Nat) (W : World) (hb : Below B W w) (hB : B ≤ w.heap.size) (kl kc : IntKind) (n : Nat) (hl : a.eval l = .int kl (n : Int)) (hc : a.eval c = .int kc (n : Int)) (b2 : 8 * n ≤ 281474976710656)
    (h : ∀ w' xs, w'.ownsRow B 3 1 (.slice (some ⟨w.heap.size, 0, none⟩) n n) n xs → Below B W w' → w.heap.size < w'.heap.size → wpList Try.prog ops Q rest (a.put o.dst (.slice (some ⟨w.heap.size, 0, none⟩) n n)) w') : wpList Try.prog ops Q (o :: rest) a w := by
  obtain ⟨i, h1, h2, h3, h4⟩ := info_parts (show (Try.prog.info? 3).map (fun i => (i.zero, i.size, i.bytes)) = some (some (.int .i64 0), 1, 8) from by kernel_rfl)
  refine wpList_make_full w hgd l c _ ho B 3 i _ 1 Try.underlying33 h1 h2 h3 kl kc (n : Int) (n : Int) n hl hc rfl rfl (by rw [h4]; exact b2) (by unfold maxLen; omega) hB ?_
  intro w' k1 k2
  exact h w' _ k1 (hb.grown k2 hB (fun k hk => by cases hk)) ((k1.lt w.heap.size rfl).2)

/-- The marks that the law lays into n spans from number k on. -/
def smarks (k n : Nat) : List Spn := (List.range n).map fun (i : Nat) => ⟨((k + 2 * i : Nat) : Int), ((k + 2 * i + 1 : Nat) : Int)⟩
theorem smarks_length (k n : Nat) : (smarks k n).length = n := by simp [smarks]
theorem smarks_succ (k n : Nat) : smarks k (n + 1) = smarks k n ++ [⟨((k + 2 * n : Nat) : Int), ((k + 2 * n + 1 : Nat) : Int)⟩] := by simp [smarks, List.range_succ]
theorem smarks_at (k n i : Nat) (h : i < n) : (smarks k n)[i]? = some ⟨((k + 2 * i : Nat) : Int), ((k + 2 * i + 1 : Nat) : Int)⟩ := by simp [smarks, h]

end Go.Proofs.Ytboinphhpfggnaa

/-
  Chapter 4: the laws' helpers: sameInts, times, at0, heldSpanS.
-/
namespace Go.Proofs.Ytboinphhpfggnaa
open Go.RowKit

theorem count_take {l : List Int} {k : Nat} {y : Int} (h : l[k]? = some y) (x : Int) : (l.take (k + 1)).count x = (l.take k).count x + (if (y == x) = true then 1 else 0) := by
  rw [take_at h, List.count_append, List.count_singleton]

end Go.Proofs.Ytboinphhpfggnaa

