/-
  Chapter 1's walks: Joined, and the law's helpers that measure and copy a slice of strings.
-/
import Derived.Test.YtidjebepgpbcnaaGb
import Derived.Test.YtidjebepgpbcnaaShelf
import Derived.Lib.AppendStr
import Derived.Lib.Join
import Derived.Deep.Strs
namespace Go.Proofs.Ytidjebepgpbcnaa
open Go.RowKit

/-- make([]T, n). -/
theorem wpList_full {P : Program} {w : World} {ops : Array Oper} {rest : List Oper} {o : Oper} {a : Act} {t e : TypeId} {bytes : Nat} {Q : Exit → Act → World → Prop} (ht : P.underlying t = some (.slice e)) (z : Value) (hi : (P.info? e).map (fun i => (i.zero, i.size, i.bytes)) = some (some z, 1, bytes)) (hz : z.cells = #[z])
    (hgd : o.guard = none) (l c : Operand) (ho : o.op = Op.makeSlice t l c) (B : Nat) (W : World) (hb : Below B W w) (hB : B ≤ w.heap.size) (kl kc : IntKind) (n : Nat) (hl : a.eval l = .int kl (n : Int)) (hc : a.eval c = .int kc (n : Int)) (b2 : bytes * n ≤ 281474976710656) (b3 : n ≤ 281474976710656)
    (h : ∀ w', w'.ownsRow B e 1 (.slice (some ⟨w.heap.size, 0, none⟩) n n) n (List.replicate n z) → Below B W w' → w.grownBy w' none → w.heap.size < w'.heap.size → wpList P ops Q rest (a.put o.dst (.slice (some ⟨w.heap.size, 0, none⟩) n n)) w') : wpList P ops Q (o :: rest) a w := by
  obtain ⟨i, h1, h2, h3, h4⟩ := info_parts hi
  refine wpList_make_full w hgd l c t ho B e i z 1 ht h1 h2 h3 kl kc (n : Int) (n : Int) n hl hc rfl rfl (by rw [h4]; exact b2) (by unfold maxLen; omega) hB ?_
  intro w' k1 k2
  rw [hz, Nat.mul_one, toList_madeCells_one] at k1
  exact h w' k1 (hb.grown k2 hB (fun k hk => by cases hk)) k2 ((k1.lt w.heap.size rfl).2)

theorem strCells_sv (l : List UInt8) : Lib.strCells ⟨l.toArray⟩ = l.map bv := by simp [Lib.strCells]

/-- append(b, s...): the bytes of a string behind a slice of bytes. -/
theorem wpList_apps {P : Program} {w : World} {ops : Array Oper} {rest : List Oper} {o : Oper} {a : Act} {t u e : TypeId} {Q : Exit → Act → World → Prop} (E : Elem P t e 1 1) (hu : P.underlying u = some .string) (hz0 : (P.info? e).bind (·.zero) = some (.int .u8 0)) (hgd : o.guard = none) (sl x : Operand)
    (ho : o.op = .call { callee := .builtin .append, args := #[sl, x], argTypes := #[t, u] }) (B : Nat) (W : World) (hb : Below B W w) (hB : B ≤ w.heap.size)
    (v : Value) (n : Nat) (xs : List Value) (hs : a.eval sl = v) (hown : w.ownsRow B e 1 v n xs) (s : List UInt8) (hx : a.eval x = sv s) (hbytes : n + s.length ≤ 140737488355328)
    (h : ∀ v' w', w'.ownsRow B e 1 v' (n + s.length) (xs ++ s.map bv) → Below B W w' → w.grownBy w' v.ownBlock → wpList P ops Q rest (a.put o.dst v') w') : wpList P ops Q (o :: rest) a w := by
  obtain ⟨ht, ⟨i, z, hi, hz, h2, h3, h4⟩, hp⟩ := E
  rw [hi] at hz0
  have hsz : (ByteArray.mk s.toArray).size = s.length := by show s.toArray.size = _; simp
  refine Lib.wpList_append_own_string w hgd sl x t u ho B e i ht hu hi hz0 h2 h3 v n xs hs hown ⟨s.toArray⟩ hx (by unfold maxLen; omega) (by omega) hB ?_
  intro v' w' k1 k2 _
  rw [strCells_sv, hsz] at k1
  exact h v' w' k1 (hb.grown k2 hB (fun k hk => (hown.lt k hk).1)) k2

/-- How much a list of strings weighs: one a string, and its bytes. -/
def szl (l : List (List UInt8)) : Nat := (l.map fun x => x.length).foldr (· + ·) 0
theorem szl_snoc (l : List (List UInt8)) (x : List UInt8) : szl (l ++ [x]) = szl l + x.length := by
  induction l with
  | nil => simp [szl]
  | cons a l ih => simp only [szl, List.cons_append, List.map_cons, List.foldr_cons] at ih ⊢; omega
theorem szl_take (l : List (List UInt8)) (k : Nat) : szl (l.take k) ≤ szl l := by
  induction l generalizing k with
  | nil => simp
  | cons a l ih =>
    cases k with
    | zero => simp [szl]
    | succ k => have := ih k; simp only [szl, List.take_succ_cons, List.map_cons, List.foldr_cons] at this ⊢; omega

def szR (left : Nat) (l : List (List UInt8)) : Int := if l.length + szl l ≤ left then ((left - (l.length + szl l) : Nat) : Int) else -1
theorem szR_yes {left : Nat} {l : List (List UInt8)} (h : l.length + szl l ≤ left) : szR left l = ((left - (l.length + szl l) : Nat) : Int) := if_pos h
theorem szR_no {left : Nat} {l : List (List UInt8)} (h : ¬ l.length + szl l ≤ left) : szR left l = -1 := if_neg h

set_option maxHeartbeats 400000 in
theorem szStringS_any (v : Value) (l : List (List UInt8)) (left : Nat) (w : World) (hr : Rd1 sv w v l) (hl : l.length ≤ 9223372036854775807) (hx : ∀ x ∈ l, x.length ≤ 9223372036854775807) (hL : left ≤ 1000000000000) :
    Calls Try.prog 59 #[v, .int .i64 left] w fun e w' => e = .returned (.int .i64 (szR left l)) ∧ Below w.heap.size w w' := by
  obtain ⟨p, c, rfl, hp⟩ := hr.ex
  have HP := Lib.hid hp
  have HX := Lib.hid hx
  clear hp hr hx
  by_cases hbig : l.length ≤ left
  · have h1 : ¬ (left : Int) - (l.length : Int) < 0 := by omega
    go_enter Try.func59, Try.ntmps59
    go_wp2
    go_loopw [1, 4, 5] (fun lf r i wr => ∃ j : Nat, j ≤ l.length ∧ i = .int .i64 j ∧ lf = .int .i64 ((left - (l.length + szl (l.take j)) : Nat) : Int) ∧ l.length + szl (l.take j) ≤ left ∧ r = .int .i64 0 ∧ Below w.heap.size w wr) (fun _ _ i _ => l.length - (intOf i).toNat)
    case atStart => exact ⟨0, by omega, rfl, by simp [szl]; omega, by simp [szl]; omega, rfl, Below.refl _ _⟩
    case round =>
      obtain ⟨j, hj, rfl, rfl, hle, rfl, hbr⟩ := hrel
      by_cases hlt : j < l.length
      · obtain ⟨b, o, rfl, hb1, hc1⟩ := HP.out.resolve_left (by intro h; subst h; simp at hlt)
        obtain ⟨x, hx⟩ : ∃ x, l[j]? = some x := ⟨_, List.getElem?_eq_getElem hlt⟩
        have e1 : wr.cell? ⟨b, o + j, none⟩ = some (sv x) := (hbr.cell (p := ⟨b, o + j, none⟩) hb1).trans (hc1 j x hx)
        have hxl : x.length ≤ 9223372036854775807 := HX.out x (List.mem_of_getElem? hx)
        have hsz : (ByteArray.mk x.toArray).size = x.length := by show x.toArray.size = _; simp
        have htk : l.take (j + 1) = l.take j ++ [x] := by
          obtain ⟨h1, h2⟩ := List.getElem?_eq_some_iff.1 hx
          rw [List.take_succ_eq_append_getElem h1, h2]
        have HT := Lib.hid (show szl (l.take (j + 1)) = szl (l.take j) + x.length by rw [htk, szl_snoc])
        have hle2 := szl_take l (j + 1)
        rw [HT.out] at hle2
        clear hc1 hx HP htk HX h1
        by_cases hok : l.length + szl (l.take j) + x.length ≤ left
        · have h2 : ¬ (((left - (l.length + szl (l.take j)) : Nat) : Int) - (x.length : Int) < 0) := by omega
          go_wp2
          go_roundw
          case rel =>
            refine ⟨j + 1, by omega, by go_num, ?_, by rw [HT.out]; omega, rfl, hbr⟩
            rw [HT.out]
            congr 1
            omega
          case measure => simp [intOf]; omega
        · have h2 : ((left - (l.length + szl (l.take j)) : Nat) : Int) - (x.length : Int) < 0 := by omega
          have hno := Lib.hid (szR_no (left := left) (l := l) (by omega))
          go_wp2
          go_ret
          exact ⟨by rw [hno.out]; rfl, hbr⟩
      · obtain rfl : j = l.length := by omega
        rw [List.take_length] at hle ⊢
        go_wp2
        go_ret
        refine ⟨?_, hbr⟩
        rw [szR_yes hle]
        rfl
  · have h1 : (left : Int) - (l.length : Int) < 0 := by omega
    have hno := Lib.hid (szR_no (left := left) (l := l) (by omega))
    go_enter Try.func59, Try.ntmps59
    go_wp2
    go_ret
    exact ⟨by rw [hno.out]; rfl, Below.refl _ _⟩


/-- The first j elements are l's, the rest as many empty strings. -/
def half (l : List (List UInt8)) (j : Nat) : List (List UInt8) := l.take j ++ List.replicate (l.length - j) []
theorem half_zero (l : List (List UInt8)) : half l 0 = List.replicate l.length [] := by simp [half]
theorem half_all (l : List (List UInt8)) : half l l.length = l := by simp [half]
theorem half_length (l : List (List UInt8)) (j : Nat) (h : j ≤ l.length) : (half l j).length = l.length := by simp [half]; omega
theorem half_set (l : List (List UInt8)) (j : Nat) (x : List UInt8) (hx : l[j]? = some x) : (half l j).set j x = half l (j + 1) := by
  obtain ⟨h1, h2⟩ := List.getElem?_eq_some_iff.1 hx
  unfold half
  have hl : (l.take j).length = j := by simp; omega
  rw [List.set_append_right _ _ (by omega), hl, Nat.sub_self, List.take_succ_eq_append_getElem h1, h2, List.append_assoc]
  congr 1
  rw [show l.length - j = (l.length - (j + 1)) + 1 from by omega, List.replicate_succ]
  rfl

set_option maxHeartbeats 400000 in
theorem toStringS_any (v : Value) (l : List (List UInt8)) (w : World) (hr : Rd1 sv w v l) (hl : l.length ≤ 10000000) :
    Calls Try.prog 60 #[v] w fun e w' => ∃ g, e = .returned (.slice (some ⟨g, 0, none⟩) l.length l.length) ∧ w'.ownsRow w.heap.size 9 1 (.slice (some ⟨g, 0, none⟩) l.length l.length) l.length (l.map sv) ∧ Below w.heap.size w w' := by
  obtain ⟨p, c, rfl, hp⟩ := hr.ex
  have HP := Lib.hid hp
  clear hp hr
  go_enter Try.func60, Try.ntmps60
  go_wp2_with (refine wpList_full Try.underlying58 (.string ⟨#[]⟩) (bytes := 16) (by kernel_rfl) rfl rfl _ _ rfl w.heap.size w (Below.refl _ _) (Nat.le_refl _) _ _ l.length rfl rfl (by omega) (by omega) ?_)
  intro w1 hown1 hb1 _ hz1
  have hrep : List.replicate l.length (Value.string ⟨#[]⟩) = (half l 0).map sv := by rw [half_zero]; simp
  rw [hrep] at hown1
  clear hrep
  go_wp2
  go_loopw [4] (fun i wr => ∃ j : Nat, j ≤ l.length ∧ i = .int .i64 j ∧ wr.ownsRow w.heap.size 9 1 (.slice (some ⟨w.heap.size, 0, none⟩) l.length l.length) l.length ((half l j).map sv) ∧ Below w.heap.size w wr) (fun i _ => l.length - (intOf i).toNat)
  case atStart => exact ⟨0, by omega, rfl, hown1, hb1⟩
  case round =>
    obtain ⟨j, hj, rfl, hown, hbr⟩ := hrel
    clear hown1 hb1 hz1
    by_cases hlt : j < l.length
    · obtain ⟨b, o, rfl, hb1, hc1⟩ := HP.out.resolve_left (by intro h; subst h; simp at hlt)
      obtain ⟨x, hx⟩ : ∃ x, l[j]? = some x := ⟨_, List.getElem?_eq_getElem hlt⟩
      have e1 : wr.cell? ⟨b, o + j, none⟩ = some (sv x) := (hbr.cell (p := ⟨b, o + j, none⟩) hb1).trans (hc1 j x hx)
      have hml : ((half l j).map sv).length = l.length := by rw [List.length_map, half_length l j hj]
      have hc2 : ∃ u, wr.cell? ⟨w.heap.size, j, none⟩ = some u := by
        have := hown.cellAt j (by omega)
        rw [this]
        exact ⟨_, List.getElem?_eq_getElem (by rw [hml]; omega)⟩
      obtain ⟨u, hu⟩ := hc2
      have hf2 := hown.frozenAt j
      have HS := Lib.hid (hown.stored j (sv x))
      have HH := Lib.hid (half_set l j x hx)
      have hgw := (hown.lt w.heap.size rfl).2
      clear hc1 hx HP hml hown
      go_wp2
      go_roundw
      case rel =>
        refine ⟨j + 1, by omega, by go_num, ?_, hbr.setCell (Nat.le_refl _) _⟩
        have := HS.out.1
        rw [← List.map_set, HH.out] at this
        exact this
      case measure => simp [intOf]; omega
    · obtain rfl : j = l.length := by omega
      rw [half_all] at hown
      go_wp2
      go_ret
      exact ⟨w.heap.size, rfl, hown, hbr⟩

theorem join_snoc (l : List (List UInt8)) (x sep : List UInt8) : Lib.join (l ++ [x]) sep = if l = [] then x else Lib.join l sep ++ sep ++ x := by
  cases l with
  | nil => simp [Lib.join_one]
  | cons a r =>
    rw [if_neg (by simp), List.cons_append, Lib.join_cons, Lib.join_cons]
    simp [Lib.joinTail]
theorem join_length (sep : List UInt8) (l : List (List UInt8)) : (Lib.join l sep).length ≤ szl l + l.length * sep.length := by
  induction l using rev_ind with
  | nil => simp [Lib.join_nil]
  | snoc l x ih =>
    rw [join_snoc, szl_snoc, List.length_append, Nat.add_mul]
    split
    · simp; omega
    · simp only [List.length_append, List.length_singleton, Nat.one_mul]; omega

theorem own_cells {w : World} {B n g c : Nat} {e : TypeId} {l : List (List UInt8)} (h : w.ownsRow B e 1 (.slice (some ⟨g, 0, none⟩) n c) n (l.map sv)) (i : Nat) (x : List UInt8) (hx : l[i]? = some x) : w.cell? ⟨g, 0 + i, none⟩ = some (sv x) := by
  have hi : i < l.length := (List.getElem?_eq_some_iff.1 hx).1
  have hn : l.length = n := by have := h.1; simpa using this
  rw [Nat.zero_add, h.cellAt i (by omega), List.getElem?_map, hx]
  rfl

end Go.Proofs.Ytidjebepgpbcnaa
