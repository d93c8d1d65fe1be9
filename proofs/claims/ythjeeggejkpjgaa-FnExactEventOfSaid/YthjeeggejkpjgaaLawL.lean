/-
  How the arguments of a law are opened, whatever they are made of: numbers, truths, strings, structs, slices of those. No program is read here.
-/
import Derived.Test.YthjeeggejkpjgaaGb
import Derived.Test.YthjeeggejkpjgaaLawS
import Derived.Test.YthjeeggejkpjgaaLawN
import Derived.Lib.SmallJoins
import Derived.Deep.SlicePairs
namespace Go.Proofs.Ythjeeggejkpjgaa
open Go.ChangeShapes Go.WideShapes Go.ChangeAt Go.RowKit Go.Deep Go.Joins

/-- The shape of one cell. -/
inductive Sh where
  | int
  | bool
  | str
  | rows (e : TypeId) (m : Nat) (fs : List Sh)

mutual
def LfIs : Sh → Lf → Prop
  | .int, x => ∃ n, x = .int n ∧ in64 n
  | .bool, x => ∃ b, x = .bool b
  | .str, x => ∃ l, x = .str l ∧ l.length ≤ 9223372036854775807
  | .rows e m fs, x => ∃ els : List (List Lf), x = .rows e m els.length els.flatten ∧ els.length ≤ 9223372036854775807 ∧ ∀ y ∈ els, LsIs fs y
def LsIs : List Sh → List Lf → Prop
  | [], xs => xs = []
  | s :: ss, xs => ∃ y ys, xs = y :: ys ∧ LfIs s y ∧ LsIs ss ys
end
theorem LsIs.length : ∀ {ss : List Sh} {xs : List Lf}, LsIs ss xs → xs.length = ss.length
  | [], _, h => by rw [h]; rfl
  | _ :: ss, _, h => by obtain ⟨y, ys, rfl, _, h2⟩ := h; simp [LsIs.length h2]
theorem LsIs.append : ∀ {a b : List Sh} {xs ys : List Lf}, LsIs a xs → LsIs b ys → LsIs (a ++ b) (xs ++ ys)
  | [], b, xs, ys, h1, h2 => by rw [h1]; exact h2
  | s :: a, b, xs, ys, h1, h2 => by
    obtain ⟨y, zs, rfl, h3, h4⟩ := h1
    exact ⟨y, zs ++ ys, rfl, h3, LsIs.append h4 h2⟩

def shFields (P : Program) (g : TypeId → Option (List Sh)) : Nat → List Field → Option (List Sh)
  | _, [] => some []
  | acc, f :: r => (g f.type).bind fun s => if f.offset = acc ∧ P.cellsOf f.type = s.length then (shFields P g (acc + s.length) r).map fun ss => s ++ ss else none
/-- The shape of a type's cells, off the program's tables. -/
def shOf (P : Program) : Nat → TypeId → Option (List Sh)
  | 0, _ => none
  | n + 1, t => match P.underlying t with
    | some .bool => some [.bool]
    | some (.int .i64) => some [.int]
    | some .string => some [.str]
    | some (.slice e) => (shOf P n e).bind fun fs => if 0 < fs.length ∧ P.cellsOf e = fs.length then some [.rows e fs.length fs] else none
    | some (.struct fds) => (shFields P (shOf P n) 0 fds.toList).bind fun fs => if P.cellsOf t = fs.length then some fs else none
    | _ => none

theorem lsRd_flat {W : World} {L : Nat → List Lf} {C : Nat → List Value} : ∀ (k : Nat), (∀ i, i < k → LsRd W (L i) (C i)) → LsRd W ((List.range k).flatMap L) ((List.range k).flatMap C)
  | 0, _ => rfl
  | k + 1, h => by
    rw [List.range_succ, List.flatMap_append, List.flatMap_append]
    exact LsRd.append.2 ⟨_, _, rfl, lsRd_flat k (fun i hi => h i (by omega)), by simpa using h k (by omega)⟩
theorem flat_len_at {C : Nat → List Value} {m : Nat} : ∀ (k : Nat), (∀ i, i < k → (C i).length = m) → ((List.range k).flatMap C).length = k * m
  | 0, _ => by simp
  | k + 1, h => by rw [List.range_succ, List.flatMap_append, List.length_append, flat_len_at k (fun i hi => h i (by omega))]; simp [h k (by omega), Nat.succ_mul]
theorem flat_get {C : Nat → List Value} {m : Nat} (hm : 0 < m) : ∀ (k : Nat), (∀ i, i < k → (C i).length = m) → ∀ (j : Nat) (u : Value), ((List.range k).flatMap C)[j]? = some u → j / m < k ∧ (C (j / m))[j % m]? = some u
  | 0, _, j, u, h => by simp at h
  | k + 1, hC, j, u, h => by
    have hl := flat_len_at k (fun i hi => hC i (by omega))
    rw [List.range_succ, List.flatMap_append] at h
    by_cases hj : j < k * m
    · rw [List.getElem?_append_left (by rw [hl]; exact hj)] at h
      have := flat_get hm k (fun i hi => hC i (by omega)) j u h
      exact ⟨by omega, this.2⟩
    · rw [List.getElem?_append_right (by rw [hl]; omega), hl] at h
      simp only [List.flatMap_cons, List.flatMap_nil, List.append_nil] at h
      have hlt : j - k * m < m := by have h9 := (List.getElem?_eq_some_iff.1 h).1; rwa [hC k (by omega)] at h9
      obtain ⟨r, hr⟩ : ∃ r, j = m * k + r := ⟨j - k * m, by rw [Nat.mul_comm]; omega⟩
      have hrj : j - k * m = r := by rw [hr, Nat.mul_comm]; omega
      rw [hrj] at h hlt
      have e1 : j / m = k := by rw [hr, Nat.mul_add_div hm, Nat.div_eq_of_lt hlt]; omega
      have e2 : j % m = r := by rw [hr, Nat.mul_add_mod, Nat.mod_eq_of_lt hlt]
      rw [e1, e2]
      exact ⟨by omega, h⟩

section
variable {H : Type} {enc : TypeId × Value → H} {P : Program} {W : World}

theorem trod_fields (n : Nat) (ih : ∀ t shs, shOf P n t = some shs → ∀ fuel cs x, DataW.trod enc P W 0 (fun _ => true) true fuel t cs = some x → ∃ ls, LsRd W ls cs ∧ LsIs shs ls) (k : Nat) (cs : List Value) :
    ∀ (fds : List Field) (acc : Nat) (shs : List Sh), shFields P (shOf P n) acc fds = some shs → (∀ f ∈ fds, ∃ x, DataW.trod enc P W 0 (fun _ => true) true k f.type ((cs.drop f.offset).take (P.cellsOf f.type)) = some x) → cs.length = acc + shs.length →
      ∃ ls, LsRd W ls (cs.drop acc) ∧ LsIs shs ls
  | [], acc, shs, h, _, hl => by
    simp only [shFields, Option.some.injEq] at h
    subst h
    exact ⟨[], List.drop_of_length_le (by simp at hl; omega), rfl⟩
  | f :: r, acc, shs, h, ht, hl => by
    simp only [shFields, Option.bind_eq_some_iff] at h
    obtain ⟨s, h1, h2⟩ := h
    split at h2
    · rename_i hc
      simp only [Option.map_eq_some_iff] at h2
      obtain ⟨ss, h3, rfl⟩ := h2
      obtain ⟨x, hx⟩ := ht f (by simp)
      obtain ⟨l1, r1, i1⟩ := ih _ _ h1 _ _ _ hx
      obtain ⟨l2, r2, i2⟩ := trod_fields n ih k cs r (acc + s.length) ss h3 (fun g hg => ht g (by simp [hg])) (by simp at hl; omega)
      refine ⟨l1 ++ l2, ?_, i1.append i2⟩
      rw [hc.1, hc.2] at r1
      have : cs.drop acc = (cs.drop acc).take s.length ++ cs.drop (acc + s.length) := by
        rw [← List.drop_drop, List.take_append_drop]
      rw [this]
      exact LsRd.append.2 ⟨_, _, rfl, r1, r2⟩
    · cases h2

theorem trod_leaves : ∀ (n : Nat) (t : TypeId) (shs : List Sh), shOf P n t = some shs → ∀ fuel cs x, DataW.trod enc P W 0 (fun _ => true) true fuel t cs = some x → ∃ ls, LsRd W ls cs ∧ LsIs shs ls
  | 0, t, shs, h, _, _, _, _ => by simp [shOf] at h
  | n + 1, t, shs, h, fuel, cs, x, hx => by
    unfold shOf at h
    split at h
    · rename_i ht
      injection h with h
      subst h
      obtain ⟨b, rfl, _⟩ := DataW.trod_bool ht hx
      exact ⟨[.bool b], ⟨_, _, rfl, rfl, rfl⟩, ⟨_, _, rfl, ⟨b, rfl⟩, rfl⟩⟩
    · rename_i ht
      injection h with h
      subst h
      obtain ⟨k, rfl, _, hw⟩ := DataW.trod_int ht hx
      exact ⟨[.int k], ⟨_, _, rfl, rfl, rfl⟩, ⟨_, _, rfl, ⟨k, rfl, in64_of hw⟩, rfl⟩⟩
    · rename_i ht
      injection h with h
      subst h
      obtain ⟨s, rfl, _, hz⟩ := DataW.trod_string ht hx
      exact ⟨[.str s.data.toList], ⟨_, _, rfl, (sv_data s).symm, rfl⟩, ⟨_, _, rfl, ⟨_, rfl, by unfold maxLen at hz; simpa using hz⟩, rfl⟩⟩
    · rename_i e ht
      simp only [Option.bind_eq_some_iff] at h
      obtain ⟨fs, h1, h2⟩ := h
      split at h2
      · rename_i hc
        injection h2 with h2
        subst h2
        rcases open_slice ht hx with ⟨rfl, _⟩ | ⟨a, len, cap, m, k, D, Pl, rfl, _, hl, hm, hmm, _, hel⟩
        · exact ⟨[.rows e fs.length 0 []], ⟨_, _, rfl, ⟨by simp, none, 0, rfl, .inl rfl⟩, rfl⟩, ⟨_, _, rfl, ⟨[], rfl, by simp, by simp⟩, rfl⟩⟩
        · simp only [if_true] at hmm
          obtain rfl : cap = m := hmm.symm
          have hk : ∀ i, i < len → ∃ q : List Lf × List Value, W.cells? 0 (a.add (i * P.cellsOf e)) (P.cellsOf e) = some q.2 ∧ LsRd W q.1 q.2 ∧ LsIs fs q.1 := by
            intro i hi
            obtain ⟨cs', c1, c2⟩ := hel i (by omega)
            obtain ⟨ls, r1, r2⟩ := trod_leaves n e fs h1 _ _ _ c2
            exact ⟨(ls, cs'), c1, r1, r2⟩
          haveI : Inhabited (List Lf × List Value) := ⟨([], [])⟩
          obtain ⟨q, hq⟩ := choose_lt hk
          refine ⟨[.rows e fs.length len ((List.range len).flatMap fun i => (q i).1)], ⟨_, _, rfl, ?_, rfl⟩, ⟨_, _, rfl, ⟨(List.range len).map fun i => (q i).1, ?_, ?_, ?_⟩, rfl⟩⟩
          · have hlen : ∀ i, i < len → ((q i).2).length = fs.length := fun i hi => by rw [← hc.2]; exact (World.cells?_some (hq i hi).1).2.1
            have hfl : ((List.range len).flatMap fun i => (q i).1).length = len * fs.length := by
              have h1 := LsRd.length (lsRd_flat (W := W) (L := fun i => (q i).1) (C := fun i => (q i).2) len (fun i hi => (hq i hi).2.1))
              rw [← h1]
              exact flat_len_at len hlen
            refine ⟨hfl, some a, cap, rfl, ?_⟩
            by_cases h0 : len = 0
            · exact .inl h0
            · right
              have hc0 := (World.cells?_some (hq 0 (by omega)).1).2.2 0 (by rw [hc.2]; exact hc.1)
              rw [Nat.zero_mul] at hc0
              have hex : ∃ u, ((q 0).2)[0]? = some u := ⟨_, List.getElem?_eq_getElem (by rw [hlen 0 (by omega)]; exact hc.1)⟩
              obtain ⟨u0, hu0⟩ := hex
              rw [hu0] at hc0
              obtain ⟨b, off, spot⟩ := a
              have hsp : spot = none := by simpa [Addr.add] using World.cell?_spot hc0
              subst hsp
              rw [Addr.add_lit, Addr.add_lit] at hc0
              refine ⟨b, off, rfl, World.block_lt_of_cell? W _ hc0, (List.range len).flatMap fun i => (q i).2, fun j u hu => ?_, lsRd_flat (W := W) (L := fun i => (q i).1) (C := fun i => (q i).2) len (fun i hi => (hq i hi).2.1)⟩
              obtain ⟨g1, g2⟩ := flat_get (C := fun i => (q i).2) hc.1 len hlen j u hu
              have hz := (World.cells?_some (hq _ g1).1).2.2 (j % fs.length) (by rw [hc.2]; exact Nat.mod_lt _ hc.1)
              rw [Addr.add_lit, Addr.add_lit, hc.2, g2] at hz
              have hdm := Nat.div_add_mod j fs.length
              rw [Nat.mul_comm] at hdm
              rwa [show off + j / fs.length * fs.length + j % fs.length = off + j by omega] at hz
          · simp [List.flatMap]
          · simp; unfold maxLen at hm; omega
          · intro y hy
            obtain ⟨i, hi, rfl⟩ := List.mem_map.1 hy
            exact (hq i (by simpa using hi)).2.2
      · cases h2
    · rename_i fds ht
      simp only [Option.bind_eq_some_iff] at h
      obtain ⟨fs, h1, h2⟩ := h
      split at h2
      · rename_i hc
        injection h2 with h2
        subst h2
        obtain ⟨xs, k, _, _, hlen, hxl, hf⟩ := DataW.trod_struct ht hx
        have := trod_fields n (fun t shs h => trod_leaves n t shs h) k cs fds.toList 0 fs h1 (fun f hfm => by
          obtain ⟨i, hi, he⟩ := List.getElem_of_mem hfm
          have hi2 : i < xs.length := by rw [hxl]; simpa using hi
          exact ⟨xs[i], (hf i f (by rw [← he]; simp)).trans (List.getElem?_eq_getElem hi2)⟩) (by rw [hlen, hc]; simp)
        simpa using this
      · cases h2
    · cases h

/-- What came in as t reads as leaves of its shape: a struct's value is its cells. -/
theorem open_leaves {t : TypeId} {v : Value} {d : DataW H} {ps : List MemPlace} (n : Nat) (shs : List Sh) (hs : shOf P n t = some shs) (h : DataW.Trod enc P W 0 (fun _ => true) true t v d ps) :
    ∃ ls, LsRd W ls v.cells.toList ∧ LsIs shs ls := by
  obtain ⟨fuel, hf⟩ := h
  exact trod_leaves n t shs hs fuel _ _ hf
end

end Go.Proofs.Ythjeeggejkpjgaa
