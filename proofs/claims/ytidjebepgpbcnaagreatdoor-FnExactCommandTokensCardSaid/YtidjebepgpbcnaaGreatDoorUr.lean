/-
  Ur: Law LawS LawN LawL LgO OpSpan OpScope OpFilter OpCommand LawCommandOk CmdQ (what the claim needs of them).
-/
import Derived.Test.YtidjebepgpbcnaaGreatDoorRows
import Derived.ProofKit
import Derived.WalkKit
import Derived.WalkSpells
import Derived.WalkLawsBesides
import Derived.Laws.IdiomStrings
import Derived.Lib.Hide
import Derived.Deep.AppendLies
import Derived.OrdersHeld
import Derived.Lib.ItoaNum
import Derived.Lib.ItoaMem
import Derived.Lib.AppendStr
import Derived.Deep.Strs
import Derived.Lib.ItoaLen
import Derived.Lib.Strings
import Derived.Lib.Bytealg
import Derived.Lib.OthersKept
import Derived.Laws.RangeAny
import Derived.Laws.BitsAllLaws
import Derived.Laws.BitsLemmas
import Derived.IntWalk
import Derived.Test.YtidjebepgpbcnaaGreatDoorProg
import Derived.Lib.SmallJoins
import Derived.Deep.SlicePairs
import Derived.Handy
import Derived.Lib.Join
import Derived.Laws.IdiomRangeMap
import Derived.Maps.RangeRun
import Derived.Maps.RangeWalk
import Derived.Deep.DeepCutAuto
import Derived.Deep.Cut
import Derived.Deep.CutRange
import Derived.Deep.LoopGhost
import Derived.Laws.CopyOwn
import Derived.Lib.LaidTab
import Derived.OpenShut
import Derived.WalkSmall
import Derived.ChangeKeysEq
import Derived.Test.YtidjebepgpbcnaaGreatDoorUb
import Derived.Test.YtidjebepgpbcnaaGreatDoorUc
import Derived.Test.YtidjebepgpbcnaaGreatDoorUd
import Derived.Test.YtidjebepgpbcnaaGreatDoorUe
import Derived.Test.YtidjebepgpbcnaaGreatDoorUf
import Derived.Test.YtidjebepgpbcnaaGreatDoorUg
import Derived.Test.YtidjebepgpbcnaaGreatDoorUj
import Derived.Test.YtidjebepgpbcnaaGreatDoorUm
import Derived.Test.YtidjebepgpbcnaaGreatDoorUn
import Derived.Test.YtidjebepgpbcnaaGreatDoorUo
import Derived.Test.YtidjebepgpbcnaaGreatDoorUp
import Derived.Test.YtidjebepgpbcnaaGreatDoorUq

namespace Go.Proofs.YtidjebepgpbcnaaGreatDoor
open Go.ChangeShapes Go.WideShapes Go.ChangeAt Go.RowKit

theorem Tryz.own : ownKnob Tryz.prog.godebug = none := by kernel_rfl
theorem Tryz.laidOut : laidOutB Tryz.prog = true := by kernel_rfl

section
variable {H : Type} {enc : TypeId × Value → H} {P : Program}

theorem trodAll_below (hl : laidOutB P = true) {W W' : World} (hb : Below W.heap.size W W') : ∀ (ts : List TypeId) (vs : List Value) (ds : List (DataW H)) (ps : List MemPlace),
    (∀ t ∈ ts, P.readableRec t = true ∧ t < P.types.size) → (∀ x ∈ ps, x.block < W.heap.size) → DataW.TrodAll enc P W 0 (fun _ => true) true ts vs ds ps →
    DataW.TrodAll enc P W' 0 (fun b => decide (b < W.heap.size)) true ts vs ds ps
  | [], [], [], ps, _, _, h => h
  | t :: ts, v :: vs, d :: ds, ps, ht, hlt, h => by
    obtain ⟨p, q, h1, h2, rfl⟩ := h
    exact ⟨p, q, Below.trod hl (ht t (by simp)).1 (ht t (by simp)).2 h1 hb (fun x hx => hlt x (by simp [hx])),
      trodAll_below hl hb ts vs ds q (fun t' h' => ht t' (by simp [h'])) (fun x hx => hlt x (by simp [hx])) h2, rfl⟩

/-- The end of a law: true came back, the old memory is as it was: so the arguments read as they did. -/
theorem law_post {f : Func} {s : ChangeSpec} {W W' : World} {args : Array Value} {ds gs : List (DataW H)} {before : List MemPlace} {tb : TypeId}
    (hl : laidOutB P = true) (htb : P.underlying tb = some .bool) (hr : f.resultTypes = #[tb]) (hts : ∀ t ∈ f.params.toList, P.readableRec t = true ∧ t < P.types.size)
    (hv : s.vars = []) (hsr : (s.fn H (ds ++ gs)).results = [.lit (.bool true)]) (hsa : (s.fn H (ds ++ gs)).args = ds) (hsv : (s.fn H (ds ++ gs)).vars = [])
    (hW : DataW.Whole enc P f.params.toList s.vars false W args.toList ds gs before) (hb : Below W.heap.size W W') :
    s.post enc P f false true false false W args (.bool true) W' := by
  have hW' := hW
  have hlt := fun p hp => hW.lt p hp
  obtain ⟨p, q, hA, hV, rfl, _, _⟩ := hW
  rw [hv] at hV
  obtain ⟨rfl, rfl⟩ := trodVars_none hV
  refine ⟨ds, [], p ++ [], [], p, [], hW', ?_, ?_, ?_, hb.frame _, fun h => by cases h⟩
  · rw [hsr, hr]
    exact trodAll_mk1 (shut_bool htb true)
  · rw [hsa]
    exact trodAll_below hl hb _ _ _ _ hts (fun x hx => hlt x (by simpa using hx)) hA
  · rw [hsv, hv]
    rfl
end

end Go.Proofs.YtidjebepgpbcnaaGreatDoor

namespace Go.Proofs.YtidjebepgpbcnaaGreatDoor
open Go.ChangeShapes Go.WideShapes Go.ChangeAt Go.RowKit Go.Deep

section
variable {H : Type} {enc : TypeId × Value → H} {P : Program} {W : World} {base : Nat} {v : Value} {d : DataW H} {ps : List MemPlace} {t e : TypeId}

/-- A []byte that came in. -/
theorem open_bytes_any {r : Reach} {b0 : Nat} (ht : P.underlying t = some (.slice e)) (he : P.underlying e = some (.int .u8)) (hc : P.cellsOf e = 1) (hval : Value.okWide P W r b0 t v) (h : DataW.Trod enc P W 0 (fun _ => true) true t v d ps) :
    ∃ l : List UInt8, Rd1 bv W v l := by
  obtain ⟨a, len, cap, rfl⟩ := okWide_slice ht hval
  obtain ⟨fuel, hf⟩ := h
  rcases open_ints ht he hc hf with ⟨hcs, _⟩ | ⟨a', len', cap', zs, hcs, _, hl, hm, hz, _, hcell, hw⟩
  · simp [Value.cells] at hcs
    obtain ⟨rfl, rfl, rfl⟩ := hcs
    exact ⟨[], Rd1.nil⟩
  · simp [Value.cells] at hcs
    obtain ⟨rfl, rfl, rfl⟩ := hcs
    simp only [if_true] at hz
    have hz2 : len ≤ zs.length := by omega
    have hlen : ((zs.take len).map fun n => UInt8.ofNat n.toNat).length = len := by simp; omega
    refine ⟨(zs.take len).map fun n => UInt8.ofNat n.toNat, ⟨some a', cap, by rw [hlen], ?_⟩⟩
    by_cases h0 : len = 0
    · left; subst h0; simp
    · right
      obtain ⟨b, off, spot⟩ := a'
      have hsp : spot = none := by
        have h2 := World.cell?_spot (hcell 0 (by omega))
        unfold Addr.add at h2
        split at h2
        · exact h2
        · rename_i hn; exact absurd rfl hn
      subst hsp
      have hc0 := hcell 0 (by omega)
      rw [Addr.add_lit] at hc0
      refine ⟨b, off, rfl, World.block_lt_of_cell? W _ hc0, fun i x hx => ?_⟩
      rw [List.getElem?_map] at hx
      have hi : i < len := by
        rcases Nat.lt_or_ge i len with h | h
        · exact h
        · rw [List.getElem?_eq_none (by simp; omega)] at hx; cases hx
      rw [List.getElem?_take_of_lt hi] at hx
      have hiz : i < zs.length := by omega
      rw [List.getElem?_eq_getElem hiz] at hx
      cases hx
      have h1 := hcell i hiz
      rw [Addr.add_lit] at h1
      rw [h1]
      have h2 := hw zs[i] (List.getElem_mem hiz)
      have hx2 : 0 ≤ zs[i] ∧ zs[i] ≤ 255 := by simpa [Lit.wf, IntKind.min, IntKind.max, IntKind.signed, IntKind.bits] using h2
      have e1 : ((UInt8.ofNat zs[i].toNat).toNat : Int) = zs[i] := by rw [UInt8.toNat_ofNat_of_lt' (by show zs[i].toNat < 256; omega)]; omega
      show _ = some (Value.int .u8 ((UInt8.ofNat zs[i].toNat).toNat : Int))
      rw [e1]
      simp [hiz]
/-- The same, and its length is at most its capacity. -/
theorem open_bytes_cap {r : Reach} {b0 : Nat} (ht : P.underlying t = some (.slice e)) (he : P.underlying e = some (.int .u8)) (hc : P.cellsOf e = 1) (hval : Value.okWide P W r b0 t v) (h : DataW.Trod enc P W 0 (fun _ => true) true t v d ps) :
    ∃ l : List UInt8, Rd1 bv W v l ∧ ∀ p n c, v = .slice p n c → n ≤ c := by
  obtain ⟨a, len, cap, rfl⟩ := okWide_slice ht hval
  obtain ⟨fuel, hf⟩ := h
  rcases open_ints ht he hc hf with ⟨hcs, _⟩ | ⟨a', len', cap', zs, hcs, _, hl, hm, hz, _, hcell, hw⟩
  · simp [Value.cells] at hcs
    obtain ⟨rfl, rfl, rfl⟩ := hcs
    exact ⟨[], Rd1.nil, fun p n c h => by injection h with _ h2 h3; omega⟩
  · simp [Value.cells] at hcs
    obtain ⟨rfl, rfl, rfl⟩ := hcs
    simp only [if_true] at hz
    have hz2 : len ≤ zs.length := by omega
    have hlen : ((zs.take len).map fun n => UInt8.ofNat n.toNat).length = len := by simp; omega
    refine ⟨(zs.take len).map fun n => UInt8.ofNat n.toNat, ⟨some a', cap, by rw [hlen], ?_⟩, fun p n c h => by injection h with _ h2 h3; omega⟩
    by_cases h0 : len = 0
    · left; subst h0; simp
    · right
      obtain ⟨b, off, spot⟩ := a'
      have hsp : spot = none := by
        have h2 := World.cell?_spot (hcell 0 (by omega))
        unfold Addr.add at h2
        split at h2
        · exact h2
        · rename_i hn; exact absurd rfl hn
      subst hsp
      have hc0 := hcell 0 (by omega)
      rw [Addr.add_lit] at hc0
      refine ⟨b, off, rfl, World.block_lt_of_cell? W _ hc0, fun i x hx => ?_⟩
      rw [List.getElem?_map] at hx
      have hi : i < len := by
        rcases Nat.lt_or_ge i len with h | h
        · exact h
        · rw [List.getElem?_eq_none (by simp; omega)] at hx; cases hx
      rw [List.getElem?_take_of_lt hi] at hx
      have hiz : i < zs.length := by omega
      rw [List.getElem?_eq_getElem hiz] at hx
      cases hx
      have h1 := hcell i hiz
      rw [Addr.add_lit] at h1
      rw [h1]
      have h2 := hw zs[i] (List.getElem_mem hiz)
      have hx2 : 0 ≤ zs[i] ∧ zs[i] ≤ 255 := by simpa [Lit.wf, IntKind.min, IntKind.max, IntKind.signed, IntKind.bits] using h2
      have e1 : ((UInt8.ofNat zs[i].toNat).toNat : Int) = zs[i] := by rw [UInt8.toNat_ofNat_of_lt' (by show zs[i].toNat < 256; omega)]; omega
      show _ = some (Value.int .u8 ((UInt8.ofNat zs[i].toNat).toNat : Int))
      rw [e1]
      simp [hiz]
end

end Go.Proofs.YtidjebepgpbcnaaGreatDoor

namespace Go.Proofs.YtidjebepgpbcnaaGreatDoor
open Go.RowKit

theorem in64_of {n : Int} (h : (Lit.int .i64 n).wf = true) : in64 n := by
  simpa [in64, Lit.wf, IntKind.min, IntKind.max, IntKind.signed, IntKind.bits] using h

end Go.Proofs.YtidjebepgpbcnaaGreatDoor

namespace Go.Proofs.YtidjebepgpbcnaaGreatDoor
open Go.ChangeShapes Go.WideShapes Go.ChangeAt Go.RowKit Go.Deep Go.Joins

/-- The shape of one cell. -/
inductive Sh where
  | int
  | bool
  | str
  | rows (e : TypeId) (m : Nat) (fs : List Sh)

mutual
def LfIs : Sh → Lf → Prop
  | .int, x => ∃ n, x = .int n ∧ in64 n
  | .bool, x => ∃ b, x = .bool b
  | .str, x => ∃ l, x = .str l ∧ l.length ≤ 9223372036854775807
  | .rows e m fs, x => ∃ els : List (List Lf), x = .rows e m els.length els.flatten ∧ els.length ≤ 9223372036854775807 ∧ ∀ y ∈ els, LsIs fs y
def LsIs : List Sh → List Lf → Prop
  | [], xs => xs = []
  | s :: ss, xs => ∃ y ys, xs = y :: ys ∧ LfIs s y ∧ LsIs ss ys
end
theorem LsIs.length : ∀ {ss : List Sh} {xs : List Lf}, LsIs ss xs → xs.length = ss.length
  | [], _, h => by rw [h]; rfl
  | _ :: ss, _, h => by obtain ⟨y, ys, rfl, _, h2⟩ := h; simp [LsIs.length h2]
theorem LsIs.append : ∀ {a b : List Sh} {xs ys : List Lf}, LsIs a xs → LsIs b ys → LsIs (a ++ b) (xs ++ ys)
  | [], b, xs, ys, h1, h2 => by rw [h1]; exact h2
  | s :: a, b, xs, ys, h1, h2 => by
    obtain ⟨y, zs, rfl, h3, h4⟩ := h1
    exact ⟨y, zs ++ ys, rfl, h3, LsIs.append h4 h2⟩

def shFields (P : Program) (g : TypeId → Option (List Sh)) : Nat → List Field → Option (List Sh)
  | _, [] => some []
  | acc, f :: r => (g f.type).bind fun s => if f.offset = acc ∧ P.cellsOf f.type = s.length then (shFields P g (acc + s.length) r).map fun ss => s ++ ss else none
/-- The shape of a type's cells, off the program's tables. -/
def shOf (P : Program) : Nat → TypeId → Option (List Sh)
  | 0, _ => none
  | n + 1, t => match P.underlying t with
    | some .bool => some [.bool]
    | some (.int .i64) => some [.int]
    | some .string => some [.str]
    | some (.slice e) => (shOf P n e).bind fun fs => if 0 < fs.length ∧ P.cellsOf e = fs.length then some [.rows e fs.length fs] else none
    | some (.struct fds) => (shFields P (shOf P n) 0 fds.toList).bind fun fs => if P.cellsOf t = fs.length then some fs else none
    | _ => none

theorem lsRd_flat {W : World} {L : Nat → List Lf} {C : Nat → List Value} : ∀ (k : Nat), (∀ i, i < k → LsRd W (L i) (C i)) → LsRd W ((List.range k).flatMap L) ((List.range k).flatMap C)
  | 0, _ => rfl
  | k + 1, h => by
    rw [List.range_succ, List.flatMap_append, List.flatMap_append]
    exact LsRd.append.2 ⟨_, _, rfl, lsRd_flat k (fun i hi => h i (by omega)), by simpa using h k (by omega)⟩
theorem flat_len_at {C : Nat → List Value} {m : Nat} : ∀ (k : Nat), (∀ i, i < k → (C i).length = m) → ((List.range k).flatMap C).length = k * m
  | 0, _ => by simp
  | k + 1, h => by rw [List.range_succ, List.flatMap_append, List.length_append, flat_len_at k (fun i hi => h i (by omega))]; simp [h k (by omega), Nat.succ_mul]
theorem flat_get {C : Nat → List Value} {m : Nat} (hm : 0 < m) : ∀ (k : Nat), (∀ i, i < k → (C i).length = m) → ∀ (j : Nat) (u : Value), ((List.range k).flatMap C)[j]? = some u → j / m < k ∧ (C (j / m))[j % m]? = some u
  | 0, _, j, u, h => by simp at h
  | k + 1, hC, j, u, h => by
    have hl := flat_len_at k (fun i hi => hC i (by omega))
    rw [List.range_succ, List.flatMap_append] at h
    by_cases hj : j < k * m
    · rw [List.getElem?_append_left (by rw [hl]; exact hj)] at h
      have := flat_get hm k (fun i hi => hC i (by omega)) j u h
      exact ⟨by omega, this.2⟩
    · rw [List.getElem?_append_right (by rw [hl]; omega), hl] at h
      simp only [List.flatMap_cons, List.flatMap_nil, List.append_nil] at h
      have hlt : j - k * m < m := by have h9 := (List.getElem?_eq_some_iff.1 h).1; rwa [hC k (by omega)] at h9
      obtain ⟨r, hr⟩ : ∃ r, j = m * k + r := ⟨j - k * m, by rw [Nat.mul_comm]; omega⟩
      have hrj : j - k * m = r := by rw [hr, Nat.mul_comm]; omega
      rw [hrj] at h hlt
      have e1 : j / m = k := by rw [hr, Nat.mul_add_div hm, Nat.div_eq_of_lt hlt]; omega
      have e2 : j % m = r := by rw [hr, Nat.mul_add_mod, Nat.mod_eq_of_lt hlt]
      rw [e1, e2]
      exact ⟨by omega, h⟩

section
variable {H : Type} {enc : TypeId × Value → H} {P : Program} {W : World}

theorem trod_fields (n : Nat) (ih : ∀ t shs, shOf P n t = some shs → ∀ fuel cs x, DataW.trod enc P W 0 (fun _ => true) true fuel t cs = some x → ∃ ls, LsRd W ls cs ∧ LsIs shs ls) (k : Nat) (cs : List Value) :
    ∀ (fds : List Field) (acc : Nat) (shs : List Sh), shFields P (shOf P n) acc fds = some shs → (∀ f ∈ fds, ∃ x, DataW.trod enc P W 0 (fun _ => true) true k f.type ((cs.drop f.offset).take (P.cellsOf f.type)) = some x) → cs.length = acc + shs.length →
      ∃ ls, LsRd W ls (cs.drop acc) ∧ LsIs shs ls
  | [], acc, shs, h, _, hl => by
    simp only [shFields, Option.some.injEq] at h
    subst h
    exact ⟨[], List.drop_of_length_le (by simp at hl; omega), rfl⟩
  | f :: r, acc, shs, h, ht, hl => by
    simp only [shFields, Option.bind_eq_some_iff] at h
    obtain ⟨s, h1, h2⟩ := h
    split at h2
    · rename_i hc
      simp only [Option.map_eq_some_iff] at h2
      obtain ⟨ss, h3, rfl⟩ := h2
      obtain ⟨x, hx⟩ := ht f (by simp)
      obtain ⟨l1, r1, i1⟩ := ih _ _ h1 _ _ _ hx
      obtain ⟨l2, r2, i2⟩ := trod_fields n ih k cs r (acc + s.length) ss h3 (fun g hg => ht g (by simp [hg])) (by simp at hl; omega)
      refine ⟨l1 ++ l2, ?_, i1.append i2⟩
      rw [hc.1, hc.2] at r1
      have : cs.drop acc = (cs.drop acc).take s.length ++ cs.drop (acc + s.length) := by
        rw [← List.drop_drop, List.take_append_drop]
      rw [this]
      exact LsRd.append.2 ⟨_, _, rfl, r1, r2⟩
    · cases h2

theorem trod_leaves : ∀ (n : Nat) (t : TypeId) (shs : List Sh), shOf P n t = some shs → ∀ fuel cs x, DataW.trod enc P W 0 (fun _ => true) true fuel t cs = some x → ∃ ls, LsRd W ls cs ∧ LsIs shs ls
  | 0, t, shs, h, _, _, _, _ => by simp [shOf] at h
  | n + 1, t, shs, h, fuel, cs, x, hx => by
    unfold shOf at h
    split at h
    · rename_i ht
      injection h with h
      subst h
      obtain ⟨b, rfl, _⟩ := DataW.trod_bool ht hx
      exact ⟨[.bool b], ⟨_, _, rfl, rfl, rfl⟩, ⟨_, _, rfl, ⟨b, rfl⟩, rfl⟩⟩
    · rename_i ht
      injection h with h
      subst h
      obtain ⟨k, rfl, _, hw⟩ := DataW.trod_int ht hx
      exact ⟨[.int k], ⟨_, _, rfl, rfl, rfl⟩, ⟨_, _, rfl, ⟨k, rfl, in64_of hw⟩, rfl⟩⟩
    · rename_i ht
      injection h with h
      subst h
      obtain ⟨s, rfl, _, hz⟩ := DataW.trod_string ht hx
      exact ⟨[.str s.data.toList], ⟨_, _, rfl, (sv_data s).symm, rfl⟩, ⟨_, _, rfl, ⟨_, rfl, by unfold maxLen at hz; simpa using hz⟩, rfl⟩⟩
    · rename_i e ht
      simp only [Option.bind_eq_some_iff] at h
      obtain ⟨fs, h1, h2⟩ := h
      split at h2
      · rename_i hc
        injection h2 with h2
        subst h2
        rcases open_slice ht hx with ⟨rfl, _⟩ | ⟨a, len, cap, m, k, D, Pl, rfl, _, hl, hm, hmm, _, hel⟩
        · exact ⟨[.rows e fs.length 0 []], ⟨_, _, rfl, ⟨by simp, none, 0, rfl, .inl rfl⟩, rfl⟩, ⟨_, _, rfl, ⟨[], rfl, by simp, by simp⟩, rfl⟩⟩
        · simp only [if_true] at hmm
          obtain rfl : cap = m := hmm.symm
          have hk : ∀ i, i < len → ∃ q : List Lf × List Value, W.cells? 0 (a.add (i * P.cellsOf e)) (P.cellsOf e) = some q.2 ∧ LsRd W q.1 q.2 ∧ LsIs fs q.1 := by
            intro i hi
            obtain ⟨cs', c1, c2⟩ := hel i (by omega)
            obtain ⟨ls, r1, r2⟩ := trod_leaves n e fs h1 _ _ _ c2
            exact ⟨(ls, cs'), c1, r1, r2⟩
          haveI : Inhabited (List Lf × List Value) := ⟨([], [])⟩
          obtain ⟨q, hq⟩ := choose_lt hk
          refine ⟨[.rows e fs.length len ((List.range len).flatMap fun i => (q i).1)], ⟨_, _, rfl, ?_, rfl⟩, ⟨_, _, rfl, ⟨(List.range len).map fun i => (q i).1, ?_, ?_, ?_⟩, rfl⟩⟩
          · have hlen : ∀ i, i < len → ((q i).2).length = fs.length := fun i hi => by rw [← hc.2]; exact (World.cells?_some (hq i hi).1).2.1
            have hfl : ((List.range len).flatMap fun i => (q i).1).length = len * fs.length := by
              have h1 := LsRd.length (lsRd_flat (W := W) (L := fun i => (q i).1) (C := fun i => (q i).2) len (fun i hi => (hq i hi).2.1))
              rw [← h1]
              exact flat_len_at len hlen
            refine ⟨hfl, some a, cap, rfl, ?_⟩
            by_cases h0 : len = 0
            · exact .inl h0
            · right
              have hc0 := (World.cells?_some (hq 0 (by omega)).1).2.2 0 (by rw [hc.2]; exact hc.1)
              rw [Nat.zero_mul] at hc0
              have hex : ∃ u, ((q 0).2)[0]? = some u := ⟨_, List.getElem?_eq_getElem (by rw [hlen 0 (by omega)]; exact hc.1)⟩
              obtain ⟨u0, hu0⟩ := hex
              rw [hu0] at hc0
              obtain ⟨b, off, spot⟩ := a
              have hsp : spot = none := by simpa [Addr.add] using World.cell?_spot hc0
              subst hsp
              rw [Addr.add_lit, Addr.add_lit] at hc0
              refine ⟨b, off, rfl, World.block_lt_of_cell? W _ hc0, (List.range len).flatMap fun i => (q i).2, fun j u hu => ?_, lsRd_flat (W := W) (L := fun i => (q i).1) (C := fun i => (q i).2) len (fun i hi => (hq i hi).2.1)⟩
              obtain ⟨g1, g2⟩ := flat_get (C := fun i => (q i).2) hc.1 len hlen j u hu
              have hz := (World.cells?_some (hq _ g1).1).2.2 (j % fs.length) (by rw [hc.2]; exact Nat.mod_lt _ hc.1)
              rw [Addr.add_lit, Addr.add_lit, hc.2, g2] at hz
              have hdm := Nat.div_add_mod j fs.length
              rw [Nat.mul_comm] at hdm
              rwa [show off + j / fs.length * fs.length + j % fs.length = off + j by omega] at hz
          · simp [List.flatMap]
          · simp; unfold maxLen at hm; omega
          · intro y hy
            obtain ⟨i, hi, rfl⟩ := List.mem_map.1 hy
            exact (hq i (by simpa using hi)).2.2
      · cases h2
    · rename_i fds ht
      simp only [Option.bind_eq_some_iff] at h
      obtain ⟨fs, h1, h2⟩ := h
      split at h2
      · rename_i hc
        injection h2 with h2
        subst h2
        obtain ⟨xs, k, _, _, hlen, hxl, hf⟩ := DataW.trod_struct ht hx
        have := trod_fields n (fun t shs h => trod_leaves n t shs h) k cs fds.toList 0 fs h1 (fun f hfm => by
          obtain ⟨i, hi, he⟩ := List.getElem_of_mem hfm
          have hi2 : i < xs.length := by rw [hxl]; simpa using hi
          exact ⟨xs[i], (hf i f (by rw [← he]; simp)).trans (List.getElem?_eq_getElem hi2)⟩) (by rw [hlen, hc]; simp)
        simpa using this
      · cases h2
    · cases h

/-- What came in as t reads as leaves of its shape: a struct's value is its cells. -/
theorem open_leaves {t : TypeId} {v : Value} {d : DataW H} {ps : List MemPlace} (n : Nat) (shs : List Sh) (hs : shOf P n t = some shs) (h : DataW.Trod enc P W 0 (fun _ => true) true t v d ps) :
    ∃ ls, LsRd W ls v.cells.toList ∧ LsIs shs ls := by
  obtain ⟨fuel, hf⟩ := h
  exact trod_leaves n t shs hs fuel _ _ hf
end

end Go.Proofs.YtidjebepgpbcnaaGreatDoor

namespace Go.Proofs.YtidjebepgpbcnaaGreatDoor
open Go.ChangeShapes Go.WideShapes Go.ChangeAt Go.RowKit Go.Deep Go.Joins

mutual
/-- The same leaf, but for the types of rows' elements. -/
def LfSame : Lf → Lf → Prop
  | .int a, .int b => a = b
  | .bool a, .bool b => a = b
  | .str a, .str b => a = b
  | .rows _ m n fl, .rows _ m' n' fl' => m = m' ∧ n = n' ∧ LsSame fl fl'
  | _, _ => False
def LsSame : List Lf → List Lf → Prop
  | [], [] => True
  | x :: xs, y :: ys => LfSame x y ∧ LsSame xs ys
  | _, _ => False
end
theorem LsSame.append : ∀ {a b c d : List Lf}, LsSame a b → LsSame c d → LsSame (a ++ c) (b ++ d)
  | [], [], _, _, _, h => h
  | _ :: _, _ :: _, _, _, h, h2 => ⟨h.1, LsSame.append h.2 h2⟩
  | [], _ :: _, _, _, h, _ => h.elim
  | _ :: _, [], _, _, h, _ => h.elim
theorem LsSame.length : ∀ {a b : List Lf}, LsSame a b → a.length = b.length
  | [], [], _ => rfl
  | _ :: _, _ :: _, h => by simp [LsSame.length h.2]
  | [], _ :: _, h => h.elim
  | _ :: _, [], h => h.elim
mutual
theorem LfRd.same {W : World} : ∀ {x y : Lf} {v : Value}, LfSame x y → LfRd W x v → LfRd W y v
  | .int a, .int b, v, h, hr => by rw [show b = a from h.symm]; exact hr
  | .bool a, .bool b, v, h, hr => by rw [show b = a from h.symm]; exact hr
  | .str a, .str b, v, h, hr => by rw [show b = a from h.symm]; exact hr
  | .rows _ m n fl, .rows _ m' n' fl', v, h, hr => by
    obtain ⟨rfl, rfl, hs⟩ := h
    obtain ⟨hl, p, cap, hv, hc⟩ := hr
    exact ⟨by rw [← hs.length]; exact hl, p, cap, hv, hc.imp id fun ⟨b, off, hp, hlt, xs, h1, h2⟩ => ⟨b, off, hp, hlt, xs, h1, LsRd.same hs h2⟩⟩
  | .int _, .bool _, _, h, _ => h.elim
  | .int _, .str _, _, h, _ => h.elim
  | .int _, .rows _ _ _ _, _, h, _ => h.elim
  | .bool _, .int _, _, h, _ => h.elim
  | .bool _, .str _, _, h, _ => h.elim
  | .bool _, .rows _ _ _ _, _, h, _ => h.elim
  | .str _, .int _, _, h, _ => h.elim
  | .str _, .bool _, _, h, _ => h.elim
  | .str _, .rows _ _ _ _, _, h, _ => h.elim
  | .rows _ _ _ _, .int _, _, h, _ => h.elim
  | .rows _ _ _ _, .bool _, _, h, _ => h.elim
  | .rows _ _ _ _, .str _, _, h, _ => h.elim
theorem LsRd.same {W : World} : ∀ {xs ys : List Lf} {vs : List Value}, LsSame xs ys → LsRd W xs vs → LsRd W ys vs
  | [], [], _, _, h => h
  | _ :: _, _ :: _, _, hs, h => by
    obtain ⟨v, us, hv, h1, h2⟩ := h
    exact ⟨v, us, hv, LfRd.same hs.1 h1, LsRd.same hs.2 h2⟩
  | [], _ :: _, _, h, _ => h.elim
  | _ :: _, [], _, h, _ => h.elim
end

theorem rows_is {α : Type} {enc : α → List Lf} {sh : List Sh} {e e' : TypeId} {m : Nat} (one : ∀ y, LsIs sh y → ∃ x : α, LsSame y (enc x) ∧ LsBnd (enc x)) {y : Lf} (h : LfIs (.rows e m sh) y) :
    ∃ l : List α, LfSame y (.rows e' m l.length (l.flatMap enc)) ∧ LfBnd (.rows e' m l.length (l.flatMap enc)) := by
  obtain ⟨els, rfl, hl, hel⟩ := h
  have : ∀ els : List (List Lf), (∀ y ∈ els, LsIs sh y) → ∃ l : List α, LsSame els.flatten (l.flatMap enc) ∧ LsBnd (l.flatMap enc) ∧ l.length = els.length := by
    intro els
    induction els with
    | nil => exact fun _ => ⟨[], trivial, trivial, rfl⟩
    | cons a r ih =>
      intro h
      obtain ⟨l, h1, h2, h3⟩ := ih (fun y hy => h y (by simp [hy]))
      obtain ⟨x, h4, h5⟩ := one a (h a (by simp))
      exact ⟨x :: l, by rw [List.flatten_cons, List.flatMap_cons]; exact LsSame.append h4 h1, by rw [List.flatMap_cons]; exact LsBnd.append.2 ⟨h5, h2⟩, by simp [h3]⟩
  obtain ⟨l, h1, h2, h3⟩ := this els hel
  exact ⟨l, ⟨rfl, h3.symm, h1⟩, ⟨by omega, h2⟩⟩

theorem flat_sing {α : Type} (f : α → Lf) : ∀ l : List α, l.flatMap (fun s => [f s]) = l.map f
  | [] => rfl
  | a :: l => by rw [List.flatMap_cons, flat_sing f l]; rfl

theorem strs_row_is {e : TypeId} {y : Lf} (h : LfIs (.rows e 1 [.str]) y) : ∃ l : List (List UInt8), LfSame y (strsLf l) ∧ LfBnd (strsLf l) := by
  obtain ⟨l, h1, h2⟩ := rows_is (α := List UInt8) (enc := fun s => [.str s]) (e' := 9) (fun y hy => by obtain ⟨a, s, rfl, ⟨l, rfl, hl⟩, rfl⟩ := hy; exact ⟨l, ⟨rfl, trivial⟩, ⟨hl, trivial⟩⟩) h
  rw [flat_sing] at h1 h2
  exact ⟨l, h1, h2⟩

section
variable {H : Type} {enc : TypeId × Value → H} {P : Program} {W : World} {v : Value} {d : DataW H} {ps : List MemPlace} {t : TypeId}
/-- A record: its value is its leaves. -/
theorem open_rec {r : Reach} {b0 n : Nat} {fs : Array Field} {shs : List Sh} (hsh : shOf P n t = some shs) (hs : P.underlying t = some (.struct fs)) (hv : Value.okWide P W r b0 t v) (h : DataW.Trod enc P W 0 (fun _ => true) true t v d ps) :
    ∃ cs ls, v = .agg cs ∧ LsRd W ls cs.toList ∧ LsIs shs ls := by
  obtain ⟨cs, rfl, _⟩ := okWide_struct hs hv
  obtain ⟨ls, h1, h2⟩ := open_leaves n shs hsh h
  exact ⟨cs, ls, rfl, by simpa [Value.cells] using h1, h2⟩
/-- A slice: one leaf. -/
theorem open_row {r : Reach} {b0 n : Nat} {e : TypeId} {sh : Sh} (hsh : shOf P n t = some [sh]) (hs : P.underlying t = some (.slice e)) (hv : Value.okWide P W r b0 t v) (h : DataW.Trod enc P W 0 (fun _ => true) true t v d ps) :
    ∃ y, LfRd W y v ∧ LfIs sh y := by
  obtain ⟨ls, h1, h2⟩ := open_leaves n [sh] hsh h
  obtain ⟨y, r1, rfl, h3, rfl⟩ := h2
  obtain ⟨u, us, h4, h5, _⟩ := h1
  obtain ⟨a, len, cap, rfl⟩ := okWide_slice hs hv
  simp [Value.cells] at h4
  obtain ⟨rfl, rfl⟩ := h4
  exact ⟨y, h5, h3⟩
end

end Go.Proofs.YtidjebepgpbcnaaGreatDoor

namespace Go.Proofs.YtidjebepgpbcnaaGreatDoor
open Go.ChangeShapes Go.WideShapes Go.ChangeAt Go.RowKit Go.Deep Go.Joins

def spanSh : List Sh := [.int, .int]
theorem Spn.is {xs : List Lf} (h : LsIs spanSh xs) : ∃ x : Spn, LsSame xs x.lf ∧ LsBnd x.lf := by
  obtain ⟨a0, s0, rfl, ⟨n0, rfl, b0⟩, a1, s1, rfl, ⟨n1, rfl, b1⟩, rfl⟩ := h
  exact ⟨⟨n0, n1⟩, ⟨rfl, rfl, trivial⟩, ⟨b0, b1, trivial⟩⟩
theorem Spn.row_is {y : Lf} (h : LfIs (.rows 80 2 spanSh) y) : ∃ l : List Spn, LfSame y (spnsLf l) ∧ LfBnd (spnsLf l) := rows_is (fun _ h => Spn.is h) h

end Go.Proofs.YtidjebepgpbcnaaGreatDoor

namespace Go.Proofs.YtidjebepgpbcnaaGreatDoor
open Go.ChangeShapes Go.WideShapes Go.ChangeAt Go.RowKit Go.Deep Go.Joins

def scopeSh : List Sh := [.int, .rows 9 1 [.str], .int]
theorem Scp.is {xs : List Lf} (h : LsIs scopeSh xs) : ∃ x : Scp, LsSame xs x.lf ∧ LsBnd x.lf := by
  obtain ⟨a0, s0, rfl, ⟨n0, rfl, b0⟩, a1, s1, rfl, h1, a2, s2, rfl, ⟨n2, rfl, b2⟩, rfl⟩ := h
  obtain ⟨n1, e1, b1⟩ := strs_row_is h1
  exact ⟨⟨n0, n1, n2⟩, ⟨rfl, e1, rfl, trivial⟩, ⟨b0, b1, b2, trivial⟩⟩
theorem Scp.row_is {y : Lf} (h : LfIs (.rows 102 3 scopeSh) y) : ∃ l : List Scp, LfSame y (scpsLf l) ∧ LfBnd (scpsLf l) := rows_is (fun _ h => Scp.is h) h

end Go.Proofs.YtidjebepgpbcnaaGreatDoor

namespace Go.Proofs.YtidjebepgpbcnaaGreatDoor
open Go.ChangeShapes Go.WideShapes Go.ChangeAt Go.RowKit Go.Deep Go.Joins

def filterSh : List Sh := [.bool, .rows 102 3 scopeSh]
theorem Flt.is {xs : List Lf} (h : LsIs filterSh xs) : ∃ x : Flt, LsSame xs x.lf ∧ LsBnd x.lf := by
  obtain ⟨a0, s0, rfl, ⟨n0, rfl⟩, a1, s1, rfl, h1, rfl⟩ := h
  obtain ⟨n1, e1, b1⟩ := Scp.row_is h1
  exact ⟨⟨n0, n1⟩, ⟨rfl, e1, trivial⟩, ⟨trivial, b1, trivial⟩⟩
theorem Flt.row_is {y : Lf} (h : LfIs (.rows 25 2 filterSh) y) : ∃ l : List Flt, LfSame y (filtersLf l) ∧ LfBnd (filtersLf l) := rows_is (fun _ h => Flt.is h) h

end Go.Proofs.YtidjebepgpbcnaaGreatDoor

namespace Go.Proofs.YtidjebepgpbcnaaGreatDoor
open Go.ChangeShapes Go.WideShapes Go.ChangeAt Go.RowKit Go.Deep Go.Joins

def commandSh : List Sh := [.str, .int, .str, .str, .bool, .rows 80 2 spanSh, .int, .int, .str, .bool, .rows 102 3 scopeSh]
theorem CmdD.is {xs : List Lf} (h : LsIs commandSh xs) : ∃ x : CmdD, LsSame xs x.lf ∧ LsBnd x.lf := by
  obtain ⟨a0, s0, rfl, ⟨n0, rfl, b0⟩, a1, s1, rfl, ⟨n1, rfl, b1⟩, a2, s2, rfl, ⟨n2, rfl, b2⟩, a3, s3, rfl, ⟨n3, rfl, b3⟩, a4, s4, rfl, ⟨n4, rfl⟩, a5, s5, rfl, h5, a6, s6, rfl, ⟨n6, rfl, b6⟩, a7, s7, rfl, ⟨n7, rfl, b7⟩, a8, s8, rfl, ⟨n8, rfl, b8⟩, a9, s9, rfl, ⟨n9, rfl⟩, a10, s10, rfl, h10, rfl⟩ := h
  obtain ⟨n5, e5, b5⟩ := Spn.row_is h5
  obtain ⟨n10, e10, b10⟩ := Scp.row_is h10
  exact ⟨⟨n0, n1, n2, n3, n4, n5, n6, n7, n8, ⟨n9, n10⟩⟩, ⟨rfl, rfl, rfl, rfl, rfl, e5, rfl, rfl, rfl, rfl, e10, trivial⟩, ⟨b0, b1, b2, b3, trivial, b5, b6, b7, b8, trivial, b10, trivial⟩⟩
theorem CmdD.row_is {y : Lf} (h : LfIs (.rows 27 11 commandSh) y) : ∃ l : List CmdD, LfSame y (commandsLf l) ∧ LfBnd (commandsLf l) := rows_is (fun _ h => CmdD.is h) h

set_option maxRecDepth 100000 in
theorem sh_Command : shOf Tryz.prog 10 27 = some commandSh := by kernel_rfl

set_option maxRecDepth 100000 in
theorem open_Command {H : Type} {enc : TypeId × Value → H} {W : World} {v : Value} {d : DataW H} {ps : List MemPlace} {r : Reach} {b0 : Nat} (hv : Value.okWide Tryz.prog W r b0 27 v) (h : DataW.Trod enc Tryz.prog W 0 (fun _ => true) true 27 v d ps) :
    ∃ (x : CmdD) (r5 r10 : Value), v = .agg #[sv x.tag, .int .i64 x.kind, sv x.box, sv x.dst, .bool x.uid, r5, .int .i64 x.op, .int .i64 x.flags, sv x.text, .bool x.filter.on, r10] ∧ LfRd W (spnsLf x.sset) r5 ∧ LfRd W (scpsLf x.filter.scopes) r10 ∧ LsBnd x.lf := by
  obtain ⟨cs, ls, rfl, h1, h2⟩ := open_rec sh_Command Tryz.underlying27 hv h
  obtain ⟨x, h3, h4⟩ := CmdD.is h2
  have h5 := LsRd.same h3 h1
  obtain ⟨r5, r10, hc, k5, k10⟩ := CmdD.rd.1 h5
  exact ⟨x, r5, r10, by rw [← hc], k5, k10, h4⟩

end Go.Proofs.YtidjebepgpbcnaaGreatDoor

namespace Go.Proofs.YtidjebepgpbcnaaGreatDoor
open Go.RowKit

def CtrCommandOk (f : FuncId) (G : World → Prop) : Prop := ∀ (x_C : CmdD) (r_C_5 : Value) (r_C_10 : Value) (W : World), G W → LfRd W (spnsLf x_C.sset) r_C_5 → LfRd W (scpsLf x_C.filter.scopes) r_C_10 → szLs x_C.lf ≤ 1048576 → LsBnd x_C.lf → 
  Calls Tryz.prog f #[.agg #[sv x_C.tag, .int .i64 x_C.kind, sv x_C.box, sv x_C.dst, .bool x_C.uid, r_C_5, .int .i64 x_C.op, .int .i64 x_C.flags, sv x_C.text, .bool x_C.filter.on, r_C_10]] W fun e w' => e = .returned (.bool (cmdB x_C)) ∧ Below W.heap.size W w'

end Go.Proofs.YtidjebepgpbcnaaGreatDoor

namespace Go.Proofs.YtidjebepgpbcnaaGreatDoor
open Go.RowKit

/-- A block that the call laid at the heap's end. -/
structure Own1 (T : TypeId) (w X : World) (A : Array Value) : Prop where
  a : X.heap[w.heap.size]? = some (.cells A T (0, 0))
  b : Below w.heap.size w X
  z : w.heap.size + 1 ≤ X.heap.size
theorem Own1.of {T : TypeId} {w X : World} {A : Array Value} (h : X = w.alloc (.cells A T)) : Own1 T w X A := by
  subst h
  exact ⟨heap_alloc_new w _, (Below.refl _ _).alloc (Nat.le_refl _) _, by simp⟩
theorem Own1.drew {T : TypeId} {w X : World} {A : Array Value} (h : Own1 T w X A) : Own1 T w X.drew A := ⟨h.a, h.b.drew, h.z⟩
theorem Own1.call {T : TypeId} {w X X' : World} {A : Array Value} (h : Own1 T w X A) (b : Below X.heap.size X X') : Own1 T w X' A := by
  have := h.z
  exact ⟨(b.block _ (by omega)).trans h.a, h.b.trans (b.mono (by omega)), Nat.le_trans h.z b.size⟩

theorem nil_rd {W : World} {n : TypeId} {m : Nat} : LfRd W (.rows n m 0 []) (.slice none 0 0) := ⟨by simp, none, 0, rfl, .inl rfl⟩
theorem said5_rd {x : CmdD} {W : World} {r : Value} (h : LfRd W (spnsLf x.sset) r) : LfRd W (spnsLf (saidC x).sset) (said5 x r) := by
  unfold saidC said5
  cases hb : setsB x.kind
  · exact nil_rd
  · exact h
theorem said10_rd {x : CmdD} {W : World} {r : Value} (h : LfRd W (scpsLf x.filter.scopes) r) : LfRd W (scpsLf (saidC x).filter.scopes) (said10 x r) := by
  unfold saidC said10
  by_cases hk : x.kind = 6
  · rw [if_pos hk]; simp only [hk, if_true]; exact h
  · rw [if_neg hk]; simp only [hk, if_false]; exact nil_rd
theorem said_small {x : CmdD} (hs : szLs x.lf ≤ 1048576) : szLs (saidC x).lf ≤ 1048576 := by
  have h := CmdD.sz x
  have h' := CmdD.sz (saidC x)
  have e1 : (saidC x).tag = x.tag := rfl
  have e2 : (saidC x).box.length ≤ x.box.length := by unfold saidC; simp only; split <;> simp
  have e3 : (saidC x).dst.length ≤ x.dst.length := by unfold saidC; simp only; split <;> simp
  have e4 : szLf (spnsLf (saidC x).sset) ≤ szLf (spnsLf x.sset) := by unfold saidC; simp only; split; exact Nat.le_refl _; exact Nat.zero_le _
  have e5 : (saidC x).text.length ≤ x.text.length := by unfold saidC; simp only; split <;> simp
  have e6 : szLf (scpsLf (saidC x).filter.scopes) ≤ szLf (scpsLf x.filter.scopes) := by unfold saidC; simp only; split; exact Nat.le_refl _; exact Nat.zero_le _
  rw [e1] at h'
  omega
theorem zero64 : in64 0 := by unfold in64; omega
theorem said_bnd {x : CmdD} (hb : LsBnd x.lf) : LsBnd (saidC x).lf := by
  obtain ⟨h0, h1, h2, h3, h4, h5, h6, h7, h8, h9, h10, _⟩ := hb
  have z : LfBnd (.str []) := Nat.zero_le _
  have zr : ∀ n, LfBnd (.rows n 2 0 []) := fun _ => ⟨Nat.zero_le _, trivial⟩
  have zr3 : ∀ n, LfBnd (.rows n 3 0 []) := fun _ => ⟨Nat.zero_le _, trivial⟩
  unfold saidC
  refine ⟨h0, h1, ?_, ?_, trivial, ?_, ?_, ?_, ?_, trivial, ?_, trivial⟩
  · simp only; split; exact h2; exact z
  · simp only; split; exact h3; exact z
  · simp only; split; exact h5; exact zr _
  · simp only; split; exact h6; exact zero64
  · simp only; split; exact h7; exact zero64
  · simp only; split; exact h8; exact z
  · simp only; split; exact h10; exact zr3 _

set_option maxRecDepth 20000 in
set_option maxHeartbeats 12800000 in
theorem specCommandOk_at (x : CmdD) (a5 a10 : Value) (w : World) (ha : LfRd w (spnsLf x.sset) a5) (ha2 : LfRd w (scpsLf x.filter.scopes) a10) (hs : szLs x.lf ≤ 1048576) :
    Calls Tryz.prog 18 #[cmdv x a5 a10] w fun e w' => e = .returned (.bool (cmdB x)) ∧ Below w.heap.size w w' := by
  obtain ⟨z1, z2, z3, z5, z8, z9, z10⟩ := CmdD.small hs
  obtain ⟨y1, y2, y3, y5, y8, y9, y10⟩ := CmdD.small (said_small hs)
  have cE := fun W (h : Below w.heap.size w W) => specSameCommand_any (saidC x) x (said5 x a5) (said10 x a10) a5 a10 W (said5_rd (LfRd.below h _ _ ha)) (said10_rd (LfRd.below h _ _ ha2)) (LfRd.below h _ _ ha) (LfRd.below h _ _ ha2) (by omega) (by omega) (fun s hm => by have := (y10 s hm).1; omega)
  have cset5 := fun W (h : Below w.heap.size w W) => specSetOk_any a5 x.sset W (spns_rd (LfRd.below h _ _ ha)) (by omega)
  have cfilter9 := fun W (h : Below w.heap.size w W) => specFilterOk_any x.filter a10 W (LfRd.below h _ _ ha2) (by omega) (fun s hm => ⟨by have := (z10 s hm).1; omega, fun y hy => by have := (z10 s hm).2 y hy; omega⟩)
  obtain ⟨p, c, rfl, _⟩ := Spn.at ha
  obtain ⟨q, d, rfl, _⟩ := scps_at ha2
  have cT := fun W => specTagOk_any ⟨x.tag.toArray⟩ W (by unfold maxLen; show x.tag.toArray.size ≤ _; simp; omega)
  have cS := fun W => l7Said_any x p q c d W
  have cname2 := fun W => specNameOk_any ⟨x.box.toArray⟩ W (by unfold maxLen; show x.box.toArray.size ≤ _; simp; omega)
  have cname3 := fun W => specNameOk_any ⟨x.dst.toArray⟩ W (by unfold maxLen; show x.dst.toArray.size ≤ _; simp; omega)
  have CE := Lib.hid cE
  have Cset5 := Lib.hid cset5
  have Cfilter9 := Lib.hid cfilter9
  have CT := Lib.hid cT
  have CS := Lib.hid cS
  have Cname2 := Lib.hid cname2
  have Cname3 := Lib.hid cname3
  have CK := Lib.hid (fun W => l1In_any x.kind 1 15 W)
  have CB := Lib.hid (fun W => l7Boxed_any x.kind W)
  have CZ := Lib.hid (fun W => l7Sets_any x.kind W)
  have Cop6 := Lib.hid (fun W => l1In_any x.op 1 3 W)
  have Cflags7 := Lib.hid (fun W => specFlagsOk_any x.flags W)
  clear cE cset5 cfilter9 cT cS cname2 cname3 ha ha2 hs z1 z2 z3 z5 z8 z9 z10 y1 y2 y3 y5 y8 y9 y10
  cases eT : tagB x.tag with
  | false =>
    rw [show tagB (ByteArray.mk x.tag.toArray).data.toList = false from eT] at CT
    go_enter Tryz.func18, Tryz.ntmps18
    go_wp2
    refine wp_named ?_
    intro X hX
    have H0 := Lib.hid (Own1.of hX)
    clear hX
    have HS := Lib.hid (fun (W : World) (H : Own1 36 w W #[sv x.tag, .int .i64 x.kind, sv x.box, sv x.dst, .bool x.uid, .slice p x.sset.length c, .int .i64 x.op, .int .i64 x.flags, sv x.text, .bool x.filter.on, .slice q x.filter.scopes.length d]) => (⟨(Lib.cell_of_heap H.a 0).trans rfl, (Lib.cell_of_heap H.a 1).trans rfl, (Lib.cell_of_heap H.a 2).trans rfl, (Lib.cell_of_heap H.a 3).trans rfl, (Lib.cell_of_heap H.a 4).trans rfl, (Lib.cell_of_heap H.a 5).trans rfl, (Lib.cell_of_heap H.a 6).trans rfl, (Lib.cell_of_heap H.a 7).trans rfl, (Lib.cell_of_heap H.a 8).trans rfl, (Lib.cell_of_heap H.a 9).trans rfl, (Lib.cell_of_heap H.a 10).trans rfl⟩ : W.cell? ⟨w.heap.size, 0, none⟩ = some (sv x.tag) ∧ W.cell? ⟨w.heap.size, 1, none⟩ = some (.int .i64 x.kind) ∧ W.cell? ⟨w.heap.size, 2, none⟩ = some (sv x.box) ∧ W.cell? ⟨w.heap.size, 3, none⟩ = some (sv x.dst) ∧ W.cell? ⟨w.heap.size, 4, none⟩ = some (.bool x.uid) ∧ W.cell? ⟨w.heap.size, 5, none⟩ = some (.slice p x.sset.length c) ∧ W.cell? ⟨w.heap.size, 6, none⟩ = some (.int .i64 x.op) ∧ W.cell? ⟨w.heap.size, 7, none⟩ = some (.int .i64 x.flags) ∧ W.cell? ⟨w.heap.size, 8, none⟩ = some (sv x.text) ∧ W.cell? ⟨w.heap.size, 9, none⟩ = some (.bool x.filter.on) ∧ W.cell? ⟨w.heap.size, 10, none⟩ = some (.slice q x.filter.scopes.length d)))
    have hs0 := HS.out X.drew H0.out.drew
    refine ord_start [(0, true), (1, true), (2, false), (3, true), (4, true), (5, true), (6, true), (7, false), (8, true), (9, true), (10, true), (11, true), (13, true), (12, false), (14, false), (15, true), (16, true)] (fun W => W.cell? ⟨w.heap.size, 0, none⟩ = some (sv x.tag) ∧ W.cell? ⟨w.heap.size, 1, none⟩ = some (.int .i64 x.kind) ∧ W.cell? ⟨w.heap.size, 2, none⟩ = some (sv x.box) ∧ W.cell? ⟨w.heap.size, 3, none⟩ = some (sv x.dst) ∧ W.cell? ⟨w.heap.size, 4, none⟩ = some (.bool x.uid) ∧ W.cell? ⟨w.heap.size, 5, none⟩ = some (.slice p x.sset.length c) ∧ W.cell? ⟨w.heap.size, 6, none⟩ = some (.int .i64 x.op) ∧ W.cell? ⟨w.heap.size, 7, none⟩ = some (.int .i64 x.flags) ∧ W.cell? ⟨w.heap.size, 8, none⟩ = some (sv x.text) ∧ W.cell? ⟨w.heap.size, 9, none⟩ = some (.bool x.filter.on) ∧ W.cell? ⟨w.heap.size, 10, none⟩ = some (.slice q x.filter.scopes.length d)) (by kernel_rfl) (by kernel_rfl) rfl (by kernel_rfl) ?_
    intro ops' hops
    simp only [List.map_cons, List.map_nil, pickOp_zero, pickOp_succ]
    iterate 2 (refine ord_flo ?_ (fun _ _ _ h => h) rfl ?_ hs0 ?_; rotate_left; focus (intro W hS; obtain ⟨s0, s1, s2, s3, s4, s5, s6, s7, s8, s9, s10⟩ := hS; go_simp; rfl))
    try go_frame
    refine ord_ev rfl ?_
    go_simp
    refine (CT.out _).mono ?_
    rintro e w1 ⟨rfl, rfl⟩
    refine ⟨hs0, ?_⟩
    iterate 2 (refine ord_flo ?_ (fun _ _ _ h => h) rfl ?_ hs0 ?_; rotate_left; focus (intro W hS; obtain ⟨s0, s1, s2, s3, s4, s5, s6, s7, s8, s9, s10⟩ := hS; go_simp; rfl))
    iterate 2 (refine ord_not (fun _ _ _ h => h) (by rw [hops.out]; kernel_rfl) hs0 ?_)
    refine ord_evnot hs0 (by rw [hops.out]; kernel_rfl) ?_
    iterate 1 (refine ord_not (fun _ _ _ h => h) (by rw [hops.out]; kernel_rfl) hs0 ?_)
    iterate 2 (refine ord_flo ?_ (fun _ _ _ h => h) rfl ?_ hs0 ?_; rotate_left; focus (intro W hS; obtain ⟨s0, s1, s2, s3, s4, s5, s6, s7, s8, s9, s10⟩ := hS; go_simp; rfl))
    iterate 2 (refine ord_not (fun _ _ _ h => h) (by rw [hops.out]; kernel_rfl) hs0 ?_)
    refine ord_evnot hs0 (by rw [hops.out]; kernel_rfl) ?_
    refine ord_evnot hs0 (by rw [hops.out]; kernel_rfl) ?_
    iterate 1 (refine ord_not (fun _ _ _ h => h) (by rw [hops.out]; kernel_rfl) hs0 ?_)
    iterate 1 (refine ord_flo ?_ (fun _ _ _ h => h) rfl ?_ hs0 ?_; rotate_left; focus (intro W hS; obtain ⟨s0, s1, s2, s3, s4, s5, s6, s7, s8, s9, s10⟩ := hS; go_simp; rfl))
    refine ord_done ?_
    go_simp
    try go_frame
    have HV := Lib.hid (show cmdB x = false from by unfold cmdB; rw [eT]; simp)
    go_wp2
    go_ret
    exact ⟨by rw [HV.out]; rfl, H0.out.drew.b⟩
  | true =>
    cases eK : (decide (1 ≤ x.kind) && decide (x.kind ≤ 15)) with
    | false =>
      rw [show tagB (ByteArray.mk x.tag.toArray).data.toList = true from eT] at CT
      rw [eK] at CK
      go_enter Tryz.func18, Tryz.ntmps18
      go_wp2
      refine wp_named ?_
      intro X hX
      have H0 := Lib.hid (Own1.of hX)
      clear hX
      have HS := Lib.hid (fun (W : World) (H : Own1 36 w W #[sv x.tag, .int .i64 x.kind, sv x.box, sv x.dst, .bool x.uid, .slice p x.sset.length c, .int .i64 x.op, .int .i64 x.flags, sv x.text, .bool x.filter.on, .slice q x.filter.scopes.length d]) => (⟨(Lib.cell_of_heap H.a 0).trans rfl, (Lib.cell_of_heap H.a 1).trans rfl, (Lib.cell_of_heap H.a 2).trans rfl, (Lib.cell_of_heap H.a 3).trans rfl, (Lib.cell_of_heap H.a 4).trans rfl, (Lib.cell_of_heap H.a 5).trans rfl, (Lib.cell_of_heap H.a 6).trans rfl, (Lib.cell_of_heap H.a 7).trans rfl, (Lib.cell_of_heap H.a 8).trans rfl, (Lib.cell_of_heap H.a 9).trans rfl, (Lib.cell_of_heap H.a 10).trans rfl⟩ : W.cell? ⟨w.heap.size, 0, none⟩ = some (sv x.tag) ∧ W.cell? ⟨w.heap.size, 1, none⟩ = some (.int .i64 x.kind) ∧ W.cell? ⟨w.heap.size, 2, none⟩ = some (sv x.box) ∧ W.cell? ⟨w.heap.size, 3, none⟩ = some (sv x.dst) ∧ W.cell? ⟨w.heap.size, 4, none⟩ = some (.bool x.uid) ∧ W.cell? ⟨w.heap.size, 5, none⟩ = some (.slice p x.sset.length c) ∧ W.cell? ⟨w.heap.size, 6, none⟩ = some (.int .i64 x.op) ∧ W.cell? ⟨w.heap.size, 7, none⟩ = some (.int .i64 x.flags) ∧ W.cell? ⟨w.heap.size, 8, none⟩ = some (sv x.text) ∧ W.cell? ⟨w.heap.size, 9, none⟩ = some (.bool x.filter.on) ∧ W.cell? ⟨w.heap.size, 10, none⟩ = some (.slice q x.filter.scopes.length d)))
      have hs0 := HS.out X.drew H0.out.drew
      refine ord_start [(0, true), (1, true), (2, false), (3, true), (4, true), (5, true), (6, true), (7, false), (8, true), (9, true), (10, true), (11, true), (13, true), (12, false), (14, false), (15, true), (16, true)] (fun W => W.cell? ⟨w.heap.size, 0, none⟩ = some (sv x.tag) ∧ W.cell? ⟨w.heap.size, 1, none⟩ = some (.int .i64 x.kind) ∧ W.cell? ⟨w.heap.size, 2, none⟩ = some (sv x.box) ∧ W.cell? ⟨w.heap.size, 3, none⟩ = some (sv x.dst) ∧ W.cell? ⟨w.heap.size, 4, none⟩ = some (.bool x.uid) ∧ W.cell? ⟨w.heap.size, 5, none⟩ = some (.slice p x.sset.length c) ∧ W.cell? ⟨w.heap.size, 6, none⟩ = some (.int .i64 x.op) ∧ W.cell? ⟨w.heap.size, 7, none⟩ = some (.int .i64 x.flags) ∧ W.cell? ⟨w.heap.size, 8, none⟩ = some (sv x.text) ∧ W.cell? ⟨w.heap.size, 9, none⟩ = some (.bool x.filter.on) ∧ W.cell? ⟨w.heap.size, 10, none⟩ = some (.slice q x.filter.scopes.length d)) (by kernel_rfl) (by kernel_rfl) rfl (by kernel_rfl) ?_
      intro ops' hops
      simp only [List.map_cons, List.map_nil, pickOp_zero, pickOp_succ]
      iterate 2 (refine ord_flo ?_ (fun _ _ _ h => h) rfl ?_ hs0 ?_; rotate_left; focus (intro W hS; obtain ⟨s0, s1, s2, s3, s4, s5, s6, s7, s8, s9, s10⟩ := hS; go_simp; rfl))
      try go_frame
      refine ord_ev rfl ?_
      go_simp
      refine (CT.out _).mono ?_
      rintro e w1 ⟨rfl, rfl⟩
      refine ⟨hs0, ?_⟩
      iterate 2 (refine ord_flo ?_ (fun _ _ _ h => h) rfl ?_ hs0 ?_; rotate_left; focus (intro W hS; obtain ⟨s0, s1, s2, s3, s4, s5, s6, s7, s8, s9, s10⟩ := hS; go_simp; rfl))
      iterate 2 (refine ord_flo ?_ (fun _ _ _ h => h) (by rw [hops.out]; kernel_rfl) ?_ hs0 ?_; rotate_left; focus (intro W hS; obtain ⟨s0, s1, s2, s3, s4, s5, s6, s7, s8, s9, s10⟩ := hS; go_simp; rfl))
      try go_frame
      refine ord_ev (by rw [hops.out]; kernel_rfl) ?_
      go_simp
      refine (CK.out _).mono ?_
      rintro e w2 ⟨rfl, rfl⟩
      refine ⟨hs0, ?_⟩
      iterate 1 (refine ord_flo ?_ (fun _ _ _ h => h) (by rw [hops.out]; kernel_rfl) ?_ hs0 ?_; rotate_left; focus (intro W hS; obtain ⟨s0, s1, s2, s3, s4, s5, s6, s7, s8, s9, s10⟩ := hS; go_simp; rfl))
      iterate 2 (refine ord_flo ?_ (fun _ _ _ h => h) rfl ?_ hs0 ?_; rotate_left; focus (intro W hS; obtain ⟨s0, s1, s2, s3, s4, s5, s6, s7, s8, s9, s10⟩ := hS; go_simp; rfl))
      iterate 2 (refine ord_not (fun _ _ _ h => h) (by rw [hops.out]; kernel_rfl) hs0 ?_)
      refine ord_evnot hs0 (by rw [hops.out]; kernel_rfl) ?_
      refine ord_evnot hs0 (by rw [hops.out]; kernel_rfl) ?_
      iterate 1 (refine ord_not (fun _ _ _ h => h) (by rw [hops.out]; kernel_rfl) hs0 ?_)
      iterate 1 (refine ord_flo ?_ (fun _ _ _ h => h) rfl ?_ hs0 ?_; rotate_left; focus (intro W hS; obtain ⟨s0, s1, s2, s3, s4, s5, s6, s7, s8, s9, s10⟩ := hS; go_simp; rfl))
      refine ord_done ?_
      go_simp
      try go_frame
      have HV := Lib.hid (show cmdB x = false from by unfold cmdB; rw [eT, eK]; simp)
      go_wp2
      go_ret
      exact ⟨by rw [HV.out]; rfl, H0.out.drew.b⟩
    | true =>
      cases eE : decide (saidC x = x) with
      | false =>
        rw [show tagB (ByteArray.mk x.tag.toArray).data.toList = true from eT] at CT
        rw [eK] at CK
        rw [eE] at CE
        go_enter Tryz.func18, Tryz.ntmps18
        go_wp2
        refine wp_named ?_
        intro X hX
        have H0 := Lib.hid (Own1.of hX)
        clear hX
        have HS := Lib.hid (fun (W : World) (H : Own1 36 w W #[sv x.tag, .int .i64 x.kind, sv x.box, sv x.dst, .bool x.uid, .slice p x.sset.length c, .int .i64 x.op, .int .i64 x.flags, sv x.text, .bool x.filter.on, .slice q x.filter.scopes.length d]) => (⟨(Lib.cell_of_heap H.a 0).trans rfl, (Lib.cell_of_heap H.a 1).trans rfl, (Lib.cell_of_heap H.a 2).trans rfl, (Lib.cell_of_heap H.a 3).trans rfl, (Lib.cell_of_heap H.a 4).trans rfl, (Lib.cell_of_heap H.a 5).trans rfl, (Lib.cell_of_heap H.a 6).trans rfl, (Lib.cell_of_heap H.a 7).trans rfl, (Lib.cell_of_heap H.a 8).trans rfl, (Lib.cell_of_heap H.a 9).trans rfl, (Lib.cell_of_heap H.a 10).trans rfl⟩ : W.cell? ⟨w.heap.size, 0, none⟩ = some (sv x.tag) ∧ W.cell? ⟨w.heap.size, 1, none⟩ = some (.int .i64 x.kind) ∧ W.cell? ⟨w.heap.size, 2, none⟩ = some (sv x.box) ∧ W.cell? ⟨w.heap.size, 3, none⟩ = some (sv x.dst) ∧ W.cell? ⟨w.heap.size, 4, none⟩ = some (.bool x.uid) ∧ W.cell? ⟨w.heap.size, 5, none⟩ = some (.slice p x.sset.length c) ∧ W.cell? ⟨w.heap.size, 6, none⟩ = some (.int .i64 x.op) ∧ W.cell? ⟨w.heap.size, 7, none⟩ = some (.int .i64 x.flags) ∧ W.cell? ⟨w.heap.size, 8, none⟩ = some (sv x.text) ∧ W.cell? ⟨w.heap.size, 9, none⟩ = some (.bool x.filter.on) ∧ W.cell? ⟨w.heap.size, 10, none⟩ = some (.slice q x.filter.scopes.length d)))
        have hs0 := HS.out X.drew H0.out.drew
        refine ord_start [(0, true), (1, true), (2, false), (3, true), (4, true), (5, true), (6, true), (7, false), (8, true), (9, true), (10, true), (11, true), (13, true), (12, false), (14, false), (15, true), (16, true)] (fun W => W.cell? ⟨w.heap.size, 0, none⟩ = some (sv x.tag) ∧ W.cell? ⟨w.heap.size, 1, none⟩ = some (.int .i64 x.kind) ∧ W.cell? ⟨w.heap.size, 2, none⟩ = some (sv x.box) ∧ W.cell? ⟨w.heap.size, 3, none⟩ = some (sv x.dst) ∧ W.cell? ⟨w.heap.size, 4, none⟩ = some (.bool x.uid) ∧ W.cell? ⟨w.heap.size, 5, none⟩ = some (.slice p x.sset.length c) ∧ W.cell? ⟨w.heap.size, 6, none⟩ = some (.int .i64 x.op) ∧ W.cell? ⟨w.heap.size, 7, none⟩ = some (.int .i64 x.flags) ∧ W.cell? ⟨w.heap.size, 8, none⟩ = some (sv x.text) ∧ W.cell? ⟨w.heap.size, 9, none⟩ = some (.bool x.filter.on) ∧ W.cell? ⟨w.heap.size, 10, none⟩ = some (.slice q x.filter.scopes.length d)) (by kernel_rfl) (by kernel_rfl) rfl (by kernel_rfl) ?_
        intro ops' hops
        simp only [List.map_cons, List.map_nil, pickOp_zero, pickOp_succ]
        iterate 2 (refine ord_flo ?_ (fun _ _ _ h => h) rfl ?_ hs0 ?_; rotate_left; focus (intro W hS; obtain ⟨s0, s1, s2, s3, s4, s5, s6, s7, s8, s9, s10⟩ := hS; go_simp; rfl))
        try go_frame
        refine ord_ev rfl ?_
        go_simp
        refine (CT.out _).mono ?_
        rintro e w1 ⟨rfl, rfl⟩
        refine ⟨hs0, ?_⟩
        iterate 2 (refine ord_flo ?_ (fun _ _ _ h => h) rfl ?_ hs0 ?_; rotate_left; focus (intro W hS; obtain ⟨s0, s1, s2, s3, s4, s5, s6, s7, s8, s9, s10⟩ := hS; go_simp; rfl))
        iterate 2 (refine ord_flo ?_ (fun _ _ _ h => h) (by rw [hops.out]; kernel_rfl) ?_ hs0 ?_; rotate_left; focus (intro W hS; obtain ⟨s0, s1, s2, s3, s4, s5, s6, s7, s8, s9, s10⟩ := hS; go_simp; rfl))
        try go_frame
        refine ord_ev (by rw [hops.out]; kernel_rfl) ?_
        go_simp
        refine (CK.out _).mono ?_
        rintro e w2 ⟨rfl, rfl⟩
        refine ⟨hs0, ?_⟩
        iterate 1 (refine ord_flo ?_ (fun _ _ _ h => h) (by rw [hops.out]; kernel_rfl) ?_ hs0 ?_; rotate_left; focus (intro W hS; obtain ⟨s0, s1, s2, s3, s4, s5, s6, s7, s8, s9, s10⟩ := hS; go_simp; rfl))
        iterate 2 (refine ord_flo ?_ (fun _ _ _ h => h) rfl ?_ hs0 ?_; rotate_left; focus (intro W hS; obtain ⟨s0, s1, s2, s3, s4, s5, s6, s7, s8, s9, s10⟩ := hS; go_simp; rfl))
        iterate 2 (refine ord_flo ?_ (fun _ _ _ h => h) (by rw [hops.out]; kernel_rfl) ?_ hs0 ?_; rotate_left; focus (intro W hS; obtain ⟨s0, s1, s2, s3, s4, s5, s6, s7, s8, s9, s10⟩ := hS; go_simp; rfl))
        try go_frame
        refine ord_ev (by rw [hops.out]; kernel_rfl) ?_
        go_simp
        refine (CS.out _).mono ?_
        rintro e w3 ⟨rfl, b3⟩
        have H3 := Lib.hid (H0.out.drew.call b3)
        clear b3
        have hs3 := HS.out _ H3.out
        refine ⟨hs3, ?_⟩
        try go_frame
        refine ord_ev (by rw [hops.out]; kernel_rfl) ?_
        go_simp
        refine (CE.out _ H3.out.b).mono ?_
        rintro e w4 ⟨rfl, b4⟩
        have H4 := Lib.hid (H3.out.call b4)
        clear b4
        have hs4 := HS.out _ H4.out
        refine ⟨hs4, ?_⟩
        iterate 1 (refine ord_flo ?_ (fun _ _ _ h => h) (by rw [hops.out]; kernel_rfl) ?_ hs4 ?_; rotate_left; focus (intro W hS; obtain ⟨s0, s1, s2, s3, s4, s5, s6, s7, s8, s9, s10⟩ := hS; go_simp; rfl))
        iterate 1 (refine ord_flo ?_ (fun _ _ _ h => h) rfl ?_ hs4 ?_; rotate_left; focus (intro W hS; obtain ⟨s0, s1, s2, s3, s4, s5, s6, s7, s8, s9, s10⟩ := hS; go_simp; rfl))
        refine ord_done ?_
        go_simp
        try go_frame
        have HV := Lib.hid (show cmdB x = false from by unfold cmdB; rw [eT, eK, eE]; simp)
        go_wp2
        go_ret
        exact ⟨by rw [HV.out]; rfl, H4.out.b⟩
      | true =>
        rw [show tagB (ByteArray.mk x.tag.toArray).data.toList = true from eT] at CT
        rw [eK] at CK
        rw [eE] at CE
        go_enter Tryz.func18, Tryz.ntmps18
        go_wp2
        refine wp_named ?_
        intro X hX
        have H0 := Lib.hid (Own1.of hX)
        clear hX
        have HS := Lib.hid (fun (W : World) (H : Own1 36 w W #[sv x.tag, .int .i64 x.kind, sv x.box, sv x.dst, .bool x.uid, .slice p x.sset.length c, .int .i64 x.op, .int .i64 x.flags, sv x.text, .bool x.filter.on, .slice q x.filter.scopes.length d]) => (⟨(Lib.cell_of_heap H.a 0).trans rfl, (Lib.cell_of_heap H.a 1).trans rfl, (Lib.cell_of_heap H.a 2).trans rfl, (Lib.cell_of_heap H.a 3).trans rfl, (Lib.cell_of_heap H.a 4).trans rfl, (Lib.cell_of_heap H.a 5).trans rfl, (Lib.cell_of_heap H.a 6).trans rfl, (Lib.cell_of_heap H.a 7).trans rfl, (Lib.cell_of_heap H.a 8).trans rfl, (Lib.cell_of_heap H.a 9).trans rfl, (Lib.cell_of_heap H.a 10).trans rfl⟩ : W.cell? ⟨w.heap.size, 0, none⟩ = some (sv x.tag) ∧ W.cell? ⟨w.heap.size, 1, none⟩ = some (.int .i64 x.kind) ∧ W.cell? ⟨w.heap.size, 2, none⟩ = some (sv x.box) ∧ W.cell? ⟨w.heap.size, 3, none⟩ = some (sv x.dst) ∧ W.cell? ⟨w.heap.size, 4, none⟩ = some (.bool x.uid) ∧ W.cell? ⟨w.heap.size, 5, none⟩ = some (.slice p x.sset.length c) ∧ W.cell? ⟨w.heap.size, 6, none⟩ = some (.int .i64 x.op) ∧ W.cell? ⟨w.heap.size, 7, none⟩ = some (.int .i64 x.flags) ∧ W.cell? ⟨w.heap.size, 8, none⟩ = some (sv x.text) ∧ W.cell? ⟨w.heap.size, 9, none⟩ = some (.bool x.filter.on) ∧ W.cell? ⟨w.heap.size, 10, none⟩ = some (.slice q x.filter.scopes.length d)))
        have hs0 := HS.out X.drew H0.out.drew
        refine ord_start [(0, true), (1, true), (2, false), (3, true), (4, true), (5, true), (6, true), (7, false), (8, true), (9, true), (10, true), (11, true), (13, true), (12, false), (14, false), (15, true), (16, true)] (fun W => W.cell? ⟨w.heap.size, 0, none⟩ = some (sv x.tag) ∧ W.cell? ⟨w.heap.size, 1, none⟩ = some (.int .i64 x.kind) ∧ W.cell? ⟨w.heap.size, 2, none⟩ = some (sv x.box) ∧ W.cell? ⟨w.heap.size, 3, none⟩ = some (sv x.dst) ∧ W.cell? ⟨w.heap.size, 4, none⟩ = some (.bool x.uid) ∧ W.cell? ⟨w.heap.size, 5, none⟩ = some (.slice p x.sset.length c) ∧ W.cell? ⟨w.heap.size, 6, none⟩ = some (.int .i64 x.op) ∧ W.cell? ⟨w.heap.size, 7, none⟩ = some (.int .i64 x.flags) ∧ W.cell? ⟨w.heap.size, 8, none⟩ = some (sv x.text) ∧ W.cell? ⟨w.heap.size, 9, none⟩ = some (.bool x.filter.on) ∧ W.cell? ⟨w.heap.size, 10, none⟩ = some (.slice q x.filter.scopes.length d)) (by kernel_rfl) (by kernel_rfl) rfl (by kernel_rfl) ?_
        intro ops' hops
        simp only [List.map_cons, List.map_nil, pickOp_zero, pickOp_succ]
        iterate 2 (refine ord_flo ?_ (fun _ _ _ h => h) rfl ?_ hs0 ?_; rotate_left; focus (intro W hS; obtain ⟨s0, s1, s2, s3, s4, s5, s6, s7, s8, s9, s10⟩ := hS; go_simp; rfl))
        try go_frame
        refine ord_ev rfl ?_
        go_simp
        refine (CT.out _).mono ?_
        rintro e w1 ⟨rfl, rfl⟩
        refine ⟨hs0, ?_⟩
        iterate 2 (refine ord_flo ?_ (fun _ _ _ h => h) rfl ?_ hs0 ?_; rotate_left; focus (intro W hS; obtain ⟨s0, s1, s2, s3, s4, s5, s6, s7, s8, s9, s10⟩ := hS; go_simp; rfl))
        iterate 2 (refine ord_flo ?_ (fun _ _ _ h => h) (by rw [hops.out]; kernel_rfl) ?_ hs0 ?_; rotate_left; focus (intro W hS; obtain ⟨s0, s1, s2, s3, s4, s5, s6, s7, s8, s9, s10⟩ := hS; go_simp; rfl))
        try go_frame
        refine ord_ev (by rw [hops.out]; kernel_rfl) ?_
        go_simp
        refine (CK.out _).mono ?_
        rintro e w2 ⟨rfl, rfl⟩
        refine ⟨hs0, ?_⟩
        iterate 1 (refine ord_flo ?_ (fun _ _ _ h => h) (by rw [hops.out]; kernel_rfl) ?_ hs0 ?_; rotate_left; focus (intro W hS; obtain ⟨s0, s1, s2, s3, s4, s5, s6, s7, s8, s9, s10⟩ := hS; go_simp; rfl))
        iterate 2 (refine ord_flo ?_ (fun _ _ _ h => h) rfl ?_ hs0 ?_; rotate_left; focus (intro W hS; obtain ⟨s0, s1, s2, s3, s4, s5, s6, s7, s8, s9, s10⟩ := hS; go_simp; rfl))
        iterate 2 (refine ord_flo ?_ (fun _ _ _ h => h) (by rw [hops.out]; kernel_rfl) ?_ hs0 ?_; rotate_left; focus (intro W hS; obtain ⟨s0, s1, s2, s3, s4, s5, s6, s7, s8, s9, s10⟩ := hS; go_simp; rfl))
        try go_frame
        refine ord_ev (by rw [hops.out]; kernel_rfl) ?_
        go_simp
        refine (CS.out _).mono ?_
        rintro e w3 ⟨rfl, b3⟩
        have H3 := Lib.hid (H0.out.drew.call b3)
        clear b3
        have hs3 := HS.out _ H3.out
        refine ⟨hs3, ?_⟩
        try go_frame
        refine ord_ev (by rw [hops.out]; kernel_rfl) ?_
        go_simp
        refine (CE.out _ H3.out.b).mono ?_
        rintro e w4 ⟨rfl, b4⟩
        have H4 := Lib.hid (H3.out.call b4)
        clear b4
        have hs4 := HS.out _ H4.out
        refine ⟨hs4, ?_⟩
        iterate 1 (refine ord_flo ?_ (fun _ _ _ h => h) (by rw [hops.out]; kernel_rfl) ?_ hs4 ?_; rotate_left; focus (intro W hS; obtain ⟨s0, s1, s2, s3, s4, s5, s6, s7, s8, s9, s10⟩ := hS; go_simp; rfl))
        iterate 1 (refine ord_flo ?_ (fun _ _ _ h => h) rfl ?_ hs4 ?_; rotate_left; focus (intro W hS; obtain ⟨s0, s1, s2, s3, s4, s5, s6, s7, s8, s9, s10⟩ := hS; go_simp; rfl))
        refine ord_done ?_
        go_simp
        try go_frame
        have HB := Lib.hid H4.out.b
        have HC := Lib.hid H4.out.a
        clear HS hs0 hs3 hs4 H0 H3 H4 CT CK CS CE
        have y0 := (Lib.cell_of_heap HC.out 0).trans (show _ = some (sv x.tag) from rfl)
        have y1 := (Lib.cell_of_heap HC.out 1).trans (show _ = some (.int .i64 x.kind) from rfl)
        have y2 := (Lib.cell_of_heap HC.out 2).trans (show _ = some (sv x.box) from rfl)
        have y3 := (Lib.cell_of_heap HC.out 3).trans (show _ = some (sv x.dst) from rfl)
        have y4 := (Lib.cell_of_heap HC.out 4).trans (show _ = some (.bool x.uid) from rfl)
        have y5 := (Lib.cell_of_heap HC.out 5).trans (show _ = some (.slice p x.sset.length c) from rfl)
        have y6 := (Lib.cell_of_heap HC.out 6).trans (show _ = some (.int .i64 x.op) from rfl)
        have y7 := (Lib.cell_of_heap HC.out 7).trans (show _ = some (.int .i64 x.flags) from rfl)
        have y8 := (Lib.cell_of_heap HC.out 8).trans (show _ = some (sv x.text) from rfl)
        have y9 := (Lib.cell_of_heap HC.out 9).trans (show _ = some (.bool x.filter.on) from rfl)
        have y10 := (Lib.cell_of_heap HC.out 10).trans (show _ = some (.slice q x.filter.scopes.length d) from rfl)
        clear HC
        by_cases k14 : x.kind = 14
        · have hb1 : boxedB x.kind = true := by unfold boxedB; simp only [Bool.or_eq_true, beq_iff_eq]; omega
          have hb2 : setsB x.kind = false := by unfold setsB; simp only [Bool.or_eq_false_iff, beq_eq_false_iff_ne]; omega
          have t14 : (x.kind == 14) = true := by rw [beq_iff_eq]; omega
          have t8 : (x.kind == 8) = false := by rw [beq_eq_false_iff_ne]; omega
          clear k14
          rw [hb1] at CB
          rw [hb2] at CZ
          go_wp2_with fail
          refine (CB.out _).mono ?_
          rintro e w5 ⟨rfl, rfl⟩
          cases e0 : nameB x.box with
          | true =>
            rw [show nameB (ByteArray.mk x.box.toArray).data.toList = true from e0] at Cname2
            go_wp2_with fail
            refine (Cname2.out _).mono ?_
            rintro e w7 ⟨rfl, rfl⟩
            cases e1 : nameB x.dst with
            | true =>
              rw [show nameB (ByteArray.mk x.dst.toArray).data.toList = true from e1] at Cname3
              go_wp2_with fail
              refine (Cname3.out _).mono ?_
              rintro e w7 ⟨rfl, rfl⟩
              go_wp2_with fail
              refine (CZ.out _).mono ?_
              rintro e w6 ⟨rfl, rfl⟩
              cases e2 : flB x.flags with
              | true =>
                rw [e2] at Cflags7
                go_wp2_with fail
                refine (Cflags7.out _).mono ?_
                rintro e w7 ⟨rfl, rfl⟩
                by_cases hl : (x.text.length : Int) ≤ 40
                · have el : decide ((x.text.length : Int) ≤ 40) = true := decide_eq_true hl
                  have HV := Lib.hid (show cmdB x = filterB x.filter from by unfold cmdB; rw [eT, eK, eE, hb1, hb2, t14, t8, e0, e1, e2, el]; simp)
                  go_wp2_with fail
                  refine (Cfilter9.out _ HB.out).mono ?_
                  rintro e w9 ⟨rfl, b9⟩
                  have hbz := HB.out.trans (b9.mono HB.out.size)
                  clear b9
                  go_wp2
                  go_ret
                  exact ⟨by rw [HV.out]; rfl, hbz⟩
                · have el : decide ((x.text.length : Int) ≤ 40) = false := decide_eq_false hl
                  have HV := Lib.hid (show cmdB x = false from by unfold cmdB; rw [eT, eK, eE, hb1, hb2, t14, t8, e0, e1, e2, el]; simp)
                  go_wp2
                  go_ret
                  exact ⟨by rw [HV.out]; rfl, HB.out⟩
              | false =>
                rw [e2] at Cflags7
                go_wp2_with fail
                refine (Cflags7.out _).mono ?_
                rintro e w7 ⟨rfl, rfl⟩
                have HV := Lib.hid (show cmdB x = false from by unfold cmdB; rw [eT, eK, eE, hb1, hb2, t14, t8, e0, e1, e2]; simp)
                go_wp2
                go_ret
                exact ⟨by rw [HV.out]; rfl, HB.out⟩
            | false =>
              rw [show nameB (ByteArray.mk x.dst.toArray).data.toList = false from e1] at Cname3
              go_wp2_with fail
              refine (Cname3.out _).mono ?_
              rintro e w7 ⟨rfl, rfl⟩
              have HV := Lib.hid (show cmdB x = false from by unfold cmdB; rw [eT, eK, eE, hb1, hb2, t14, t8, e0, e1]; simp)
              go_wp2
              go_ret
              exact ⟨by rw [HV.out]; rfl, HB.out⟩
          | false =>
            rw [show nameB (ByteArray.mk x.box.toArray).data.toList = false from e0] at Cname2
            go_wp2_with fail
            refine (Cname2.out _).mono ?_
            rintro e w7 ⟨rfl, rfl⟩
            have HV := Lib.hid (show cmdB x = false from by unfold cmdB; rw [eT, eK, eE, hb1, hb2, t14, t8, e0]; simp)
            go_wp2
            go_ret
            exact ⟨by rw [HV.out]; rfl, HB.out⟩
        by_cases k10 : x.kind = 10
        · have hb1 : boxedB x.kind = true := by unfold boxedB; simp only [Bool.or_eq_true, beq_iff_eq]; omega
          have hb2 : setsB x.kind = true := by unfold setsB; simp only [Bool.or_eq_true, beq_iff_eq]; omega
          have t14 : (x.kind == 14) = false := by rw [beq_eq_false_iff_ne]; omega
          have t8 : (x.kind == 8) = false := by rw [beq_eq_false_iff_ne]; omega
          clear k10
          rw [hb1] at CB
          rw [hb2] at CZ
          go_wp2_with fail
          refine (CB.out _).mono ?_
          rintro e w5 ⟨rfl, rfl⟩
          cases e0 : nameB x.box with
          | true =>
            rw [show nameB (ByteArray.mk x.box.toArray).data.toList = true from e0] at Cname2
            go_wp2_with fail
            refine (Cname2.out _).mono ?_
            rintro e w7 ⟨rfl, rfl⟩
            go_wp2_with fail
            refine (CZ.out _).mono ?_
            rintro e w6 ⟨rfl, rfl⟩
            cases e1 : setB x.sset with
            | true =>
              rw [e1] at Cset5
              go_wp2_with fail
              refine (Cset5.out _ HB.out).mono ?_
              rintro e w7 ⟨rfl, rfl⟩
              cases e2 : flB x.flags with
              | true =>
                rw [e2] at Cflags7
                go_wp2_with fail
                refine (Cflags7.out _).mono ?_
                rintro e w7 ⟨rfl, rfl⟩
                by_cases hl : (x.text.length : Int) ≤ 40
                · have el : decide ((x.text.length : Int) ≤ 40) = true := decide_eq_true hl
                  have HV := Lib.hid (show cmdB x = filterB x.filter from by unfold cmdB; rw [eT, eK, eE, hb1, hb2, t14, t8, e0, e1, e2, el]; simp)
                  go_wp2_with fail
                  refine (Cfilter9.out _ HB.out).mono ?_
                  rintro e w9 ⟨rfl, b9⟩
                  have hbz := HB.out.trans (b9.mono HB.out.size)
                  clear b9
                  go_wp2
                  go_ret
                  exact ⟨by rw [HV.out]; rfl, hbz⟩
                · have el : decide ((x.text.length : Int) ≤ 40) = false := decide_eq_false hl
                  have HV := Lib.hid (show cmdB x = false from by unfold cmdB; rw [eT, eK, eE, hb1, hb2, t14, t8, e0, e1, e2, el]; simp)
                  go_wp2
                  go_ret
                  exact ⟨by rw [HV.out]; rfl, HB.out⟩
              | false =>
                rw [e2] at Cflags7
                go_wp2_with fail
                refine (Cflags7.out _).mono ?_
                rintro e w7 ⟨rfl, rfl⟩
                have HV := Lib.hid (show cmdB x = false from by unfold cmdB; rw [eT, eK, eE, hb1, hb2, t14, t8, e0, e1, e2]; simp)
                go_wp2
                go_ret
                exact ⟨by rw [HV.out]; rfl, HB.out⟩
            | false =>
              rw [e1] at Cset5
              go_wp2_with fail
              refine (Cset5.out _ HB.out).mono ?_
              rintro e w7 ⟨rfl, rfl⟩
              have HV := Lib.hid (show cmdB x = false from by unfold cmdB; rw [eT, eK, eE, hb1, hb2, t14, t8, e0, e1]; simp)
              go_wp2
              go_ret
              exact ⟨by rw [HV.out]; rfl, HB.out⟩
          | false =>
            rw [show nameB (ByteArray.mk x.box.toArray).data.toList = false from e0] at Cname2
            go_wp2_with fail
            refine (Cname2.out _).mono ?_
            rintro e w7 ⟨rfl, rfl⟩
            have HV := Lib.hid (show cmdB x = false from by unfold cmdB; rw [eT, eK, eE, hb1, hb2, t14, t8, e0]; simp)
            go_wp2
            go_ret
            exact ⟨by rw [HV.out]; rfl, HB.out⟩
        by_cases k8 : x.kind = 8
        · have hb1 : boxedB x.kind = false := by unfold boxedB; simp only [Bool.or_eq_false_iff, beq_eq_false_iff_ne]; omega
          have hb2 : setsB x.kind = true := by unfold setsB; simp only [Bool.or_eq_true, beq_iff_eq]; omega
          have t14 : (x.kind == 14) = false := by rw [beq_eq_false_iff_ne]; omega
          have t8 : (x.kind == 8) = true := by rw [beq_iff_eq]; omega
          clear k8
          rw [hb1] at CB
          rw [hb2] at CZ
          go_wp2_with fail
          refine (CB.out _).mono ?_
          rintro e w5 ⟨rfl, rfl⟩
          go_wp2_with fail
          refine (CZ.out _).mono ?_
          rintro e w6 ⟨rfl, rfl⟩
          cases e0 : setB x.sset with
          | true =>
            rw [e0] at Cset5
            go_wp2_with fail
            refine (Cset5.out _ HB.out).mono ?_
            rintro e w7 ⟨rfl, rfl⟩
            cases e1 : (decide (1 ≤ x.op) && decide (x.op ≤ 3)) with
            | true =>
              rw [e1] at Cop6
              go_wp2_with fail
              refine (Cop6.out _).mono ?_
              rintro e w7 ⟨rfl, rfl⟩
              cases e2 : flB x.flags with
              | true =>
                rw [e2] at Cflags7
                go_wp2_with fail
                refine (Cflags7.out _).mono ?_
                rintro e w7 ⟨rfl, rfl⟩
                by_cases hl : (x.text.length : Int) ≤ 40
                · have el : decide ((x.text.length : Int) ≤ 40) = true := decide_eq_true hl
                  have HV := Lib.hid (show cmdB x = filterB x.filter from by unfold cmdB; rw [eT, eK, eE, hb1, hb2, t14, t8, e0, e1, e2, el]; simp)
                  go_wp2_with fail
                  refine (Cfilter9.out _ HB.out).mono ?_
                  rintro e w9 ⟨rfl, b9⟩
                  have hbz := HB.out.trans (b9.mono HB.out.size)
                  clear b9
                  go_wp2
                  go_ret
                  exact ⟨by rw [HV.out]; rfl, hbz⟩
                · have el : decide ((x.text.length : Int) ≤ 40) = false := decide_eq_false hl
                  have HV := Lib.hid (show cmdB x = false from by unfold cmdB; rw [eT, eK, eE, hb1, hb2, t14, t8, e0, e1, e2, el]; simp)
                  go_wp2
                  go_ret
                  exact ⟨by rw [HV.out]; rfl, HB.out⟩
              | false =>
                rw [e2] at Cflags7
                go_wp2_with fail
                refine (Cflags7.out _).mono ?_
                rintro e w7 ⟨rfl, rfl⟩
                have HV := Lib.hid (show cmdB x = false from by unfold cmdB; rw [eT, eK, eE, hb1, hb2, t14, t8, e0, e1, e2]; simp)
                go_wp2
                go_ret
                exact ⟨by rw [HV.out]; rfl, HB.out⟩
            | false =>
              rw [e1] at Cop6
              go_wp2_with fail
              refine (Cop6.out _).mono ?_
              rintro e w7 ⟨rfl, rfl⟩
              have HV := Lib.hid (show cmdB x = false from by unfold cmdB; rw [eT, eK, eE, hb1, hb2, t14, t8, e0, e1]; simp)
              go_wp2
              go_ret
              exact ⟨by rw [HV.out]; rfl, HB.out⟩
          | false =>
            rw [e0] at Cset5
            go_wp2_with fail
            refine (Cset5.out _ HB.out).mono ?_
            rintro e w7 ⟨rfl, rfl⟩
            have HV := Lib.hid (show cmdB x = false from by unfold cmdB; rw [eT, eK, eE, hb1, hb2, t14, t8, e0]; simp)
            go_wp2
            go_ret
            exact ⟨by rw [HV.out]; rfl, HB.out⟩
        by_cases k7 : x.kind = 7
        · have hb1 : boxedB x.kind = false := by unfold boxedB; simp only [Bool.or_eq_false_iff, beq_eq_false_iff_ne]; omega
          have hb2 : setsB x.kind = true := by unfold setsB; simp only [Bool.or_eq_true, beq_iff_eq]; omega
          have t14 : (x.kind == 14) = false := by rw [beq_eq_false_iff_ne]; omega
          have t8 : (x.kind == 8) = false := by rw [beq_eq_false_iff_ne]; omega
          clear k7
          rw [hb1] at CB
          rw [hb2] at CZ
          go_wp2_with fail
          refine (CB.out _).mono ?_
          rintro e w5 ⟨rfl, rfl⟩
          go_wp2_with fail
          refine (CZ.out _).mono ?_
          rintro e w6 ⟨rfl, rfl⟩
          cases e0 : setB x.sset with
          | true =>
            rw [e0] at Cset5
            go_wp2_with fail
            refine (Cset5.out _ HB.out).mono ?_
            rintro e w7 ⟨rfl, rfl⟩
            cases e1 : flB x.flags with
            | true =>
              rw [e1] at Cflags7
              go_wp2_with fail
              refine (Cflags7.out _).mono ?_
              rintro e w7 ⟨rfl, rfl⟩
              by_cases hl : (x.text.length : Int) ≤ 40
              · have el : decide ((x.text.length : Int) ≤ 40) = true := decide_eq_true hl
                have HV := Lib.hid (show cmdB x = filterB x.filter from by unfold cmdB; rw [eT, eK, eE, hb1, hb2, t14, t8, e0, e1, el]; simp)
                go_wp2_with fail
                refine (Cfilter9.out _ HB.out).mono ?_
                rintro e w9 ⟨rfl, b9⟩
                have hbz := HB.out.trans (b9.mono HB.out.size)
                clear b9
                go_wp2
                go_ret
                exact ⟨by rw [HV.out]; rfl, hbz⟩
              · have el : decide ((x.text.length : Int) ≤ 40) = false := decide_eq_false hl
                have HV := Lib.hid (show cmdB x = false from by unfold cmdB; rw [eT, eK, eE, hb1, hb2, t14, t8, e0, e1, el]; simp)
                go_wp2
                go_ret
                exact ⟨by rw [HV.out]; rfl, HB.out⟩
            | false =>
              rw [e1] at Cflags7
              go_wp2_with fail
              refine (Cflags7.out _).mono ?_
              rintro e w7 ⟨rfl, rfl⟩
              have HV := Lib.hid (show cmdB x = false from by unfold cmdB; rw [eT, eK, eE, hb1, hb2, t14, t8, e0, e1]; simp)
              go_wp2
              go_ret
              exact ⟨by rw [HV.out]; rfl, HB.out⟩
          | false =>
            rw [e0] at Cset5
            go_wp2_with fail
            refine (Cset5.out _ HB.out).mono ?_
            rintro e w7 ⟨rfl, rfl⟩
            have HV := Lib.hid (show cmdB x = false from by unfold cmdB; rw [eT, eK, eE, hb1, hb2, t14, t8, e0]; simp)
            go_wp2
            go_ret
            exact ⟨by rw [HV.out]; rfl, HB.out⟩
        by_cases kb : x.kind = 2 ∨ x.kind = 11 ∨ x.kind = 12 ∨ x.kind = 13
        · have hb1 : boxedB x.kind = true := by unfold boxedB; simp only [Bool.or_eq_true, beq_iff_eq]; omega
          have hb2 : setsB x.kind = false := by unfold setsB; simp only [Bool.or_eq_false_iff, beq_eq_false_iff_ne]; omega
          have t14 : (x.kind == 14) = false := by rw [beq_eq_false_iff_ne]; omega
          have t8 : (x.kind == 8) = false := by rw [beq_eq_false_iff_ne]; omega
          clear kb
          rw [hb1] at CB
          rw [hb2] at CZ
          go_wp2_with fail
          refine (CB.out _).mono ?_
          rintro e w5 ⟨rfl, rfl⟩
          cases e0 : nameB x.box with
          | true =>
            rw [show nameB (ByteArray.mk x.box.toArray).data.toList = true from e0] at Cname2
            go_wp2_with fail
            refine (Cname2.out _).mono ?_
            rintro e w7 ⟨rfl, rfl⟩
            go_wp2_with fail
            refine (CZ.out _).mono ?_
            rintro e w6 ⟨rfl, rfl⟩
            cases e1 : flB x.flags with
            | true =>
              rw [e1] at Cflags7
              go_wp2_with fail
              refine (Cflags7.out _).mono ?_
              rintro e w7 ⟨rfl, rfl⟩
              by_cases hl : (x.text.length : Int) ≤ 40
              · have el : decide ((x.text.length : Int) ≤ 40) = true := decide_eq_true hl
                have HV := Lib.hid (show cmdB x = filterB x.filter from by unfold cmdB; rw [eT, eK, eE, hb1, hb2, t14, t8, e0, e1, el]; simp)
                go_wp2_with fail
                refine (Cfilter9.out _ HB.out).mono ?_
                rintro e w9 ⟨rfl, b9⟩
                have hbz := HB.out.trans (b9.mono HB.out.size)
                clear b9
                go_wp2
                go_ret
                exact ⟨by rw [HV.out]; rfl, hbz⟩
              · have el : decide ((x.text.length : Int) ≤ 40) = false := decide_eq_false hl
                have HV := Lib.hid (show cmdB x = false from by unfold cmdB; rw [eT, eK, eE, hb1, hb2, t14, t8, e0, e1, el]; simp)
                go_wp2
                go_ret
                exact ⟨by rw [HV.out]; rfl, HB.out⟩
            | false =>
              rw [e1] at Cflags7
              go_wp2_with fail
              refine (Cflags7.out _).mono ?_
              rintro e w7 ⟨rfl, rfl⟩
              have HV := Lib.hid (show cmdB x = false from by unfold cmdB; rw [eT, eK, eE, hb1, hb2, t14, t8, e0, e1]; simp)
              go_wp2
              go_ret
              exact ⟨by rw [HV.out]; rfl, HB.out⟩
          | false =>
            rw [show nameB (ByteArray.mk x.box.toArray).data.toList = false from e0] at Cname2
            go_wp2_with fail
            refine (Cname2.out _).mono ?_
            rintro e w7 ⟨rfl, rfl⟩
            have HV := Lib.hid (show cmdB x = false from by unfold cmdB; rw [eT, eK, eE, hb1, hb2, t14, t8, e0]; simp)
            go_wp2
            go_ret
            exact ⟨by rw [HV.out]; rfl, HB.out⟩
        have hb1 : boxedB x.kind = false := by unfold boxedB; simp only [Bool.or_eq_false_iff, beq_eq_false_iff_ne]; omega
        have hb2 : setsB x.kind = false := by unfold setsB; simp only [Bool.or_eq_false_iff, beq_eq_false_iff_ne]; omega
        have t14 : (x.kind == 14) = false := by rw [beq_eq_false_iff_ne]; omega
        have t8 : (x.kind == 8) = false := by rw [beq_eq_false_iff_ne]; omega
        rw [hb1] at CB
        rw [hb2] at CZ
        go_wp2_with fail
        refine (CB.out _).mono ?_
        rintro e w5 ⟨rfl, rfl⟩
        go_wp2_with fail
        refine (CZ.out _).mono ?_
        rintro e w6 ⟨rfl, rfl⟩
        cases e0 : flB x.flags with
        | true =>
          rw [e0] at Cflags7
          go_wp2_with fail
          refine (Cflags7.out _).mono ?_
          rintro e w7 ⟨rfl, rfl⟩
          by_cases hl : (x.text.length : Int) ≤ 40
          · have el : decide ((x.text.length : Int) ≤ 40) = true := decide_eq_true hl
            have HV := Lib.hid (show cmdB x = filterB x.filter from by unfold cmdB; rw [eT, eK, eE, hb1, hb2, t14, t8, e0, el]; simp)
            go_wp2_with fail
            refine (Cfilter9.out _ HB.out).mono ?_
            rintro e w9 ⟨rfl, b9⟩
            have hbz := HB.out.trans (b9.mono HB.out.size)
            clear b9
            go_wp2
            go_ret
            exact ⟨by rw [HV.out]; rfl, hbz⟩
          · have el : decide ((x.text.length : Int) ≤ 40) = false := decide_eq_false hl
            have HV := Lib.hid (show cmdB x = false from by unfold cmdB; rw [eT, eK, eE, hb1, hb2, t14, t8, e0, el]; simp)
            go_wp2
            go_ret
            exact ⟨by rw [HV.out]; rfl, HB.out⟩
        | false =>
          rw [e0] at Cflags7
          go_wp2_with fail
          refine (Cflags7.out _).mono ?_
          rintro e w7 ⟨rfl, rfl⟩
          have HV := Lib.hid (show cmdB x = false from by unfold cmdB; rw [eT, eK, eE, hb1, hb2, t14, t8, e0]; simp)
          go_wp2
          go_ret
          exact ⟨by rw [HV.out]; rfl, HB.out⟩

theorem cmdB_own (x : CmdD) (hk : 1 ≤ x.kind ∧ x.kind ≤ 15) : (ownOk x && tagB x.tag && decide (saidC x = x)) = cmdB x := by
  by_cases hd : saidC x = x
  · have hf : ¬ (x.kind = 8 ∨ x.kind = 11) → x.flags = 0 := fun h => by
      have h1 := congrArg CmdD.flags hd
      change (if x.kind = 8 ∨ x.kind = 11 then x.flags else 0) = x.flags at h1
      rw [if_neg h] at h1; exact h1.symm
    have ht : ¬ x.kind = 11 → x.text = [] := fun h => by
      have h1 := congrArg CmdD.text hd
      change (if x.kind = 11 then x.text else []) = x.text at h1
      rw [if_neg h] at h1; exact h1.symm
    have hfi : ¬ x.kind = 6 → x.filter = ⟨false, []⟩ := fun h => by
      have h1 := congrArg CmdD.filter hd
      change (if x.kind = 6 then x.filter else ⟨false, []⟩) = x.filter at h1
      rw [if_neg h] at h1; exact h1.symm
    have ho : ∀ n, opB n = (decide (1 ≤ n) && decide (n ≤ 3)) := fun _ => rfl
    unfold cmdB
    rw [decide_eq_true hd, decide_eq_true hk.1, decide_eq_true hk.2, ← ho]
    by_cases k14 : x.kind = 14
    · have hb1 : boxedB x.kind = true := by unfold boxedB; simp only [Bool.or_eq_true, beq_iff_eq]; omega
      have hb2 : setsB x.kind = false := by unfold setsB; simp only [Bool.or_eq_false_iff, beq_eq_false_iff_ne]; omega
      have t14 : (x.kind == 14) = true := by rw [beq_iff_eq]; omega
      have t8 : (x.kind == 8) = false := by rw [beq_eq_false_iff_ne]; omega
      have eo : ownOk x = (nameB x.box && nameB x.dst) := by unfold ownOk; rw [if_pos (by omega)]
      rw [eo, hb1, hb2, t14, t8, hf (by omega), ht (by omega), hfi (by omega)]
      generalize tagB x.tag = b0
      generalize nameB x.box = b1
      generalize nameB x.dst = b2
      cases b0 <;> cases b1 <;> cases b2 <;> rfl
    by_cases k11 : x.kind = 11
    · have hb1 : boxedB x.kind = true := by unfold boxedB; simp only [Bool.or_eq_true, beq_iff_eq]; omega
      have hb2 : setsB x.kind = false := by unfold setsB; simp only [Bool.or_eq_false_iff, beq_eq_false_iff_ne]; omega
      have t14 : (x.kind == 14) = false := by rw [beq_eq_false_iff_ne]; omega
      have t8 : (x.kind == 8) = false := by rw [beq_eq_false_iff_ne]; omega
      have eo : ownOk x = (nameB x.box && flB x.flags && decide ((x.text.length : Int) ≤ 40)) := by unfold ownOk; rw [if_neg (by omega), if_pos (by omega)]
      rw [eo, hb1, hb2, t14, t8, hfi (by omega)]
      generalize tagB x.tag = b0
      generalize nameB x.box = b1
      generalize flB x.flags = b2
      generalize decide ((x.text.length : Int) ≤ 40) = b3
      cases b0 <;> cases b1 <;> cases b2 <;> cases b3 <;> rfl
    by_cases k7 : x.kind = 7
    · have hb1 : boxedB x.kind = false := by unfold boxedB; simp only [Bool.or_eq_false_iff, beq_eq_false_iff_ne]; omega
      have hb2 : setsB x.kind = true := by unfold setsB; simp only [Bool.or_eq_true, beq_iff_eq]; omega
      have t14 : (x.kind == 14) = false := by rw [beq_eq_false_iff_ne]; omega
      have t8 : (x.kind == 8) = false := by rw [beq_eq_false_iff_ne]; omega
      have eo : ownOk x = (setB x.sset) := by unfold ownOk; rw [if_neg (by omega), if_neg (by omega), if_pos (by omega)]
      rw [eo, hb1, hb2, t14, t8, hf (by omega), ht (by omega), hfi (by omega)]
      generalize tagB x.tag = b0
      generalize setB x.sset = b1
      cases b0 <;> cases b1 <;> rfl
    by_cases k10 : x.kind = 10
    · have hb1 : boxedB x.kind = true := by unfold boxedB; simp only [Bool.or_eq_true, beq_iff_eq]; omega
      have hb2 : setsB x.kind = true := by unfold setsB; simp only [Bool.or_eq_true, beq_iff_eq]; omega
      have t14 : (x.kind == 14) = false := by rw [beq_eq_false_iff_ne]; omega
      have t8 : (x.kind == 8) = false := by rw [beq_eq_false_iff_ne]; omega
      have eo : ownOk x = (setB x.sset && nameB x.box) := by unfold ownOk; rw [if_neg (by omega), if_neg (by omega), if_neg (by omega), if_pos (by omega)]
      rw [eo, hb1, hb2, t14, t8, hf (by omega), ht (by omega), hfi (by omega)]
      generalize tagB x.tag = b0
      generalize nameB x.box = b1
      generalize setB x.sset = b2
      cases b0 <;> cases b1 <;> cases b2 <;> rfl
    by_cases k8 : x.kind = 8
    · have hb1 : boxedB x.kind = false := by unfold boxedB; simp only [Bool.or_eq_false_iff, beq_eq_false_iff_ne]; omega
      have hb2 : setsB x.kind = true := by unfold setsB; simp only [Bool.or_eq_true, beq_iff_eq]; omega
      have t14 : (x.kind == 14) = false := by rw [beq_eq_false_iff_ne]; omega
      have t8 : (x.kind == 8) = true := by rw [beq_iff_eq]; omega
      have eo : ownOk x = (setB x.sset && opB x.op && flB x.flags) := by unfold ownOk; rw [if_neg (by omega), if_neg (by omega), if_neg (by omega), if_neg (by omega), if_pos (by omega)]
      rw [eo, hb1, hb2, t14, t8, ht (by omega), hfi (by omega)]
      generalize tagB x.tag = b0
      generalize setB x.sset = b1
      generalize opB x.op = b2
      generalize flB x.flags = b3
      cases b0 <;> cases b1 <;> cases b2 <;> cases b3 <;> rfl
    by_cases k6 : x.kind = 6
    · have hb1 : boxedB x.kind = false := by unfold boxedB; simp only [Bool.or_eq_false_iff, beq_eq_false_iff_ne]; omega
      have hb2 : setsB x.kind = false := by unfold setsB; simp only [Bool.or_eq_false_iff, beq_eq_false_iff_ne]; omega
      have t14 : (x.kind == 14) = false := by rw [beq_eq_false_iff_ne]; omega
      have t8 : (x.kind == 8) = false := by rw [beq_eq_false_iff_ne]; omega
      have eo : ownOk x = (filterB x.filter) := by unfold ownOk; rw [if_neg (by omega), if_neg (by omega), if_neg (by omega), if_neg (by omega), if_neg (by omega), if_pos (by omega)]
      rw [eo, hb1, hb2, t14, t8, hf (by omega), ht (by omega)]
      generalize tagB x.tag = b0
      generalize filterB x.filter = b1
      cases b0 <;> cases b1 <;> rfl
    by_cases kb : x.kind = 2 ∨ x.kind = 12 ∨ x.kind = 13
    · have hb1 : boxedB x.kind = true := by unfold boxedB; simp only [Bool.or_eq_true, beq_iff_eq]; omega
      have hb2 : setsB x.kind = false := by unfold setsB; simp only [Bool.or_eq_false_iff, beq_eq_false_iff_ne]; omega
      have t14 : (x.kind == 14) = false := by rw [beq_eq_false_iff_ne]; omega
      have t8 : (x.kind == 8) = false := by rw [beq_eq_false_iff_ne]; omega
      have eo : ownOk x = (nameB x.box) := by unfold ownOk; rw [if_neg (by omega), if_neg (by omega), if_neg (by omega), if_neg (by omega), if_neg (by omega), if_neg (by omega), if_pos (by rw [hb1])]
      rw [eo, hb1, hb2, t14, t8, hf (by omega), ht (by omega), hfi (by omega)]
      generalize tagB x.tag = b0
      generalize nameB x.box = b1
      cases b0 <;> cases b1 <;> rfl
    have hb1 : boxedB x.kind = false := by unfold boxedB; simp only [Bool.or_eq_false_iff, beq_eq_false_iff_ne]; omega
    have hb2 : setsB x.kind = false := by unfold setsB; simp only [Bool.or_eq_false_iff, beq_eq_false_iff_ne]; omega
    have t14 : (x.kind == 14) = false := by rw [beq_eq_false_iff_ne]; omega
    have t8 : (x.kind == 8) = false := by rw [beq_eq_false_iff_ne]; omega
    have eo : ownOk x = (true) := by unfold ownOk; rw [if_neg (by omega), if_neg (by omega), if_neg (by omega), if_neg (by omega), if_neg (by omega), if_neg (by omega), if_neg (by rw [hb1]; decide)]
    rw [eo, hb1, hb2, t14, t8, hf (by omega), ht (by omega), hfi (by omega)]
    generalize tagB x.tag = b0
    cases b0 <;> rfl
  · rw [decide_eq_false hd]
    unfold cmdB
    rw [decide_eq_false hd]
    simp

set_option maxRecDepth 20000 in
set_option maxHeartbeats 6400000 in
theorem implCommandOk_at (x : CmdD) (a5 a10 : Value) (w : World) (ha : LfRd w (spnsLf x.sset) a5) (ha2 : LfRd w (scpsLf x.filter.scopes) a10) (hs : szLs x.lf ≤ 1048576) (hbd : LsBnd x.lf) :
    Calls Tryz.prog 30 #[cmdv x a5 a10] w fun e w' => e = .returned (.bool (cmdB x)) ∧ Below w.heap.size w w' := by
  have cE := fun W (h : Below w.heap.size w W) => implSameCommand_at x (saidC x) a5 a10 (said5 x a5) (said10 x a10) W (LfRd.below h _ _ ha) (LfRd.below h _ _ ha2) (said5_rd (LfRd.below h _ _ ha)) (said10_rd (LfRd.below h _ _ ha2)) hs hbd (said_small hs) (said_bnd hbd)
  have hsw : decide (x = saidC x) = decide (saidC x = x) := by
    by_cases h : x = saidC x
    · rw [decide_eq_true h, decide_eq_true h.symm]
    · rw [decide_eq_false h, decide_eq_false (fun e => h e.symm)]
  simp only [hsw] at cE
  have ha' := ha
  have ha2' := ha2
  obtain ⟨p, c, rfl, _⟩ := Spn.at ha
  obtain ⟨q, d, rfl, _⟩ := scps_at ha2
  obtain ⟨p5, c5, e5, _⟩ := Spn.at (said5_rd (x := x) ha')
  obtain ⟨p10, c10, e10, _⟩ := scps_at (said10_rd (x := x) ha2')
  rw [e5, e10] at cE
  have cT := fun W => implTagOk_at ⟨x.tag.toArray⟩ W (by have := (CmdD.small hs).1; unfold maxLen; show x.tag.toArray.size ≤ _; simp; omega)
  have CE := Lib.hid cE
  have CT := Lib.hid cT
  clear cE cT
  by_cases hk : 1 ≤ x.kind ∧ x.kind ≤ 15
  · have cO := fun W (h : Below w.heap.size w W) => ownFields_yes x p q c d W hk (LfRd.below h _ _ ha') (LfRd.below h _ _ ha2') hs hbd
    rw [e5, e10] at cO
    simp only [cmdv] at cO
    have CO := Lib.hid cO
    have HV := Lib.hid (cmdB_own x hk)
    clear cO ha' ha2' hs hbd hk hsw
    cases eO : ownOk x with
    | false =>
      rw [eO] at CO HV
      go_enter Tryz.func30, Tryz.ntmps30
      go_wp2_with fail
      refine (CO.out _ ((Below.refl _ _).alloc (Nat.le_refl _) _)).mono ?_
      rintro e w1 ⟨rfl, b1⟩
      have H1 := Lib.hid ((Own1.of (w := w) rfl).call b1)
      clear b1
      go_upto_region 2 with fail
      refine wp_named ?_
      intro X hX
      have H2 := Lib.hid (H1.out.call (show Below w1.heap.size w1 X from by rw [hX]; exact (Below.refl _ _).alloc (Nat.le_refl _) _))
      have HBX := Lib.hid H2.out.b
      clear hX
      go_wp2
      go_ret
      exact ⟨by rw [← HV.out]; simp, HBX.out⟩
    | true =>
      cases eT : tagB x.tag with
      | false =>
        rw [eO] at CO HV
        rw [eT] at HV
        rw [show tagB (ByteArray.mk x.tag.toArray).data.toList = false from eT] at CT
        go_enter Tryz.func30, Tryz.ntmps30
        go_wp2_with fail
        refine (CO.out _ ((Below.refl _ _).alloc (Nat.le_refl _) _)).mono ?_
        rintro e w1 ⟨rfl, b1⟩
        have H1 := Lib.hid ((Own1.of (w := w) rfl).call b1)
        clear b1
        go_upto_region 2 with fail
        refine wp_named ?_
        intro X hX
        have H2 := Lib.hid (H1.out.call (show Below w1.heap.size w1 X from by rw [hX]; exact (Below.refl _ _).alloc (Nat.le_refl _) _))
        have O2 := Lib.hid (show X.heap[w1.heap.size]? = some (.cells #[sv (saidC x).tag, .int .i64 (saidC x).kind, sv (saidC x).box, sv (saidC x).dst, .bool (saidC x).uid, (.slice p5 (saidC x).sset.length c5), .int .i64 (saidC x).op, .int .i64 (saidC x).flags, sv (saidC x).text, .bool (saidC x).filter.on, (.slice p10 (saidC x).filter.scopes.length c10)] 36 (0, 0)) from by rw [hX]; exact heap_alloc_new _ _)
        clear hX
        have a0 := (Lib.cell_of_heap H2.out.a 0).trans (show _ = some (sv x.tag) from rfl)
        go_wp2_with fail
        refine (CT.out _).mono ?_
        rintro e w3 ⟨rfl, b3⟩
        have hbz := H2.out.call b3
        clear b3
        go_wp2
        go_ret
        exact ⟨by rw [← HV.out]; simp, hbz.b⟩
      | true =>
        rw [eO] at CO HV
        rw [eT] at HV
        rw [show tagB (ByteArray.mk x.tag.toArray).data.toList = true from eT] at CT
        go_enter Tryz.func30, Tryz.ntmps30
        go_wp2_with fail
        refine (CO.out _ ((Below.refl _ _).alloc (Nat.le_refl _) _)).mono ?_
        rintro e w1 ⟨rfl, b1⟩
        have H1 := Lib.hid ((Own1.of (w := w) rfl).call b1)
        clear b1
        go_upto_region 2 with fail
        refine wp_named ?_
        intro X hX
        have H2 := Lib.hid (H1.out.call (show Below w1.heap.size w1 X from by rw [hX]; exact (Below.refl _ _).alloc (Nat.le_refl _) _))
        have O2 := Lib.hid (show X.heap[w1.heap.size]? = some (.cells #[sv (saidC x).tag, .int .i64 (saidC x).kind, sv (saidC x).box, sv (saidC x).dst, .bool (saidC x).uid, (.slice p5 (saidC x).sset.length c5), .int .i64 (saidC x).op, .int .i64 (saidC x).flags, sv (saidC x).text, .bool (saidC x).filter.on, (.slice p10 (saidC x).filter.scopes.length c10)] 36 (0, 0)) from by rw [hX]; exact heap_alloc_new _ _)
        clear hX
        have a0 := (Lib.cell_of_heap H2.out.a 0).trans (show _ = some (sv x.tag) from rfl)
        go_wp2_with fail
        refine (CT.out _).mono ?_
        rintro e w3 ⟨rfl, b3⟩
        have H3 := Lib.hid (H2.out.call b3)
        have O3 := Lib.hid ((b3.block w1.heap.size (Array.getElem?_eq_some_iff.1 O2.out).1).trans O2.out)
        clear b3 a0
        have a0 := (Lib.cell_of_heap H3.out.a 0).trans (show _ = some (sv x.tag) from rfl)
        have a1 := (Lib.cell_of_heap H3.out.a 1).trans (show _ = some (.int .i64 x.kind) from rfl)
        have a2 := (Lib.cell_of_heap H3.out.a 2).trans (show _ = some (sv x.box) from rfl)
        have a3 := (Lib.cell_of_heap H3.out.a 3).trans (show _ = some (sv x.dst) from rfl)
        have a4 := (Lib.cell_of_heap H3.out.a 4).trans (show _ = some (.bool x.uid) from rfl)
        have a5 := (Lib.cell_of_heap H3.out.a 5).trans (show _ = some (.slice p x.sset.length c) from rfl)
        have a6 := (Lib.cell_of_heap H3.out.a 6).trans (show _ = some (.int .i64 x.op) from rfl)
        have a7 := (Lib.cell_of_heap H3.out.a 7).trans (show _ = some (.int .i64 x.flags) from rfl)
        have a8 := (Lib.cell_of_heap H3.out.a 8).trans (show _ = some (sv x.text) from rfl)
        have a9 := (Lib.cell_of_heap H3.out.a 9).trans (show _ = some (.bool x.filter.on) from rfl)
        have a10 := (Lib.cell_of_heap H3.out.a 10).trans (show _ = some (.slice q x.filter.scopes.length d) from rfl)
        have o0 := (Lib.cell_of_heap O3.out 0).trans (show _ = some (sv (saidC x).tag) from rfl)
        have o1 := (Lib.cell_of_heap O3.out 1).trans (show _ = some (.int .i64 (saidC x).kind) from rfl)
        have o2 := (Lib.cell_of_heap O3.out 2).trans (show _ = some (sv (saidC x).box) from rfl)
        have o3 := (Lib.cell_of_heap O3.out 3).trans (show _ = some (sv (saidC x).dst) from rfl)
        have o4 := (Lib.cell_of_heap O3.out 4).trans (show _ = some (.bool (saidC x).uid) from rfl)
        have o5 := (Lib.cell_of_heap O3.out 5).trans (show _ = some ((.slice p5 (saidC x).sset.length c5)) from rfl)
        have o6 := (Lib.cell_of_heap O3.out 6).trans (show _ = some (.int .i64 (saidC x).op) from rfl)
        have o7 := (Lib.cell_of_heap O3.out 7).trans (show _ = some (.int .i64 (saidC x).flags) from rfl)
        have o8 := (Lib.cell_of_heap O3.out 8).trans (show _ = some (sv (saidC x).text) from rfl)
        have o9 := (Lib.cell_of_heap O3.out 9).trans (show _ = some (.bool (saidC x).filter.on) from rfl)
        have o10 := (Lib.cell_of_heap O3.out 10).trans (show _ = some ((.slice p10 (saidC x).filter.scopes.length c10)) from rfl)
        go_wp2_with fail
        refine (CE.out _ H3.out.b).mono ?_
        rintro e w4 ⟨rfl, b4⟩
        have hbz := H3.out.call b4
        clear b4 a0 a1 a2 a3 a4 a5 a6 a7 a8 a9 a10 o0 o1 o2 o3 o4 o5 o6 o7 o8 o9 o10
        go_wp2
        go_ret
        exact ⟨by rw [← HV.out]; simp, hbz.b⟩
  · have CO := Lib.hid (fun W => own_no x p q c d W hk)
    have HV := Lib.hid (show cmdB x = false from by
      unfold cmdB
      by_cases h1 : 1 ≤ x.kind
      · rw [decide_eq_false (show ¬ x.kind ≤ 15 from fun h2 => hk ⟨h1, h2⟩)]; simp
      · rw [decide_eq_false h1]; simp)
    clear ha' ha2' hs hbd hk hsw CE CT
    go_enter Tryz.func30, Tryz.ntmps30
    go_wp2_with fail
    refine (CO.out _).mono ?_
    rintro e w1 ⟨rfl, b1⟩
    have H1 := Lib.hid ((Own1.of (w := w) rfl).call b1)
    clear b1
    go_upto_region 2 with fail
    refine wp_named ?_
    intro X hX
    have H2 := Lib.hid (H1.out.call (show Below w1.heap.size w1 X from by rw [hX]; exact (Below.refl _ _).alloc (Nat.le_refl _) _))
    clear hX
    go_wp2
    go_ret
    exact ⟨by rw [HV.out]; rfl, H2.out.b⟩
theorem implCommandOk_c {G : World → Prop} : CtrCommandOk 30 G := fun x r5 r10 W _ h1 h2 hs hb => implCommandOk_at x r5 r10 W h1 h2 hs hb

end Go.Proofs.YtidjebepgpbcnaaGreatDoor
