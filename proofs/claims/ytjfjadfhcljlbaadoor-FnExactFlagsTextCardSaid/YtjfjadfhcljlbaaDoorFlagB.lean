/-
  Chapter 5: the model's ReadFlags, Changed, OpText, ReadOp.
-/
import Derived.Test.YtjfjadfhcljlbaaDoorFlagA
namespace Go.Proofs.YtjfjadfhcljlbaaDoor
open Go.RowKit

/-! ### Changed -/

def chg (op old new : Int) : Int :=
  if flB old = true ∧ flB new = true then (if op = 1 then bits .or .i64 old new else if op = 2 then bits .andNot .i64 old new else if op = 3 then new else old) else old

set_option maxHeartbeats 800000 in
theorem specChanged_any (op old new : Int) (w : World) :
    Calls Tryd.prog 9 #[.int .i64 op, .int .i64 old, .int .i64 new] w fun e w' => e = .returned (.int .i64 (chg op old new)) ∧ w = w' := by
  have c1 := fun W => specFlagsOk_any old W
  have c2 := fun W => specFlagsOk_any new W
  cases h1 : flB old with
  | false =>
    have HV := Lib.hid (show chg op old new = old by unfold chg; rw [if_neg (by rw [h1]; simp)])
    rw [h1] at c1
    have C1 := Lib.hid c1
    clear c1 c2
    go_enter Tryd.func9, Tryd.ntmps9
    go_wp2_with fail
    refine (C1.out _).mono ?_
    rintro e w1 ⟨rfl, rfl⟩
    go_wp2
    go_ret
    exact ⟨by rw [HV.out]; rfl, rfl⟩
  | true =>
    rw [h1] at c1
    have C1 := Lib.hid c1
    cases h2 : flB new with
    | false =>
      have HV := Lib.hid (show chg op old new = old by unfold chg; rw [if_neg (by rw [h2]; simp)])
      rw [h2] at c2
      have C2 := Lib.hid c2
      clear c1 c2
      go_enter Tryd.func9, Tryd.ntmps9
      go_wp2_with fail
      refine (C1.out _).mono ?_
      rintro e w1 ⟨rfl, rfl⟩
      go_wp2_with fail
      refine (C2.out _).mono ?_
      rintro e w1 ⟨rfl, rfl⟩
      go_wp2
      go_ret
      exact ⟨by rw [HV.out]; rfl, rfl⟩
    | true =>
      have hv : chg op old new = (if op = 1 then bits .or .i64 old new else if op = 2 then bits .andNot .i64 old new else if op = 3 then new else old) := by unfold chg; rw [if_pos ⟨h1, h2⟩]
      rw [h2] at c2
      have C2 := Lib.hid c2
      have hop : (op == 1) = true ∨ ((op == 1) = false ∧ (op == 2) = true) ∨ ((op == 1) = false ∧ (op == 2) = false ∧ (op == 3) = true) ∨ ((op == 1) = false ∧ (op == 2) = false ∧ (op == 3) = false) := by
        cases (op == 1) <;> cases (op == 2) <;> cases (op == 3) <;> simp
      have HV := Lib.hid hv
      clear c1 c2 hv
      rcases hop with g1 | ⟨g1, g2⟩ | ⟨g1, g2, g3⟩ | ⟨g1, g2, g3⟩
      · have HE := Lib.hid (show chg op old new = bits .or .i64 old new by rw [HV.out, if_pos (beq_iff_eq.1 g1)])
        go_enter Tryd.func9, Tryd.ntmps9
        go_wp2_with fail
        refine (C1.out _).mono ?_
        rintro e w1 ⟨rfl, rfl⟩
        go_wp2_with fail
        refine (C2.out _).mono ?_
        rintro e w1 ⟨rfl, rfl⟩
        go_wp2
        go_ret
        exact ⟨by rw [HE.out]; rfl, rfl⟩
      · have HE := Lib.hid (show chg op old new = bits .andNot .i64 old new by rw [HV.out, if_neg (beq_eq_false_iff_ne.1 g1), if_pos (beq_iff_eq.1 g2)])
        go_enter Tryd.func9, Tryd.ntmps9
        go_wp2_with fail
        refine (C1.out _).mono ?_
        rintro e w1 ⟨rfl, rfl⟩
        go_wp2_with fail
        refine (C2.out _).mono ?_
        rintro e w1 ⟨rfl, rfl⟩
        go_wp2
        go_ret
        exact ⟨by rw [HE.out]; rfl, rfl⟩
      · have HE := Lib.hid (show chg op old new = new by rw [HV.out, if_neg (beq_eq_false_iff_ne.1 g1), if_neg (beq_eq_false_iff_ne.1 g2), if_pos (beq_iff_eq.1 g3)])
        go_enter Tryd.func9, Tryd.ntmps9
        go_wp2_with fail
        refine (C1.out _).mono ?_
        rintro e w1 ⟨rfl, rfl⟩
        go_wp2_with fail
        refine (C2.out _).mono ?_
        rintro e w1 ⟨rfl, rfl⟩
        go_wp2
        go_ret
        exact ⟨by rw [HE.out]; rfl, rfl⟩
      · have HE := Lib.hid (show chg op old new = old by rw [HV.out, if_neg (beq_eq_false_iff_ne.1 g1), if_neg (beq_eq_false_iff_ne.1 g2), if_neg (beq_eq_false_iff_ne.1 g3)])
        go_enter Tryd.func9, Tryd.ntmps9
        go_wp2_with fail
        refine (C1.out _).mono ?_
        rintro e w1 ⟨rfl, rfl⟩
        go_wp2_with fail
        refine (C2.out _).mono ?_
        rintro e w1 ⟨rfl, rfl⟩
        go_wp2
        go_ret
        exact ⟨by rw [HE.out]; rfl, rfl⟩

/-! ### OpText, ReadOp -/

def opT (op : Int) : List UInt8 := if op = 1 then [43] else if op = 2 then [45] else if op = 3 then [61] else []
def rdOp (s : List UInt8) : Option Int := if s = [43] then some 1 else if s = [45] then some 2 else if s = [61] then some 3 else none
def opV (o : Option Int) : Value := match o with | some n => .tuple #[.int .i64 n, .bool true] | none => .tuple #[.int .i64 0, .bool false]

def opTo (s : List UInt8) (k : Nat) : Prop := ∀ j : Nat, 1 ≤ j → j < k → ¬ opT (j : Int) = s
theorem rdOp_hit {s : List UInt8} {k : Nat} (h1 : 1 ≤ k) (h3 : k ≤ 3) (h : opT (k : Int) = s) : rdOp s = some (k : Int) := by
  have hk : k = 1 ∨ k = 2 ∨ k = 3 := by omega
  rcases hk with rfl | rfl | rfl <;> (subst h; decide)
theorem rdOp_no {s : List UInt8} (h : opTo s 4) : rdOp s = none := by
  have h1 := h 1 (by omega) (by omega)
  have h2 := h 2 (by omega) (by omega)
  have h3 := h 3 (by omega) (by omega)
  unfold rdOp
  rw [if_neg (fun e => h1 (by rw [e]; rfl)), if_neg (fun e => h2 (by rw [e]; rfl)), if_neg (fun e => h3 (by rw [e]; rfl))]

/-! ### ReadFlags -/

/-- The bit of a word, looked up among the first k. -/
def wBitTo (w : List UInt8) : Nat → Nat
  | 0 => 0
  | k + 1 => if upper w = upper (flAt k) then 2 ^ k else wBitTo w k
def wBit (w : List UInt8) : Nat := wBitTo w 5
def rdF : Nat → List (List UInt8) → Option Nat
  | acc, [] => some acc
  | acc, w :: r => if wBit w = 0 ∨ acc &&& wBit w ≠ 0 then none else rdF (acc ||| wBit w) r
def rdV (o : Option Nat) : Value := match o with | some n => .tuple #[.int .i64 (n : Int), .bool true] | none => .tuple #[.int .i64 0, .bool false]
theorem wBitTo_le (w : List UInt8) : ∀ k, k ≤ 5 → wBitTo w k ≤ 16
  | 0, _ => by simp [wBitTo]
  | k + 1, h => by
    unfold wBitTo
    split
    · have : k = 0 ∨ k = 1 ∨ k = 2 ∨ k = 3 ∨ k = 4 := by omega
      rcases this with rfl | rfl | rfl | rfl | rfl <;> decide
    · exact wBitTo_le w k (by omega)
theorem and_nat (a b : Nat) (ha : a ≤ 31) (hb : b ≤ 16) : bits .and .i64 (a : Int) (b : Int) = ((a &&& b : Nat) : Int) := by
  have h : ∀ a : Fin 32, ∀ b : Fin 17, bits .and .i64 (a.val : Int) (b.val : Int) = ((a.val &&& b.val : Nat) : Int) := by decide +kernel
  exact h ⟨a, by omega⟩ ⟨b, by omega⟩
theorem or_nat (a b : Nat) (ha : a ≤ 31) (hb : b ≤ 16) : bits .or .i64 (a : Int) (b : Int) = ((a ||| b : Nat) : Int) ∧ a ||| b ≤ 31 := by
  have h : ∀ a : Fin 32, ∀ b : Fin 17, bits .or .i64 (a.val : Int) (b.val : Int) = ((a.val ||| b.val : Nat) : Int) ∧ a.val ||| b.val ≤ 31 := by decide +kernel
  exact h ⟨a, by omega⟩ ⟨b, by omega⟩
theorem rdF_cons {acc : Nat} {l : List (List UInt8)} {k : Nat} {x : List UInt8} (h : l[k]? = some x) : rdF acc (l.drop k) = if wBit x = 0 ∨ acc &&& wBit x ≠ 0 then none else rdF (acc ||| wBit x) (l.drop (k + 1)) := by
  obtain ⟨h1, h2⟩ := List.getElem?_eq_some_iff.1 h
  rw [List.drop_eq_getElem_cons h1, h2]
  rfl

set_option maxRecDepth 20000 in
set_option maxHeartbeats 3200000 in
theorem specReadFlags_any (v : Value) (l : List (List UInt8)) (w : World) (hr : Rd1 sv w v l) (hl : l.length ≤ 1048576) (hx : ∀ x ∈ l, x.length ≤ 1048576) :
    Calls Tryd.prog 16 #[v] w fun e w' => e = .returned (rdV (rdF 0 l)) ∧ Below w.heap.size w w' := by
  obtain ⟨p, c, rfl, hp⟩ := hr.ex
  have HP := Lib.hid hp
  have HX := Lib.hid hx
  have h0 : rdF 0 (l.drop 0) = rdF 0 l := by rw [List.drop_zero]
  generalize rdF 0 l = R at *
  have H0 := Lib.hid h0
  have CW := Lib.hid (fun W => l5Words_any W)
  clear hp hr hx h0
  go_enter Tryd.func16, Tryd.ntmps16
  go_wp2
  go_loopw [4, 5] (fun b i wr => ∃ (k acc : Nat), k ≤ l.length ∧ i = .int .i64 k ∧ b = .int .i64 acc ∧ acc ≤ 31 ∧ rdF acc (l.drop k) = R ∧ Below w.heap.size w wr) (fun _ i _ => l.length - (intOf i).toNat)
  case atStart => exact ⟨0, 0, by omega, rfl, rfl, by omega, H0.out, Below.refl _ _⟩
  case round =>
    obtain ⟨k, acc, hk, rfl, rfl, hacc, hst, hbr⟩ := hrel
    have HS := Lib.hid hst
    have hbr0 := hbr.size
    clear hst H0
    by_cases hlt : k < l.length
    · obtain ⟨b, off, rfl, hb1, hcell⟩ := HP.out.resolve_left (by intro h; subst h; simp at hlt)
      obtain ⟨x, hx⟩ : ∃ x, l[k]? = some x := ⟨_, List.getElem?_eq_getElem hlt⟩
      have hxl := HX.out x (List.mem_of_getElem? hx)
      have hxz : (ByteArray.mk x.toArray).size ≤ maxLen := by unfold maxLen; show x.toArray.size ≤ _; simp; omega
      have hcx : w.cell? ⟨b, off + k, none⟩ = some (sv x) := hcell k x hx
      have HCX := Lib.hid hcx
      have HST := Lib.hid (HS.out ▸ (rdF_cons (acc := acc) hx))
      have CX := Lib.hid (fun W => specUpper_any ⟨x.toArray⟩ W hxz)
      rw [show (ByteArray.mk x.toArray).data.toList = x from rfl] at CX
      clear hcell HP hx hcx hxz
      go_wp2
      go_hide hQ
      go_loopw [6, 7] (fun bt j wi => ∃ (i : Nat), i ≤ 5 ∧ j = .int .i64 i ∧ bt = .int .i64 (wBitTo x i : Nat) ∧ Below w.heap.size w wi) (fun _ j _ => 5 - (intOf j).toNat)
      case atStart => exact ⟨0, by omega, rfl, rfl, hbr⟩
      case round =>
        obtain ⟨i, hi, rfl, rfl, hbi⟩ := hrel
        have hbi0 := hbi.size
        by_cases hlt5 : i < 5
        · have e1 : wr.cell? ⟨b, off + k, none⟩ = some (sv x) := (hbi.cell (p := ⟨b, off + k, none⟩) hb1).trans HCX.out
          have hfl := flAt_len i
          have CF := Lib.hid (fun W => specUpper_any ⟨(flAt i).toArray⟩ W (by unfold maxLen; show (flAt i).toArray.size ≤ _; simp; omega))
          rw [show (ByteArray.mk (flAt i).toArray).data.toList = flAt i from rfl] at CF
          have hstep : wBitTo x (i + 1) = if upper x = upper (flAt i) then 2 ^ i else wBitTo x i := rfl
          have hble := wBitTo_le x i (by omega)
          generalize hbw : wBitTo x i = bw at *
          clear hbw
          cases hup : (upper x == upper (flAt i)) with
          | true =>
            rw [if_pos (beq_iff_eq.1 hup)] at hstep
            have HN := Lib.hid hstep
            clear hstep
            go_wp2_with fail
            refine (CX.out _).mono ?_
            rintro e w2 ⟨rfl, b2⟩
            have hb2 := hbi.trans (b2.mono hbi0)
            go_wp2_with fail
            refine (CW.out _).mono ?_
            rintro e w3 ⟨rfl, hw3⟩
            have q := flAt_cell hw3 i hlt5
            have b3 : Below w2.heap.size w2 w3 := by rw [hw3]; exact (Below.refl _ _).alloc (Nat.le_refl _) _
            have hb3 := hb2.trans (b3.mono hb2.size)
            clear hw3 b2 b3 hb2 e1
            go_wp2_with fail
            refine (CF.out _).mono ?_
            rintro e w4 ⟨rfl, b4⟩
            have hb4 := hb3.trans (b4.mono hb3.size)
            clear b4 hb3 q
            have hz : wBitTo x (i + 1) = 2 ^ i := HN.out
            clear HN hfl
            have h5 : i = 0 ∨ i = 1 ∨ i = 2 ∨ i = 3 ∨ i = 4 := by omega
            rcases h5 with rfl | rfl | rfl | rfl | rfl
            · go_wp2
              go_roundw
              case rel => exact ⟨1, by omega, rfl, by rw [hz]; rfl, hb4⟩
              case measure => simp [intOf]
            · go_wp2
              go_roundw
              case rel => exact ⟨2, by omega, rfl, by rw [hz]; rfl, hb4⟩
              case measure => simp [intOf]
            · go_wp2
              go_roundw
              case rel => exact ⟨3, by omega, rfl, by rw [hz]; rfl, hb4⟩
              case measure => simp [intOf]
            · go_wp2
              go_roundw
              case rel => exact ⟨4, by omega, rfl, by rw [hz]; rfl, hb4⟩
              case measure => simp [intOf]
            · go_wp2
              go_roundw
              case rel => exact ⟨5, by omega, rfl, by rw [hz]; rfl, hb4⟩
              case measure => simp [intOf]
          | false =>
            rw [if_neg (beq_eq_false_iff_ne.1 hup)] at hstep
            have HN := Lib.hid hstep
            clear hstep
            go_wp2_with fail
            refine (CX.out _).mono ?_
            rintro e w2 ⟨rfl, b2⟩
            have hb2 := hbi.trans (b2.mono hbi0)
            go_wp2_with fail
            refine (CW.out _).mono ?_
            rintro e w3 ⟨rfl, hw3⟩
            have q := flAt_cell hw3 i hlt5
            have b3 : Below w2.heap.size w2 w3 := by rw [hw3]; exact (Below.refl _ _).alloc (Nat.le_refl _) _
            have hb3 := hb2.trans (b3.mono hb2.size)
            clear hw3 b2 b3 hb2 e1
            go_wp2_with fail
            refine (CF.out _).mono ?_
            rintro e w4 ⟨rfl, b4⟩
            have hb4 := hb3.trans (b4.mono hb3.size)
            clear b4 hb3 q
            go_wp2
            go_roundw
            case rel => exact ⟨i + 1, by omega, by go_num, by rw [HN.out], hb4⟩
            case measure => simp [intOf]; omega
        · obtain rfl : i = 5 := by omega
          have hble := wBitTo_le x 5 (by omega)
          have hst := HST.out
          unfold wBit at hst
          generalize wBitTo x 5 = bw at *
          clear HST HX
          cases h0 : ((bw : Int) == 0) with
          | true =>
            have HV := Lib.hid (show R = none by rw [hst, if_pos (.inl (by have := beq_iff_eq.1 h0; omega))])
            clear hst HS
            go_wp2
            subst hQ
            go_wp2
            go_ret2
            exact ⟨by rw [HV.out]; rfl, hbi⟩
          | false =>
            have hand := and_nat acc bw hacc hble
            obtain ⟨hor, hor31⟩ := or_nat acc bw hacc hble
            have hne0 : ¬ bw = 0 := fun e => by rw [e] at h0; cases h0
            cases h1 : (((acc &&& bw : Nat) : Int) == 0) with
            | true =>
              have h1n : (((acc &&& bw : Nat) : Int) != 0) = false := by simp only [bne, h1]; rfl
              have HN := Lib.hid (show rdF (acc ||| bw) (l.drop (k + 1)) = R by rw [hst, if_neg (by rintro (e | e); exact hne0 e; exact e (by have := beq_iff_eq.1 h1; omega))])
              clear hst HS hne0
              go_wp2
              subst hQ
              go_wp2
              go_roundw
              case rel => exact ⟨k + 1, acc ||| bw, by omega, by go_num, rfl, hor31, HN.out, hbi⟩
              case measure => simp [intOf]; omega
            | false =>
              have h1n : (((acc &&& bw : Nat) : Int) != 0) = true := by simp only [bne, h1]; rfl
              have HV := Lib.hid (show R = none by rw [hst, if_pos (.inr (fun e => by rw [e] at h1; cases h1))])
              clear hst HS hne0
              go_wp2
              subst hQ
              go_wp2
              go_ret2
              exact ⟨by rw [HV.out]; rfl, hbi⟩
    · obtain rfl : k = l.length := by omega
      have HV := Lib.hid (show R = some acc by rw [← HS.out, List.drop_length]; rfl)
      clear HS
      go_wp2
      go_ret2
      exact ⟨by rw [HV.out]; rfl, hbr⟩

end Go.Proofs.YtjfjadfhcljlbaaDoor
