/-
  Chapter 5, the program: FlagsOk, Changed, OpText, ReadOp; the table of words, FlagsText, ReadFlags.
-/
import Derived.Test.YtjfjadfhcljlbaaDoorFlagC
import Derived.Test.YtjfjadfhcljlbaaDoorTabS
namespace Go.Proofs.YtjfjadfhcljlbaaDoor
open Go.RowKit

theorem implFlagsOk_at (n : Int) (w : World) :
    Calls Tryd.prog 10 #[.int .i64 n] w fun e w' => e = .returned (.bool (flB n)) ∧ w = w' := by
  have hg := Lib.hid (show flB n = (decide (0 ≤ n) && decide (n ≤ 31)) from rfl)
  go_enter Tryd.func10, Tryd.ntmps10
  cases h1 : decide (0 ≤ n) with
  | true =>
    have h1 : 0 ≤ n := of_decide_eq_true h1
    cases h2 : decide (n ≤ 31) with
    | true =>
      have h2 : n ≤ 31 := of_decide_eq_true h2
      go_wp2
      go_ret
      exact ⟨by rw [hg.out]; simp [h1, h2], rfl⟩
    | false =>
      have h2 : ¬ n ≤ 31 := of_decide_eq_false h2
      go_wp2
      go_ret
      exact ⟨by rw [hg.out]; simp; omega, rfl⟩
  | false =>
    have h1 : ¬ 0 ≤ n := of_decide_eq_false h1
    go_wp2
    go_ret
    exact ⟨by rw [hg.out]; simp; omega, rfl⟩

theorem implFlagsOk_any {G : World → Prop} : ImplFlagsOk G := fun n W _ _ => (implFlagsOk_at n W).mono fun _ _ h => ⟨h.1, h.2 ▸ Below.refl _ _⟩

theorem or_zero (n : Int) (h : flB n = true) : bits .or .i64 0 n = n := by
  obtain ⟨m, rfl, hm⟩ := flB_nat h
  have h : ∀ m : Fin 32, bits .or .i64 0 (m.val : Int) = (m.val : Int) := by decide +kernel
  exact h ⟨m, by omega⟩

set_option maxHeartbeats 1600000 in
theorem implChanged_at (op old new : Int) (w : World) :
    Calls Tryd.prog 8 #[.int .i64 op, .int .i64 old, .int .i64 new] w fun e w' => e = .returned (.int .i64 (chg op old new)) ∧ w = w' := by
  have c1 := fun W => implFlagsOk_at old W
  have c2 := fun W => implFlagsOk_at new W
  cases h1 : flB old with
  | false =>
    have HV := Lib.hid (show chg op old new = old by unfold chg; rw [if_neg (by rw [h1]; simp)])
    rw [h1] at c1
    have C1 := Lib.hid c1
    clear c1 c2
    go_enter Tryd.func8, Tryd.ntmps8
    go_wp2_with fail
    refine (C1.out _).mono ?_
    rintro e w1 ⟨rfl, rfl⟩
    go_wp2
    go_ret
    exact ⟨by rw [HV.out]; rfl, rfl⟩
  | true =>
    rw [h1] at c1
    have C1 := Lib.hid c1
    cases h2 : flB new with
    | false =>
      have HV := Lib.hid (show chg op old new = old by unfold chg; rw [if_neg (by rw [h2]; simp)])
      rw [h2] at c2
      have C2 := Lib.hid c2
      clear c1 c2
      go_enter Tryd.func8, Tryd.ntmps8
      go_wp2_with fail
      refine (C1.out _).mono ?_
      rintro e w1 ⟨rfl, rfl⟩
      go_wp2_with fail
      refine (C2.out _).mono ?_
      rintro e w1 ⟨rfl, rfl⟩
      go_wp2
      go_ret
      exact ⟨by rw [HV.out]; rfl, rfl⟩
    | true =>
      have hv : chg op old new = (if op = 1 then bits .or .i64 old new else if op = 2 then bits .andNot .i64 old new else if op = 3 then new else old) := by unfold chg; rw [if_pos ⟨h1, h2⟩]
      rw [h2] at c2
      have C2 := Lib.hid c2
      have HZ := Lib.hid (or_zero new h2)
      have hop : ((op == 3) = false ∧ (op == 1) = true) ∨ ((op == 3) = false ∧ (op == 1) = false ∧ (op == 2) = true) ∨ (op == 3) = true ∨ ((op == 3) = false ∧ (op == 1) = false ∧ (op == 2) = false) := by
        cases (op == 1) <;> cases (op == 2) <;> cases (op == 3) <;> simp
      have HV := Lib.hid hv
      clear c1 c2 hv
      rcases hop with ⟨g3, g1⟩ | ⟨g3, g1, g2⟩ | g3 | ⟨g3, g1, g2⟩
      · have HE := Lib.hid (show chg op old new = bits .or .i64 old new by rw [HV.out, if_pos (beq_iff_eq.1 g1)])
        go_enter Tryd.func8, Tryd.ntmps8
        go_wp2_with fail
        refine (C1.out _).mono ?_
        rintro e w1 ⟨rfl, rfl⟩
        go_wp2_with fail
        refine (C2.out _).mono ?_
        rintro e w1 ⟨rfl, rfl⟩
        go_wp2
        go_ret
        exact ⟨by rw [HE.out]; rfl, rfl⟩
      · have HE := Lib.hid (show chg op old new = bits .andNot .i64 old new by rw [HV.out, if_neg (beq_eq_false_iff_ne.1 g1), if_pos (beq_iff_eq.1 g2)])
        go_enter Tryd.func8, Tryd.ntmps8
        go_wp2_with fail
        refine (C1.out _).mono ?_
        rintro e w1 ⟨rfl, rfl⟩
        go_wp2_with fail
        refine (C2.out _).mono ?_
        rintro e w1 ⟨rfl, rfl⟩
        go_wp2
        go_ret
        exact ⟨by rw [HE.out]; rfl, rfl⟩
      · have he := beq_iff_eq.1 g3
        have HE := Lib.hid (show chg op old new = new by rw [HV.out, if_neg (by omega), if_neg (by omega), if_pos he])
        clear he
        go_enter Tryd.func8, Tryd.ntmps8
        go_wp2_with fail
        refine (C1.out _).mono ?_
        rintro e w1 ⟨rfl, rfl⟩
        go_wp2_with fail
        refine (C2.out _).mono ?_
        rintro e w1 ⟨rfl, rfl⟩
        go_wp2
        go_ret
        exact ⟨by rw [HE.out, HZ.out]; rfl, rfl⟩
      · have HE := Lib.hid (show chg op old new = old by rw [HV.out, if_neg (beq_eq_false_iff_ne.1 g1), if_neg (beq_eq_false_iff_ne.1 g2), if_neg (beq_eq_false_iff_ne.1 g3)])
        go_enter Tryd.func8, Tryd.ntmps8
        go_wp2_with fail
        refine (C1.out _).mono ?_
        rintro e w1 ⟨rfl, rfl⟩
        go_wp2_with fail
        refine (C2.out _).mono ?_
        rintro e w1 ⟨rfl, rfl⟩
        go_wp2
        go_ret
        exact ⟨by rw [HE.out]; rfl, rfl⟩

theorem implChanged_any {G : World → Prop} : ImplChanged G := fun op old new W _ _ _ _ => (implChanged_at op old new W).mono fun _ _ h => ⟨h.1, h.2 ▸ Below.refl _ _⟩

/-! ### the table of words -/

theorem gFw : Tryd.prog.globalNamed "loop.example/g00501/impl.flagWords" = some 0 := by kernel_rfl

theorem gFwType : (Tryd.prog.globals[0]?).map (·.type) = some 41 := by kernel_rfl

theorem gFwUnder : Tryd.prog.underlying 41 = some (.array 5 9) := by kernel_rfl

theorem gFwOne : Tryd.prog.cellsOf 9 = 1 := by kernel_rfl

theorem gFwCells : Tryd.prog.cellsOf 41 = 5 := by kernel_rfl

/-- The words of the flags stand in the world. -/
structure Fw (w : World) : Prop where
  tab : StrsIs Tryd.prog w "loop.example/g00501/impl.flagWords" flW
  lt : 0 < w.heap.size

theorem Fw.of_laid {w : World} (h : StrsIs Tryd.prog w "loop.example/g00501/impl.flagWords" flW) : Fw w :=
  ⟨h, World.block_lt_of_cell? w _ (h.cell gFw 0 (by decide))⟩

theorem Fw.below {w w' : World} (h : Fw w) (hb : Below w.heap.size w w') : Fw w' :=
  ⟨var?_below hb gFw h.lt h.tab, Nat.lt_of_lt_of_le h.lt hb.size⟩

theorem fw_at (k : Nat) (hk : k < 5) (W : World) : (Instr.index 41 (.agg #[sv (flAt 0), sv (flAt 1), sv (flAt 2), sv (flAt 3), sv (flAt 4)]) (.int .i64 (k : Int))).run Tryd.prog W = .ok (sv (flAt k)) W :=
  run_index_strs W gFwUnder Tryd.underlying9 gFwOne (by kernel_rfl) (by omega) (by omega) (by
    have h5 : k = 0 ∨ k = 1 ∨ k = 2 ∨ k = 3 ∨ k = 4 := by omega
    rcases h5 with rfl | rfl | rfl | rfl | rfl <;> rfl)

abbrev fwV : Value := .agg #[sv (flAt 0), sv (flAt 1), sv (flAt 2), sv (flAt 3), sv (flAt 4)]
theorem fw_all : (∀ W, (Instr.index 41 fwV (.int .i64 0)).run Tryd.prog W = .ok (sv (flAt 0)) W) ∧ (∀ W, (Instr.index 41 fwV (.int .i64 1)).run Tryd.prog W = .ok (sv (flAt 1)) W) ∧ (∀ W, (Instr.index 41 fwV (.int .i64 2)).run Tryd.prog W = .ok (sv (flAt 2)) W) ∧ (∀ W, (Instr.index 41 fwV (.int .i64 3)).run Tryd.prog W = .ok (sv (flAt 3)) W) ∧ (∀ W, (Instr.index 41 fwV (.int .i64 4)).run Tryd.prog W = .ok (sv (flAt 4)) W) :=
  ⟨fun W => fw_at 0 (by omega) W, fun W => fw_at 1 (by omega) W, fun W => fw_at 2 (by omega) W, fun W => fw_at 3 (by omega) W, fun W => fw_at 4 (by omega) W⟩

theorem Fw.cells {w : World} (h : Fw w) : w.cell? ⟨0, 0, none⟩ = some (sv (flAt 0)) ∧ w.cell? ⟨0, 1, none⟩ = some (sv (flAt 1)) ∧ w.cell? ⟨0, 2, none⟩ = some (sv (flAt 2)) ∧ w.cell? ⟨0, 3, none⟩ = some (sv (flAt 3)) ∧ w.cell? ⟨0, 4, none⟩ = some (sv (flAt 4)) :=
  ⟨h.tab.cell gFw 0 (by decide), h.tab.cell gFw 1 (by decide), h.tab.cell gFw 2 (by decide), h.tab.cell gFw 3 (by decide), h.tab.cell gFw 4 (by decide)⟩

/-! ### FlagsText -/

theorem and_bits (m : Nat) (hm : m ≤ 31) : (bits .and .i64 (m : Int) 1 != 0) = m.testBit 0 ∧ (bits .and .i64 (m : Int) 2 != 0) = m.testBit 1 ∧ (bits .and .i64 (m : Int) 4 != 0) = m.testBit 2 ∧ (bits .and .i64 (m : Int) 8 != 0) = m.testBit 3 ∧ (bits .and .i64 (m : Int) 16 != 0) = m.testBit 4 := by
  have h : ∀ m : Fin 32, (bits .and .i64 (m.val : Int) 1 != 0) = m.val.testBit 0 ∧ (bits .and .i64 (m.val : Int) 2 != 0) = m.val.testBit 1 ∧ (bits .and .i64 (m.val : Int) 4 != 0) = m.val.testBit 2 ∧ (bits .and .i64 (m.val : Int) 8 != 0) = m.val.testBit 3 ∧ (bits .and .i64 (m.val : Int) 16 != 0) = m.val.testBit 4 := by decide +kernel
  exact h ⟨m, by omega⟩

set_option maxHeartbeats 3200000 in
theorem implFlagsText_at (n : Int) (w : World) (hF : Fw w) :
    Calls Tryd.prog 12 #[.int .i64 n] w fun e w' => e = .returned (sv (flT n)) ∧ Below w.heap.size w w' := by
  have c1 := fun W => implFlagsOk_at n W
  cases hb : flB n with
  | false =>
    rw [hb] at c1
    have C1 := Lib.hid c1
    have HV := Lib.hid (show flT n = [] by unfold flT; rw [hb]; rfl)
    clear c1 hb hF
    go_enter Tryd.func12, Tryd.ntmps12
    go_wp2_with fail
    refine (C1.out _).mono ?_
    rintro e w1 ⟨rfl, rfl⟩
    go_wp2
    go_ret
    exact ⟨by rw [HV.out]; rfl, Below.refl _ _⟩
  | true =>
    rw [hb] at c1
    have C1 := Lib.hid c1
    have hb0 := hb
    obtain ⟨m, rfl, hm⟩ := flB_nat hb
    have HV := Lib.hid (show flT (m : Int) = Lib.join (flTo m 5) [32] by unfold flT; rw [if_pos hb0, Int.toNat_natCast])
    obtain ⟨q0, q1, q2, q3, q4⟩ := hF.cells
    clear c1 hb hb0 hF
    go_enter Tryd.func12, Tryd.ntmps12
    go_wp2_with fail
    refine (C1.out _).mono ?_
    rintro e w1 ⟨rfl, rfl⟩
    go_wp2
    clear q0 q1 q2 q3 q4 C1
    go_loopw [3, 10] (fun v i wr => ∃ (k c : Nat), k ≤ 5 ∧ c = (flTo m k).length ∧ c ≤ k ∧ i = .int .i64 k ∧ wr.ownsRow w.heap.size 9 1 v c ((flTo m k).map sv) ∧ Below w.heap.size w wr) (fun _ i _ => 5 - (intOf i).toNat)
    case atStart => exact ⟨0, 0, by omega, rfl, by omega, rfl, World.ownsRow_nil _ _ _ _, Below.refl _ _⟩
    case round =>
      obtain ⟨k, c, hk, hc, hck, rfl, hown, hbr⟩ := hrel
      have hbr0 := hbr.size
      have HC := Lib.hid hc
      clear hc
      by_cases hlt : k < 5
      · obtain ⟨e0, e1, e2, e3, e4⟩ := and_bits m hm
        obtain ⟨i0, i1, i2, i3, i4⟩ := fw_all
        have h5 : k = 0 ∨ k = 1 ∨ k = 2 ∨ k = 3 ∨ k = 4 := by omega
        cases hbt : m.testBit k with
        | true =>
          obtain ⟨k1, hk1⟩ : ∃ k1, k1 = k + 1 := ⟨_, rfl⟩
          have HT := Lib.hid (hk1 ▸ flTo_yes hbt)
          have HK := Lib.hid hk1
          clear hk1
          rcases h5 with rfl | rfl | rfl | rfl | rfl
          all_goals
            simp only [hbt] at e0 e1 e2 e3 e4
            clear hbt
            go_wp2_with (at_builtin; refine wpList_app1 Tryd.el_string rfl (.tmp 19) (.tmp 21) rfl w wr u3 c _ rfl hown hbr hbr0 #[sv (flAt _)] (.inr rfl) 1 1 rfl rfl (by simp [Value.oneCell']) (by omega) (by omega) (by omega) ?_)
            intro g cap w3 hown3 hb3 _ _ _
            go_wp2
            go_roundw
            case rel => exact ⟨k1, c + 1, by have := HK.out; omega, by rw [HT.out, HC.out]; simp, by have := HK.out; omega, by rw [HK.out]; rfl, by rw [HT.out, List.map_append]; exact hown3, hb3⟩
            case measure => simp [intOf]
        | false =>
          obtain ⟨k1, hk1⟩ : ∃ k1, k1 = k + 1 := ⟨_, rfl⟩
          have HT := Lib.hid (hk1 ▸ flTo_no hbt)
          have HK := Lib.hid hk1
          clear hk1
          rcases h5 with rfl | rfl | rfl | rfl | rfl
          all_goals
            simp only [hbt] at e0 e1 e2 e3 e4
            clear hbt
            go_wp2
            go_roundw
            case rel => exact ⟨k1, c, by have := HK.out; omega, by rw [HT.out, HC.out], by have := HK.out; omega, by rw [HK.out]; rfl, by rw [HT.out]; exact hown, hbr⟩
            case measure => simp [intOf]
      · obtain rfl : k = 5 := by omega
        have CJ := Lib.hid (implJoined_own u3 (flTo m 5) [32] wr hown (by have := flTo_szl m 5; have := flTo_len m 5; omega) (by simp))
        clear hown
        go_wp2_with fail
        refine (CJ.out).mono ?_
        rintro e w2 ⟨rfl, b2⟩
        have hb2 := hbr.trans (b2.mono hbr0)
        go_wp2
        go_ret
        exact ⟨by rw [HV.out]; rfl, hb2⟩

theorem implFlagsText_any : ImplFlagsText Fw := fun n W hF _ => implFlagsText_at n W hF

/-! ### ReadFlags -/

theorem wBitTo_none {x : List UInt8} : ∀ k, (∀ j, j < k → ¬ upper x = upper (flAt j)) → wBitTo x k = 0
  | 0, _ => rfl
  | k + 1, h => by
    unfold wBitTo
    rw [if_neg (h k (by omega))]
    exact wBitTo_none k fun j hj => h j (by omega)
theorem flAt_apart : ∀ i : Fin 5, ∀ j : Fin 5, upper (flAt i.val) = upper (flAt j.val) → i = j := by decide +kernel
theorem wBit_first {x : List UInt8} {k : Nat} (hk : k < 5) (h : upper x = upper (flAt k)) : wBit x = 2 ^ k := by
  have hi : ∀ n, n ≤ 5 → k < n → wBitTo x n = 2 ^ k := by
    intro n
    induction n with
    | zero => intro _ h; omega
    | succ n ih =>
      intro hn hkn
      unfold wBitTo
      by_cases he : upper x = upper (flAt n)
      · have := flAt_apart ⟨k, hk⟩ ⟨n, by omega⟩ (h.symm.trans he)
        have : k = n := congrArg Fin.val this
        rw [if_pos he, this]
      · rw [if_neg he]
        exact ih (by omega) (by
          by_cases hkn' : k = n
          · subst hkn'; exact absurd h he
          · omega)
  exact hi 5 (by omega) hk

set_option maxHeartbeats 3200000 in
theorem flagNamed_any (x : List UInt8) (w : World) (hF : Fw w) (hx : x.length ≤ 1048576) :
    Calls Tryd.prog 24 #[sv x] w fun e w' => e = .returned (.int .i64 (wBit x : Nat)) ∧ Below w.heap.size w w' := by
  have CX := Lib.hid (fun W => implUpper_any ⟨x.toArray⟩ W (by unfold maxLen; show x.toArray.size ≤ _; simp; omega))
  rw [show (ByteArray.mk x.toArray).data.toList = x from rfl] at CX
  have HF := Lib.hid hF
  clear hF
  go_enter Tryd.func24, Tryd.ntmps24
  go_wp2_with fail
  refine (CX.out _).mono ?_
  rintro e w1 ⟨rfl, b1⟩
  obtain ⟨q0, q1, q2, q3, q4⟩ := (HF.out.below b1).cells
  have b1s := b1.size
  go_wp2
  clear q0 q1 q2 q3 q4 CX HF
  go_loopw [8] (fun i wr => ∃ (k : Nat), k ≤ 5 ∧ i = .int .i64 k ∧ (∀ j, j < k → ¬ upper x = upper (flAt j)) ∧ Below w.heap.size w wr) (fun i _ => 5 - (intOf i).toNat)
  case atStart => exact ⟨0, by omega, rfl, fun j h => by omega, b1⟩
  case round =>
    obtain ⟨k, hk, rfl, hno, hbr⟩ := hrel
    have hbr0 := hbr.size
    by_cases hlt : k < 5
    · have CF := Lib.hid (fun W => implUpper_any ⟨(flAt k).toArray⟩ W (by have := flAt_len k; unfold maxLen; show (flAt k).toArray.size ≤ _; simp; omega))
      rw [show (ByteArray.mk (flAt k).toArray).data.toList = flAt k from rfl] at CF
      have h5 : k = 0 ∨ k = 1 ∨ k = 2 ∨ k = 3 ∨ k = 4 := by omega
      obtain ⟨i0, i1, i2, i3, i4⟩ := fw_all
      cases hup : (upper x == upper (flAt k)) with
      | true =>
        have HV := Lib.hid (wBit_first hlt (beq_iff_eq.1 hup))
        clear hno
        rcases h5 with rfl | rfl | rfl | rfl | rfl
        all_goals
          go_wp2_with fail
          refine (CF.out _).mono ?_
          rintro e w2 ⟨rfl, b2⟩
          have hb2 := hbr.trans (b2.mono hbr0)
          go_wp2
          go_ret
          exact ⟨by rw [HV.out]; rfl, hb2⟩
      | false =>
        have HN := Lib.hid (show ∀ j, j < k + 1 → ¬ upper x = upper (flAt j) from fun j hj => by
          by_cases h : j < k
          · exact hno j h
          · obtain rfl : j = k := by omega
            exact beq_eq_false_iff_ne.1 hup)
        obtain ⟨k1, hk1⟩ : ∃ k1, k1 = k + 1 := ⟨_, rfl⟩
        rw [← hk1] at HN
        have HK := Lib.hid hk1
        clear hno hk1
        rcases h5 with rfl | rfl | rfl | rfl | rfl
        all_goals
          go_wp2_with fail
          refine (CF.out _).mono ?_
          rintro e w2 ⟨rfl, b2⟩
          have hb2 := hbr.trans (b2.mono hbr0)
          go_wp2
          go_roundw
          case rel => exact ⟨k1, by have := HK.out; omega, by rw [HK.out]; rfl, HN.out, hb2⟩
          case measure => simp [intOf]
    · obtain rfl : k = 5 := by omega
      have HV := Lib.hid (show wBit x = 0 from wBitTo_none 5 hno)
      clear hno
      go_wp2
      go_ret
      exact ⟨by rw [HV.out]; rfl, hbr⟩

set_option maxRecDepth 20000 in
set_option maxHeartbeats 3200000 in
theorem implReadFlags_at (v : Value) (l : List (List UInt8)) (w : World) (hF : Fw w) (hr : Rd1 sv w v l) (hl : l.length ≤ 1048576) (hx : ∀ x ∈ l, x.length ≤ 1048576) :
    Calls Tryd.prog 13 #[v] w fun e w' => e = .returned (rdV (rdF 0 l)) ∧ Below w.heap.size w w' := by
  obtain ⟨p, c, rfl, hp⟩ := hr.ex
  have HP := Lib.hid hp
  have HX := Lib.hid hx
  have h0 : rdF 0 (l.drop 0) = rdF 0 l := by rw [List.drop_zero]
  generalize rdF 0 l = R at *
  have H0 := Lib.hid h0
  have HF := Lib.hid hF
  clear hp hr hx h0 hF
  go_enter Tryd.func13, Tryd.ntmps13
  go_wp2
  go_loopw [4, 10] (fun b i wr => ∃ (k acc : Nat), k ≤ l.length ∧ i = .int .i64 k ∧ b = .int .i64 acc ∧ acc ≤ 31 ∧ rdF acc (l.drop k) = R ∧ Below w.heap.size w wr) (fun _ i _ => l.length - (intOf i).toNat)
  case atStart => exact ⟨0, 0, by omega, rfl, rfl, by omega, H0.out, Below.refl _ _⟩
  case round =>
    obtain ⟨k, acc, hk, rfl, rfl, hacc, hst, hbr⟩ := hrel
    have HS := Lib.hid hst
    have hbr0 := hbr.size
    clear hst H0
    by_cases hlt : k < l.length
    · obtain ⟨b, off, rfl, hb1, hcell⟩ := HP.out.resolve_left (by intro h; subst h; simp at hlt)
      obtain ⟨x, hx⟩ : ∃ x, l[k]? = some x := ⟨_, List.getElem?_eq_getElem hlt⟩
      have hxl := HX.out x (List.mem_of_getElem? hx)
      have e1 : wr.cell? ⟨b, off + k, none⟩ = some (sv x) := (hbr.cell (p := ⟨b, off + k, none⟩) hb1).trans (hcell k x hx)
      have hst := HS.out ▸ (rdF_cons (acc := acc) hx)
      have CN := Lib.hid (flagNamed_any x wr (HF.out.below hbr) hxl)
      have hble : wBit x ≤ 16 := wBitTo_le x 5 (by omega)
      generalize wBit x = bw at *
      clear hcell HP hx
      cases h0 : ((bw : Int) == 0) with
      | true =>
        have HV := Lib.hid (show R = none by rw [hst, if_pos (.inl (by have := beq_iff_eq.1 h0; omega))])
        clear hst HS
        go_wp2_with fail
        refine (CN.out).mono ?_
        rintro e w2 ⟨rfl, b2⟩
        have hb2 := hbr.trans (b2.mono hbr0)
        go_wp2
        go_ret2
        exact ⟨by rw [HV.out]; rfl, hb2⟩
      | false =>
        have hand := and_nat acc bw hacc hble
        obtain ⟨hor, hor31⟩ := or_nat acc bw hacc hble
        have hne0 : ¬ bw = 0 := fun e => by rw [e] at h0; cases h0
        cases h1 : (((acc &&& bw : Nat) : Int) == 0) with
        | true =>
          have h1n : (((acc &&& bw : Nat) : Int) != 0) = false := by simp only [bne, h1]; rfl
          have HN := Lib.hid (show rdF (acc ||| bw) (l.drop (k + 1)) = R by rw [hst, if_neg (by rintro (e | e); exact hne0 e; exact e (by have := beq_iff_eq.1 h1; omega))])
          clear hst HS hne0
          go_wp2_with fail
          refine (CN.out).mono ?_
          rintro e w2 ⟨rfl, b2⟩
          have hb2 := hbr.trans (b2.mono hbr0)
          go_wp2
          go_roundw
          case rel => exact ⟨k + 1, acc ||| bw, by omega, by go_num, rfl, hor31, HN.out, hb2⟩
          case measure => simp [intOf]; omega
        | false =>
          have h1n : (((acc &&& bw : Nat) : Int) != 0) = true := by simp only [bne, h1]; rfl
          have HV := Lib.hid (show R = none by rw [hst, if_pos (.inr (fun e => by rw [e] at h1; cases h1))])
          clear hst HS hne0
          go_wp2_with fail
          refine (CN.out).mono ?_
          rintro e w2 ⟨rfl, b2⟩
          have hb2 := hbr.trans (b2.mono hbr0)
          go_wp2
          go_ret2
          exact ⟨by rw [HV.out]; rfl, hb2⟩
    · obtain rfl : k = l.length := by omega
      have HV := Lib.hid (show R = some acc by rw [← HS.out, List.drop_length]; rfl)
      clear HS
      go_wp2
      go_ret2
      exact ⟨by rw [HV.out]; rfl, hbr⟩

theorem implReadFlags_any : ImplReadFlags Fw := fun v l W hF hr hl hx => implReadFlags_at v l W hF hr hl hx

end Go.Proofs.YtjfjadfhcljlbaaDoor
