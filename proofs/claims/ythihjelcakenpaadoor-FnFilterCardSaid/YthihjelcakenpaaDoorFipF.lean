/-
  Chapter 6, the program: the words of the events; FilterTokens.
-/
import Derived.Test.YthihjelcakenpaaDoorFipC
import Derived.Test.YthihjelcakenpaaDoorFilP
import Derived.Test.YthihjelcakenpaaDoorFilW
import Derived.Test.YthihjelcakenpaaDoorTabS
import Derived.Test.YthihjelcakenpaaDoorGa
namespace Go.Proofs.YthihjelcakenpaaDoor
open Go.RowKit

theorem gEw : Tryd.prog.globalNamed "loop.example/g00501/impl.eventWords" = some 0 := by kernel_rfl

theorem gEwType : (Tryd.prog.globals[0]?).map (·.type) = some 120 := by kernel_rfl

theorem gEwUnder : Tryd.prog.underlying 120 = some (.array 4 9) := by kernel_rfl

theorem gEwOne : Tryd.prog.cellsOf 9 = 1 := by kernel_rfl

theorem gEwCells : Tryd.prog.cellsOf 120 = 4 := by kernel_rfl

/-- The words of the events stand in the world. -/
structure Ew (w : World) : Prop where
  tab : StrsIs Tryd.prog w "loop.example/g00501/impl.eventWords" evWords
  lt : 0 < w.heap.size

theorem Ew.of_laid {w : World} (h : StrsIs Tryd.prog w "loop.example/g00501/impl.eventWords" evWords) : Ew w :=
  ⟨h, World.block_lt_of_cell? w _ (h.cell gEw 0 (by decide))⟩

theorem Ew.below {w w' : World} (h : Ew w) (hb : Below w.heap.size w w') : Ew w' :=
  ⟨var?_below hb gEw h.lt h.tab, Nat.lt_of_lt_of_le h.lt hb.size⟩

theorem keeps_ew : Keeps Ew := fun _ _ h hb => h.below hb

theorem ew_at (k : Nat) (hk : k < 4) (W : World) : (Instr.index 120 (.agg #[sv (evW 0), sv (evW 1), sv (evW 2), sv (evW 3)]) (.int .i64 (k : Int))).run Tryd.prog W = .ok (sv (evW k)) W :=
  run_index_strs W gEwUnder Tryd.underlying9 gEwOne (by kernel_rfl) (by omega) (by omega) (by
    have h5 : k = 0 ∨ k = 1 ∨ k = 2 ∨ k = 3 := by omega
    rcases h5 with rfl | rfl | rfl | rfl <;> rfl)

abbrev ewV : Value := .agg #[sv (evW 0), sv (evW 1), sv (evW 2), sv (evW 3)]
theorem ew_all : (∀ W, (Instr.index 120 ewV (.int .i64 0)).run Tryd.prog W = .ok (sv (evW 0)) W) ∧ (∀ W, (Instr.index 120 ewV (.int .i64 1)).run Tryd.prog W = .ok (sv (evW 1)) W) ∧ (∀ W, (Instr.index 120 ewV (.int .i64 2)).run Tryd.prog W = .ok (sv (evW 2)) W) ∧ (∀ W, (Instr.index 120 ewV (.int .i64 3)).run Tryd.prog W = .ok (sv (evW 3)) W) :=
  ⟨fun W => ew_at 0 (by omega) W, fun W => ew_at 1 (by omega) W, fun W => ew_at 2 (by omega) W, fun W => ew_at 3 (by omega) W⟩

theorem Ew.cells {w : World} (h : Ew w) : w.cell? ⟨0, 0, none⟩ = some (sv (evW 0)) ∧ w.cell? ⟨0, 1, none⟩ = some (sv (evW 1)) ∧ w.cell? ⟨0, 2, none⟩ = some (sv (evW 2)) ∧ w.cell? ⟨0, 3, none⟩ = some (sv (evW 3)) :=
  ⟨h.tab.cell gEw 0 (by decide), h.tab.cell gEw 1 (by decide), h.tab.cell gEw 2 (by decide), h.tab.cell gEw 3 (by decide)⟩

def evWsTo (ev : Int) (k : Nat) : List (List UInt8) := (List.range k).flatMap fun k => if evB ev k = true then [evW k] else []
theorem evWsTo_four (ev : Int) : evWsTo ev 4 = evWs ev := rfl
theorem evWsTo_yes {ev : Int} {k : Nat} (h : evB ev k = true) : evWsTo ev (k + 1) = evWsTo ev k ++ [evW k] := by
  unfold evWsTo
  rw [List.range_succ, List.flatMap_append]
  simp [h]
theorem evWsTo_no {ev : Int} {k : Nat} (h : evB ev k = false) : evWsTo ev (k + 1) = evWsTo ev k := by
  unfold evWsTo
  rw [List.range_succ, List.flatMap_append]
  simp [h]
theorem evWs_len (ev : Int) : (evWs ev).length ≤ 4 := by
  have := evTks_len ev 4
  rw [evTks_ws, List.length_map] at this
  exact this
theorem ev_bits (m : Nat) (hm : m ≤ 15) : (bits .and .i64 (m : Int) 1 != 0) = evB m 0 ∧ (bits .and .i64 (m : Int) 2 != 0) = evB m 1 ∧ (bits .and .i64 (m : Int) 4 != 0) = evB m 2 ∧ (bits .and .i64 (m : Int) 8 != 0) = evB m 3 := by
  have h : ∀ m : Fin 16, (bits .and .i64 (m.val : Int) 1 != 0) = evB (m.val : Int) 0 ∧ (bits .and .i64 (m.val : Int) 2 != 0) = evB (m.val : Int) 1 ∧ (bits .and .i64 (m.val : Int) 4 != 0) = evB (m.val : Int) 2 ∧ (bits .and .i64 (m.val : Int) 8 != 0) = evB (m.val : Int) 3 := by decide +kernel
  exact h ⟨m, by omega⟩
def grpT (ws : List (List UInt8)) : List Tok := opT3 :: (ws.map atT ++ [clT4])
theorem scTks_eq (s : Scp) : scTks s = [opT3, atT (scWords.getD s.kind.toNat [])] ++ nmTks s ++ grpT (evWs s.events) ++ [clT4] := by
  unfold scTks grpT
  rw [evTks_ws]
  simp
theorem grpT_len (ws : List (List UInt8)) : (grpT ws).length = ws.length + 2 := by simp [grpT]

section
variable {P : Program}
theorem wpList_appR {α : Type} {w : World} {ops : Array Oper} {rest : List Oper} {o : Oper} {a : Act} {t e : TypeId} {size bytes B : Nat} {Q : Exit → Act → World → Prop} {enc : α → List Value} (hgd : o.guard = none) (E : Elem P t e size bytes) (hm : ∀ x, (enc x).length = size) (h1 : ∀ x, ∀ u ∈ enc x, u.oneCell' = true) (s x : Operand) (ho : o.op = .call { callee := .builtin .append, args := #[s, x], argTypes := #[t, t] })
    (W : World) (v : Value) (n : Nat) (xs : List Value) (hs : a.eval s = v) (hown : w.ownsRow B e size v n xs) (hb : Below B W w) (hB : B ≤ w.heap.size)
    (u : Value) (l : List α) (hx : a.eval x = u) (hu : Rd size enc w u l) (hbytes : (n + l.length) * bytes ≤ 140737488355328) (h63 : n + l.length ≤ 140737488355328)
    (h : ∀ v' w', w'.ownsRow B e size v' (n + l.length) (xs ++ l.flatMap enc) → Below B W w' → w.grownBy w' v.ownBlock → wpList P ops Q rest (a.put o.dst v') w') : wpList P ops Q (o :: rest) a w :=
  wpList_plain hgd fun _ hK => wp_appR E hm h1 s x ho W v n xs hs hown hb hB u l hx hu hbytes h63 fun v' w' k1 k2 k3 => hK _ _ (h v' w' k1 k2 k3)
end

section
variable {w w0 W0 : World} {ops : Array Oper} {rest : List Oper} {o : Oper} {a : Act} {c : Nat} {cs : Array Value} {u : Value} {toks : List Tok}
theorem tok_one : ∀ x : Tok, ∀ u ∈ tokc x, u.oneCell' = true := by intro x u hu; simp [tokc] at hu; rcases hu with rfl | rfl <;> rfl
theorem wpList_tksR {Q : Exit → Act → World → Prop} (hgd : o.guard = none) (h : TkB W0 c cs u toks w) (l : List Tok) (s x : Operand) (ho : o.op = .call { callee := .builtin .append, args := #[s, x], argTypes := #[28, 28] })
    (hs : a.eval s = u) (v : Value) (hx : a.eval x = v) (hv : Rd 2 tokc w v l) (hl : toks.length + l.length ≤ 1000000)
    (hK : ∀ u' w', TkB W0 c cs u' (toks ++ l) w' → wpList Tryd.prog ops Q rest (a.put o.dst u') w') : wpList Tryd.prog ops Q (o :: rest) a w := by
  refine wpList_appR hgd Tryd.el_tok (enc := tokc) (fun _ => rfl) tok_one s x ho W0 u toks.length _ hs h.own h.below h.below.size v l hx hv (by omega) (by omega) ?_
  intro v' w' h1 h2 h3
  refine hK _ _ ⟨?_, h2, ?_⟩
  · rw [List.length_append, List.flatMap_append]; exact h1
  · refine (h3.block c h.lt ?_).trans h.blk
    intro e
    obtain ⟨cz, fz, hk⟩ := Lib.ownsRow_kind h.own c e.symm
    rw [h.blk] at hk
    injection hk with hk
    injection hk with _ hk _
    exact absurd hk (by decide)
end

def TksPost (toks : List Tok) (W : World) (e : Ending) (w' : World) : Prop := ∃ v, e = .returned v ∧ w'.ownsRow W.heap.size 52 2 v toks.length (toks.flatMap tokc) ∧ Below W.heap.size W w'
def WdsPost (ws : List (List UInt8)) (W : World) (e : Ending) (w' : World) : Prop := ∃ v, e = .returned v ∧ w'.ownsRow W.heap.size 9 1 v ws.length (ws.map sv) ∧ Below W.heap.size W w'

set_option maxHeartbeats 3200000 in
theorem eventsIn_any (ev : Int) (w : World) (h1 : 1 ≤ ev) (h2 : ev ≤ 15) (hF : Ew w) :
    Calls Tryd.prog 65 #[.int .i64 ev] w (WdsPost (evWs ev) w) := by
  obtain ⟨m, rfl⟩ : ∃ m : Nat, ev = (m : Int) := ⟨ev.toNat, by omega⟩
  obtain ⟨q0, q1, q2, q3⟩ := hF.cells
  have HV := Lib.hid (evWsTo_four (m : Int))
  have hm : m ≤ 15 := by omega
  generalize evWs (m : Int) = R at *
  clear hF h1 h2
  go_enter Tryd.func65, Tryd.ntmps65
  go_wp2
  clear q0 q1 q2 q3
  go_loopw [3, 4, 5, 7] (fun v u4 u5 i wr => ∃ (k c : Nat), k ≤ 4 ∧ c = (evWsTo (m : Int) k).length ∧ c ≤ k ∧ i = .int .i64 k ∧ wr.ownsRow w.heap.size 9 1 v c ((evWsTo (m : Int) k).map sv) ∧ Below w.heap.size w wr) (fun _ u4 u5 i _ => 4 - (intOf i).toNat)
  case atStart => exact ⟨0, 0, by omega, rfl, by omega, rfl, World.ownsRow_nil _ _ _ _, Below.refl _ _⟩
  case round =>
    obtain ⟨k, c, hk, hc, hck, rfl, hown, hbr⟩ := hrel
    have hbr0 := hbr.size
    have HC := Lib.hid hc
    clear hc
    by_cases hlt : k < 4
    · obtain ⟨e0, e1, e2, e3⟩ := ev_bits m hm
      obtain ⟨i0, i1, i2, i3⟩ := ew_all
      have h5 : k = 0 ∨ k = 1 ∨ k = 2 ∨ k = 3 := by omega
      cases hbt : evB (m : Int) k with
      | true =>
        obtain ⟨k1, hk1⟩ : ∃ k1, k1 = k + 1 := ⟨_, rfl⟩
        have HT := Lib.hid (hk1 ▸ evWsTo_yes hbt)
        have HK := Lib.hid hk1
        clear hk1
        rcases h5 with rfl | rfl | rfl | rfl
        all_goals
          simp only [hbt] at e0 e1 e2 e3
          clear hbt
          go_wp2_with (at_builtin; refine wpList_app1 Tryd.el_string rfl (.tmp 16) (.tmp 18) rfl w wr u3 c _ rfl hown hbr hbr0 #[sv (evW _)] (.inr rfl) 1 1 rfl rfl (by simp [Value.oneCell']) (by omega) (by omega) (by omega) ?_)
          intro g cap w3 hown3 hb3 _ _ _
          go_wp2
          go_roundw
          case rel => exact ⟨k1, c + 1, by have := HK.out; omega, by rw [HT.out, HC.out]; simp, by have := HK.out; omega, by rw [HK.out]; rfl, by rw [HT.out, List.map_append]; exact hown3, hb3⟩
          case measure => simp [intOf]
      | false =>
        obtain ⟨k1, hk1⟩ : ∃ k1, k1 = k + 1 := ⟨_, rfl⟩
        have HT := Lib.hid (hk1 ▸ evWsTo_no hbt)
        have HK := Lib.hid hk1
        clear hk1
        rcases h5 with rfl | rfl | rfl | rfl
        all_goals
          simp only [hbt] at e0 e1 e2 e3
          clear hbt
          go_wp2
          go_roundw
          case rel => exact ⟨k1, c, by have := HK.out; omega, by rw [HT.out, HC.out], by have := HK.out; omega, by rw [HK.out]; rfl, by rw [HT.out]; exact hown, hbr⟩
          case measure => simp [intOf]
    · obtain rfl : k = 4 := by omega
      go_wp2
      go_ret
      exact ⟨_, rfl, by rw [← HV.out, ← HC.out]; exact hown, hbr⟩

set_option maxHeartbeats 3200000 in
theorem atomGroup_any (v : Value) (l : List (List UInt8)) (w : World) (hr : Rd1 sv w v l) (hl : l.length ≤ 4) :
    Calls Tryd.prog 64 #[v] w (TksPost (grpT l) w) := by
  obtain ⟨p, c, rfl, hp⟩ := hr.ex
  have HP := Lib.hid hp
  have HT := Lib.hid (show grpT l = (opT3 :: l.map atT) ++ [clT4] from rfl)
  generalize grpT l = R at *
  clear hr hp
  have hb0 : Below w.heap.size w (w.alloc (.cells #[.int .i64 3, sv []] 52)) := (Below.refl _ _).alloc (Nat.le_refl _) _
  have ho0 : (w.alloc (.cells #[.int .i64 3, sv []] 52)).ownsRow w.heap.size 52 2 (.slice (some ⟨w.heap.size, 0, none⟩) 1 1) (opT3 :: (l.take 0).map atT).length ((opT3 :: (l.take 0).map atT).flatMap tokc) := own_lit w #[.int .i64 3, sv []] 1 52 2 _ (Nat.le_refl _) (by unfold maxLen; omega) rfl
  have HO0 := Lib.hid ho0
  clear ho0
  go_enter Tryd.func64, Tryd.ntmps64
  go_wp2
  go_loopg [3, 5, 10] l.length (fun gk u u5 i wr => ∃ k : Nat, k ≤ l.length ∧ gk = l.length - k ∧ i = .int .i64 k ∧ wr.ownsRow w.heap.size 52 2 u (opT3 :: (l.take k).map atT).length ((opT3 :: (l.take k).map atT).flatMap tokc) ∧ Below w.heap.size w wr)
  case atStart => exact ⟨0, by omega, rfl, rfl, HO0.out, hb0⟩
  case round =>
    obtain ⟨k, hk, rfl, rfl, hown, hbr⟩ := hrel
    have hz := hbr.size
    clear hb0 HO0
    have hlen : (opT3 :: (l.take k).map atT).length = k + 1 := by simp; omega
    rw [hlen] at hown
    clear hlen
    by_cases hlt : k < l.length
    · obtain ⟨b, off, rfl, hb, hcell⟩ := HP.out.resolve_left (by intro h; subst h; simp at hlt)
      obtain ⟨y, hy⟩ : ∃ y, l[k]? = some y := ⟨_, List.getElem?_eq_getElem hlt⟩
      have e1 : wr.cell? ⟨b, off + k, none⟩ = some (sv y) := (hbr.cell (p := ⟨b, off + k, none⟩) hb).trans (hcell k y hy)
      have HN := Lib.hid (show (opT3 :: (l.take (k + 1)).map atT).flatMap tokc = (opT3 :: (l.take k).map atT).flatMap tokc ++ [.int .i64 1, sv y] by
        obtain ⟨h3, h2⟩ := List.getElem?_eq_some_iff.1 hy
        rw [List.take_succ_eq_append_getElem h3, h2]
        simp [tokc, atT])
      have HNL := Lib.hid (show (opT3 :: (l.take (k + 1)).map atT).length = k + 2 by simp; omega)
      clear hcell hy
      generalize ((opT3 :: (l.take k).map atT).flatMap tokc) = X at *
      go_wp2_with (at_builtin; refine wpList_app1 Tryd.el_tok rfl (.tmp 14) (.tmp 17) rfl w wr _ (k + 1) _ rfl hown hbr hz #[.int .i64 1, sv y] (.inr rfl) 1 1 rfl rfl (by simp [Value.oneCell']) (by omega) (by omega) (by omega) ?_)
      intro g cap w3 o3 hb3 _ _ _
      go_wp2
      go_roundg (l.length - (k + 1))
      case measure => omega
      case rel => exact ⟨k + 1, by omega, rfl, by go_num, by rw [HN.out, HNL.out]; exact o3, hb3⟩
    · obtain rfl : k = l.length := by omega
      rw [List.take_length] at hown
      have HRL := Lib.hid (show R.length = l.length + 1 + 1 by rw [HT.out]; simp)
      have HRF := Lib.hid (show R.flatMap tokc = (opT3 :: l.map atT).flatMap tokc ++ [.int .i64 4, sv []] by rw [HT.out, List.flatMap_append]; rfl)
      clear HT
      generalize ((opT3 :: l.map atT).flatMap tokc) = X at *
      go_wp2_with (at_builtin; refine wpList_app1 Tryd.el_tok rfl (.tmp 20) (.tmp 22) rfl w wr _ (l.length + 1) _ rfl hown hbr hz #[.int .i64 4, sv []] (.inr rfl) 1 1 rfl rfl (by simp [Value.oneCell']) (by omega) (by omega) (by omega) ?_)
      intro g cap w3 o3 hb3 _ _ _
      go_wp2
      go_ret
      exact ⟨_, rfl, by rw [HRF.out, HRL.out]; exact o3, hb3⟩

theorem keyword_1 (w : World) : Calls Tryd.prog 106 #[.agg #[]] w fun e w' => e = .returned (sv [115, 101, 108, 101, 99, 116, 101, 100]) ∧ Below w.heap.size w w' := by
  go_enter Tryd.func106, Tryd.ntmps106
  go_wp2
  go_ret
  exact ⟨rfl, (Below.refl _ _).alloc (Nat.le_refl _) _⟩
theorem method_1 (v : Value) (w : World) : (method 239 118 v "loop.example/g00501/impl.keyword").run Tryd.prog w = .ok (106, v) w := by kernel_rfl

theorem keyword_2 (w : World) : Calls Tryd.prog 107 #[.agg #[]] w fun e w' => e = .returned (sv [112, 101, 114, 115, 111, 110, 97, 108]) ∧ Below w.heap.size w w' := by
  go_enter Tryd.func107, Tryd.ntmps107
  go_wp2
  go_ret
  exact ⟨rfl, (Below.refl _ _).alloc (Nat.le_refl _) _⟩
theorem method_2 (v : Value) (w : World) : (method 239 119 v "loop.example/g00501/impl.keyword").run Tryd.prog w = .ok (107, v) w := by kernel_rfl

theorem keyword_3 (p : Option Addr) (n c : Nat) (w : World) : Calls Tryd.prog 104 #[.agg #[.slice p n c]] w fun e w' => e = .returned (sv [115, 117, 98, 116, 114, 101, 101]) ∧ Below w.heap.size w w' := by
  go_enter Tryd.func104, Tryd.ntmps104
  go_wp2
  go_ret
  exact ⟨rfl, (Below.refl _ _).alloc (Nat.le_refl _) _⟩
theorem method_3 (v : Value) (w : World) : (method 239 99 v "loop.example/g00501/impl.keyword").run Tryd.prog w = .ok (104, v) w := by kernel_rfl

theorem keyword_4 (p : Option Addr) (n c : Nat) (w : World) : Calls Tryd.prog 105 #[.agg #[.slice p n c]] w fun e w' => e = .returned (sv [98, 111, 120, 101, 115]) ∧ Below w.heap.size w w' := by
  go_enter Tryd.func105, Tryd.ntmps105
  go_wp2
  go_ret
  exact ⟨rfl, (Below.refl _ _).alloc (Nat.le_refl _) _⟩
theorem method_4 (v : Value) (w : World) : (method 239 102 v "loop.example/g00501/impl.keyword").run Tryd.prog w = .ok (105, v) w := by kernel_rfl

set_option maxRecDepth 20000 in
set_option maxHeartbeats 3200000 in
theorem scopeTokens_1 (names : List (List UInt8)) (ev : Int) (vn : Value) (w : World) (hok : scopeB ⟨1, names, ev⟩ = true) (hr : Rd1 sv w vn names) (hF : Ew w) :
    Calls Tryd.prog 30 #[.agg #[.int .i64 1, vn, .int .i64 ev]] w (TksPost (scTks ⟨1, names, ev⟩) w) := by
  have HR := Lib.hid hr
  obtain ⟨p, c, rfl, _⟩ := hr.ex
  have HV := Lib.hid (show scTks ⟨1, names, ev⟩ = [opT3, atT [115, 101, 108, 101, 99, 116, 101, 100]] ++ nmTks ⟨1, names, ev⟩ ++ grpT (evWs ev) ++ [clT4] from scTks_eq ⟨1, names, ev⟩)
  obtain ⟨_, _, hev1, hev15, hn3⟩ := scope_parts hok
  simp only at hev1 hev15 hn3
  have HNM := Lib.hid (show nmTks ⟨1, names, ev⟩ = [] from rfl)
  have hb1 : Below w.heap.size w (w.alloc (.cells #[.int .i64 1, .slice p names.length c, .int .i64 ev] 55)) := (Below.refl _ _).alloc (Nat.le_refl _) _
  have hA : (w.alloc (.cells #[.int .i64 1, .slice p names.length c, .int .i64 ev] 55)).heap[w.heap.size]? = some (.cells #[.int .i64 1, .slice p names.length c, .int .i64 ev] 55 (0, 0)) := heap_alloc_new w _
  have hz1 : (w.alloc (.cells #[.int .i64 1, .slice p names.length c, .int .i64 ev] 55)).heap.size = w.heap.size + 1 := by simp
  obtain ⟨W0, hW0⟩ : ∃ W0, w.alloc (.cells #[.int .i64 1, .slice p names.length c, .int .i64 ev] 55) = W0 := ⟨_, rfl⟩
  have HW0 := Lib.hid hW0
  have HB1 := Lib.hid (hW0 ▸ hb1)
  have HA := Lib.hid (hW0 ▸ hA)
  have HZ1 := Lib.hid (hW0 ▸ hz1)
  have HE := Lib.hid (hF.below HB1.out)
  have C := Lib.hid (fun W => reach_1 (.slice p names.length c) ev W ⟨_, _, _, rfl⟩)
  have CE := Lib.hid (fun W h => eventsIn_any ev W hev1 hev15 h)
  clear hr hok hb1 hA hz1 hW0 hF
  have a1 := as13
  have a2 := as14
  have hm := method_1
  go_enter Tryd.func30, Tryd.ntmps30
  go_wp2_with fail
  rw [HW0.out]
  refine (C.out _).mono ?_
  rintro e w1 ⟨rfl, b1⟩
  go_wp2_with fail
  refine (keyword_1 _).mono ?_
  rintro e w2 ⟨rfl, b2⟩
  have hb2 := b1.trans (b2.mono b1.size)
  have TK0 := Lib.hid (show TkB W0 w.heap.size #[.int .i64 1, .slice p names.length c, .int .i64 ev] (.slice (some ⟨w2.heap.size, 0, none⟩) 2 2) [opT3, atT [115, 101, 108, 101, 99, 116, 101, 100]] (w2.alloc (.cells #[.int .i64 3, sv [], .int .i64 1, sv [115, 101, 108, 101, 99, 116, 101, 100]] 52)) from
    ⟨own_lit w2 #[.int .i64 3, sv [], .int .i64 1, sv [115, 101, 108, 101, 99, 116, 101, 100]] 2 52 2 _ hb2.size (by unfold maxLen; omega) rfl, hb2.alloc hb2.size _, ((hb2.alloc hb2.size _).block w.heap.size (by rw [HZ1.out]; omega)).trans HA.out⟩)
  clear b1 b2 C hm
  have TK4 := Lib.hid (show TkB W0 w.heap.size #[.int .i64 1, .slice p names.length c, .int .i64 ev] (.slice (some ⟨w2.heap.size, 0, none⟩) 2 2) ([opT3, atT [115, 101, 108, 101, 99, 116, 101, 100]] ++ nmTks ⟨1, names, ev⟩) (w2.alloc (.cells #[.int .i64 3, sv [], .int .i64 1, sv [115, 101, 108, 101, 99, 116, 101, 100]] 52)) by rw [HNM.out, List.append_nil]; exact TK0.out)
  have q2 : (w2.alloc (.cells #[.int .i64 3, sv [], .int .i64 1, sv [115, 101, 108, 101, 99, 116, 101, 100]] 52)).cell? ⟨w.heap.size, 2, none⟩ = some (.int .i64 ev) := (Lib.cell_of_heap TK0.out.blk 2).trans rfl
  clear TK0 HNM
  go_wp2_with fail
  generalize (w2.alloc (.cells #[.int .i64 3, sv [], .int .i64 1, sv [115, 101, 108, 101, 99, 116, 101, 100]] 52)) = w4 at *
  generalize (Value.slice (some ⟨w2.heap.size, 0, none⟩) 2 2) = u4 at *
  refine (CE.out _ (HE.out.below TK4.out.below)).mono ?_
  rintro e w5 ⟨v5, rfl, o5, b5⟩
  have TK5 := Lib.hid (TK4.out.call b5)
  have R5 := Lib.hid (show Rd1 sv w5 v5 (evWs ev) from Rd1.of_own (enc := sv) o5)
  clear o5 b5 TK4 q2
  go_wp2_with fail
  refine (atomGroup_any _ _ _ R5.out (evWs_len ev)).mono ?_
  rintro e w6 ⟨v6, rfl, o6, b6⟩
  have TK6 := Lib.hid (TK5.out.call b6)
  have R6 := Lib.hid (Rd.of_own (enc := tokc) (fun _ => rfl) rfl o6)
  have HL6 := Lib.hid (show (nmTks ⟨1, names, ev⟩).length ≤ 5 by unfold nmTks; split <;> simp <;> omega)
  have HL7 := Lib.hid (evWs_len ev)
  clear o6 b6 TK5 R5
  go_wp2_with (at_builtin; refine wpList_tksR rfl TK6.out (grpT (evWs ev)) (.tmp 31) (.tmp 35) rfl rfl _ rfl R6.out (by have := HL6.out; have := HL7.out; rw [grpT_len]; simp; omega) ?_)
  intro u7 w7 TK7'
  have TK7 := Lib.hid TK7'
  clear TK7' TK6 R6
  go_wp2_with (at_builtin; refine wpList_tks rfl TK7.out [clT4] 1 (.tmp 37) (.tmp 39) rfl rfl _ (.inr rfl) rfl rfl rfl (by omega) (by have := HL6.out; have := HL7.out; simp [grpT]; omega) ?_)
  intro u8 w8 TK8
  go_wp2
  go_ret
  have TK9 : TkB W0 w.heap.size #[.int .i64 1, .slice p names.length c, .int .i64 ev] u8 (scTks ⟨1, names, ev⟩) w8 := by rw [HV.out]; simpa using TK8
  exact ⟨_, rfl, own_lower TK9.own (by rw [HZ1.out]; omega), HB1.out.trans (TK8.below.mono (by rw [HZ1.out]; omega))⟩

set_option maxRecDepth 20000 in
set_option maxHeartbeats 3200000 in
theorem scopeTokens_2 (names : List (List UInt8)) (ev : Int) (vn : Value) (w : World) (hok : scopeB ⟨2, names, ev⟩ = true) (hr : Rd1 sv w vn names) (hF : Ew w) :
    Calls Tryd.prog 30 #[.agg #[.int .i64 2, vn, .int .i64 ev]] w (TksPost (scTks ⟨2, names, ev⟩) w) := by
  have HR := Lib.hid hr
  obtain ⟨p, c, rfl, _⟩ := hr.ex
  have HV := Lib.hid (show scTks ⟨2, names, ev⟩ = [opT3, atT [112, 101, 114, 115, 111, 110, 97, 108]] ++ nmTks ⟨2, names, ev⟩ ++ grpT (evWs ev) ++ [clT4] from scTks_eq ⟨2, names, ev⟩)
  obtain ⟨_, _, hev1, hev15, hn3⟩ := scope_parts hok
  simp only at hev1 hev15 hn3
  have HNM := Lib.hid (show nmTks ⟨2, names, ev⟩ = [] from rfl)
  have hb1 : Below w.heap.size w (w.alloc (.cells #[.int .i64 2, .slice p names.length c, .int .i64 ev] 55)) := (Below.refl _ _).alloc (Nat.le_refl _) _
  have hA : (w.alloc (.cells #[.int .i64 2, .slice p names.length c, .int .i64 ev] 55)).heap[w.heap.size]? = some (.cells #[.int .i64 2, .slice p names.length c, .int .i64 ev] 55 (0, 0)) := heap_alloc_new w _
  have hz1 : (w.alloc (.cells #[.int .i64 2, .slice p names.length c, .int .i64 ev] 55)).heap.size = w.heap.size + 1 := by simp
  obtain ⟨W0, hW0⟩ : ∃ W0, w.alloc (.cells #[.int .i64 2, .slice p names.length c, .int .i64 ev] 55) = W0 := ⟨_, rfl⟩
  have HW0 := Lib.hid hW0
  have HB1 := Lib.hid (hW0 ▸ hb1)
  have HA := Lib.hid (hW0 ▸ hA)
  have HZ1 := Lib.hid (hW0 ▸ hz1)
  have HE := Lib.hid (hF.below HB1.out)
  have C := Lib.hid (fun W => reach_2 (.slice p names.length c) ev W ⟨_, _, _, rfl⟩)
  have CE := Lib.hid (fun W h => eventsIn_any ev W hev1 hev15 h)
  clear hr hok hb1 hA hz1 hW0 hF
  have a1 := as23
  have a2 := as24
  have hm := method_2
  go_enter Tryd.func30, Tryd.ntmps30
  go_wp2_with fail
  rw [HW0.out]
  refine (C.out _).mono ?_
  rintro e w1 ⟨rfl, b1⟩
  go_wp2_with fail
  refine (keyword_2 _).mono ?_
  rintro e w2 ⟨rfl, b2⟩
  have hb2 := b1.trans (b2.mono b1.size)
  have TK0 := Lib.hid (show TkB W0 w.heap.size #[.int .i64 2, .slice p names.length c, .int .i64 ev] (.slice (some ⟨w2.heap.size, 0, none⟩) 2 2) [opT3, atT [112, 101, 114, 115, 111, 110, 97, 108]] (w2.alloc (.cells #[.int .i64 3, sv [], .int .i64 1, sv [112, 101, 114, 115, 111, 110, 97, 108]] 52)) from
    ⟨own_lit w2 #[.int .i64 3, sv [], .int .i64 1, sv [112, 101, 114, 115, 111, 110, 97, 108]] 2 52 2 _ hb2.size (by unfold maxLen; omega) rfl, hb2.alloc hb2.size _, ((hb2.alloc hb2.size _).block w.heap.size (by rw [HZ1.out]; omega)).trans HA.out⟩)
  clear b1 b2 C hm
  have TK4 := Lib.hid (show TkB W0 w.heap.size #[.int .i64 2, .slice p names.length c, .int .i64 ev] (.slice (some ⟨w2.heap.size, 0, none⟩) 2 2) ([opT3, atT [112, 101, 114, 115, 111, 110, 97, 108]] ++ nmTks ⟨2, names, ev⟩) (w2.alloc (.cells #[.int .i64 3, sv [], .int .i64 1, sv [112, 101, 114, 115, 111, 110, 97, 108]] 52)) by rw [HNM.out, List.append_nil]; exact TK0.out)
  have q2 : (w2.alloc (.cells #[.int .i64 3, sv [], .int .i64 1, sv [112, 101, 114, 115, 111, 110, 97, 108]] 52)).cell? ⟨w.heap.size, 2, none⟩ = some (.int .i64 ev) := (Lib.cell_of_heap TK0.out.blk 2).trans rfl
  clear TK0 HNM
  go_wp2_with fail
  generalize (w2.alloc (.cells #[.int .i64 3, sv [], .int .i64 1, sv [112, 101, 114, 115, 111, 110, 97, 108]] 52)) = w4 at *
  generalize (Value.slice (some ⟨w2.heap.size, 0, none⟩) 2 2) = u4 at *
  refine (CE.out _ (HE.out.below TK4.out.below)).mono ?_
  rintro e w5 ⟨v5, rfl, o5, b5⟩
  have TK5 := Lib.hid (TK4.out.call b5)
  have R5 := Lib.hid (show Rd1 sv w5 v5 (evWs ev) from Rd1.of_own (enc := sv) o5)
  clear o5 b5 TK4 q2
  go_wp2_with fail
  refine (atomGroup_any _ _ _ R5.out (evWs_len ev)).mono ?_
  rintro e w6 ⟨v6, rfl, o6, b6⟩
  have TK6 := Lib.hid (TK5.out.call b6)
  have R6 := Lib.hid (Rd.of_own (enc := tokc) (fun _ => rfl) rfl o6)
  have HL6 := Lib.hid (show (nmTks ⟨2, names, ev⟩).length ≤ 5 by unfold nmTks; split <;> simp <;> omega)
  have HL7 := Lib.hid (evWs_len ev)
  clear o6 b6 TK5 R5
  go_wp2_with (at_builtin; refine wpList_tksR rfl TK6.out (grpT (evWs ev)) (.tmp 31) (.tmp 35) rfl rfl _ rfl R6.out (by have := HL6.out; have := HL7.out; rw [grpT_len]; simp; omega) ?_)
  intro u7 w7 TK7'
  have TK7 := Lib.hid TK7'
  clear TK7' TK6 R6
  go_wp2_with (at_builtin; refine wpList_tks rfl TK7.out [clT4] 1 (.tmp 37) (.tmp 39) rfl rfl _ (.inr rfl) rfl rfl rfl (by omega) (by have := HL6.out; have := HL7.out; simp [grpT]; omega) ?_)
  intro u8 w8 TK8
  go_wp2
  go_ret
  have TK9 : TkB W0 w.heap.size #[.int .i64 2, .slice p names.length c, .int .i64 ev] u8 (scTks ⟨2, names, ev⟩) w8 := by rw [HV.out]; simpa using TK8
  exact ⟨_, rfl, own_lower TK9.own (by rw [HZ1.out]; omega), HB1.out.trans (TK8.below.mono (by rw [HZ1.out]; omega))⟩

set_option maxRecDepth 20000 in
set_option maxHeartbeats 3200000 in
theorem scopeTokens_3 (names : List (List UInt8)) (ev : Int) (vn : Value) (w : World) (hok : scopeB ⟨3, names, ev⟩ = true) (hr : Rd1 sv w vn names) (hF : Ew w) :
    Calls Tryd.prog 30 #[.agg #[.int .i64 3, vn, .int .i64 ev]] w (TksPost (scTks ⟨3, names, ev⟩) w) := by
  have HR := Lib.hid hr
  obtain ⟨p, c, rfl, _⟩ := hr.ex
  have HV := Lib.hid (show scTks ⟨3, names, ev⟩ = [opT3, atT [115, 117, 98, 116, 114, 101, 101]] ++ nmTks ⟨3, names, ev⟩ ++ grpT (evWs ev) ++ [clT4] from scTks_eq ⟨3, names, ev⟩)
  obtain ⟨_, _, hev1, hev15, hn3⟩ := scope_parts hok
  simp only at hev1 hev15 hn3
  have HNM := Lib.hid (show nmTks ⟨3, names, ev⟩ = grpT names from rfl)
  have hb1 : Below w.heap.size w (w.alloc (.cells #[.int .i64 3, .slice p names.length c, .int .i64 ev] 55)) := (Below.refl _ _).alloc (Nat.le_refl _) _
  have hA : (w.alloc (.cells #[.int .i64 3, .slice p names.length c, .int .i64 ev] 55)).heap[w.heap.size]? = some (.cells #[.int .i64 3, .slice p names.length c, .int .i64 ev] 55 (0, 0)) := heap_alloc_new w _
  have hz1 : (w.alloc (.cells #[.int .i64 3, .slice p names.length c, .int .i64 ev] 55)).heap.size = w.heap.size + 1 := by simp
  obtain ⟨W0, hW0⟩ : ∃ W0, w.alloc (.cells #[.int .i64 3, .slice p names.length c, .int .i64 ev] 55) = W0 := ⟨_, rfl⟩
  have HW0 := Lib.hid hW0
  have HB1 := Lib.hid (hW0 ▸ hb1)
  have HA := Lib.hid (hW0 ▸ hA)
  have HZ1 := Lib.hid (hW0 ▸ hz1)
  have HE := Lib.hid (hF.below HB1.out)
  have C := Lib.hid (fun W => reach_3 (.slice p names.length c) ev W ⟨_, _, _, rfl⟩)
  have CE := Lib.hid (fun W h => eventsIn_any ev W hev1 hev15 h)
  clear hr hok hb1 hA hz1 hW0 hF
  have a1 := as33
  have hm := method_3
  go_enter Tryd.func30, Tryd.ntmps30
  go_wp2_with fail
  rw [HW0.out]
  refine (C.out _).mono ?_
  rintro e w1 ⟨rfl, b1⟩
  go_wp2_with fail
  refine (keyword_3 p names.length c _).mono ?_
  rintro e w2 ⟨rfl, b2⟩
  have hb2 := b1.trans (b2.mono b1.size)
  have TK0 := Lib.hid (show TkB W0 w.heap.size #[.int .i64 3, .slice p names.length c, .int .i64 ev] (.slice (some ⟨w2.heap.size, 0, none⟩) 2 2) [opT3, atT [115, 117, 98, 116, 114, 101, 101]] (w2.alloc (.cells #[.int .i64 3, sv [], .int .i64 1, sv [115, 117, 98, 116, 114, 101, 101]] 52)) from
    ⟨own_lit w2 #[.int .i64 3, sv [], .int .i64 1, sv [115, 117, 98, 116, 114, 101, 101]] 2 52 2 _ hb2.size (by unfold maxLen; omega) rfl, hb2.alloc hb2.size _, ((hb2.alloc hb2.size _).block w.heap.size (by rw [HZ1.out]; omega)).trans HA.out⟩)
  clear b1 b2 C hm
  have hba := TK0.out.call ((Below.refl _ _).alloc (Nat.le_refl _) (.cells #[.slice p names.length c] 99))
  have TKa := Lib.hid hba
  clear hba
  go_wp2_with fail
  refine (atomGroup_any _ _ _ (HR.out.below (HB1.out.trans (TKa.out.below.mono (by rw [HZ1.out]; omega)))) (by omega)).mono ?_
  rintro e w3 ⟨v3, rfl, o3, b3⟩
  have TKb := Lib.hid (TKa.out.call b3)
  have R3 := Lib.hid (Rd.of_own (enc := tokc) (fun _ => rfl) rfl o3)
  clear o3 b3 TKa TK0
  go_wp2_with (at_builtin; refine wpList_tksR rfl TKb.out (grpT names) (.tmp 18) (.tmp 21) rfl rfl _ rfl R3.out (by rw [grpT_len]; simp; omega) ?_)
  intro u4 w4 TK4'
  have TK4 := Lib.hid (show TkB W0 w.heap.size #[.int .i64 3, .slice p names.length c, .int .i64 ev] u4 ([opT3, atT [115, 117, 98, 116, 114, 101, 101]] ++ nmTks ⟨3, names, ev⟩) w4 by rw [HNM.out]; exact TK4')
  have q2 : w4.cell? ⟨w.heap.size, 2, none⟩ = some (.int .i64 ev) := (Lib.cell_of_heap TK4'.blk 2).trans rfl
  clear TK4' TKb R3 HNM
  go_wp2_with fail
  refine (CE.out _ (HE.out.below TK4.out.below)).mono ?_
  rintro e w5 ⟨v5, rfl, o5, b5⟩
  have TK5 := Lib.hid (TK4.out.call b5)
  have R5 := Lib.hid (show Rd1 sv w5 v5 (evWs ev) from Rd1.of_own (enc := sv) o5)
  clear o5 b5 TK4 q2
  go_wp2_with fail
  refine (atomGroup_any _ _ _ R5.out (evWs_len ev)).mono ?_
  rintro e w6 ⟨v6, rfl, o6, b6⟩
  have TK6 := Lib.hid (TK5.out.call b6)
  have R6 := Lib.hid (Rd.of_own (enc := tokc) (fun _ => rfl) rfl o6)
  have HL6 := Lib.hid (show (nmTks ⟨3, names, ev⟩).length ≤ 5 by unfold nmTks; split <;> simp <;> omega)
  have HL7 := Lib.hid (evWs_len ev)
  clear o6 b6 TK5 R5
  go_wp2_with (at_builtin; refine wpList_tksR rfl TK6.out (grpT (evWs ev)) (.tmp 31) (.tmp 35) rfl rfl _ rfl R6.out (by have := HL6.out; have := HL7.out; rw [grpT_len]; simp; omega) ?_)
  intro u7 w7 TK7'
  have TK7 := Lib.hid TK7'
  clear TK7' TK6 R6
  go_wp2_with (at_builtin; refine wpList_tks rfl TK7.out [clT4] 1 (.tmp 37) (.tmp 39) rfl rfl _ (.inr rfl) rfl rfl rfl (by omega) (by have := HL6.out; have := HL7.out; simp [grpT]; omega) ?_)
  intro u8 w8 TK8
  go_wp2
  go_ret
  have TK9 : TkB W0 w.heap.size #[.int .i64 3, .slice p names.length c, .int .i64 ev] u8 (scTks ⟨3, names, ev⟩) w8 := by rw [HV.out]; simpa using TK8
  exact ⟨_, rfl, own_lower TK9.own (by rw [HZ1.out]; omega), HB1.out.trans (TK8.below.mono (by rw [HZ1.out]; omega))⟩

set_option maxRecDepth 20000 in
set_option maxHeartbeats 3200000 in
theorem scopeTokens_4 (names : List (List UInt8)) (ev : Int) (vn : Value) (w : World) (hok : scopeB ⟨4, names, ev⟩ = true) (hr : Rd1 sv w vn names) (hF : Ew w) :
    Calls Tryd.prog 30 #[.agg #[.int .i64 4, vn, .int .i64 ev]] w (TksPost (scTks ⟨4, names, ev⟩) w) := by
  have HR := Lib.hid hr
  obtain ⟨p, c, rfl, _⟩ := hr.ex
  have HV := Lib.hid (show scTks ⟨4, names, ev⟩ = [opT3, atT [98, 111, 120, 101, 115]] ++ nmTks ⟨4, names, ev⟩ ++ grpT (evWs ev) ++ [clT4] from scTks_eq ⟨4, names, ev⟩)
  obtain ⟨_, _, hev1, hev15, hn3⟩ := scope_parts hok
  simp only at hev1 hev15 hn3
  have HNM := Lib.hid (show nmTks ⟨4, names, ev⟩ = grpT names from rfl)
  have hb1 : Below w.heap.size w (w.alloc (.cells #[.int .i64 4, .slice p names.length c, .int .i64 ev] 55)) := (Below.refl _ _).alloc (Nat.le_refl _) _
  have hA : (w.alloc (.cells #[.int .i64 4, .slice p names.length c, .int .i64 ev] 55)).heap[w.heap.size]? = some (.cells #[.int .i64 4, .slice p names.length c, .int .i64 ev] 55 (0, 0)) := heap_alloc_new w _
  have hz1 : (w.alloc (.cells #[.int .i64 4, .slice p names.length c, .int .i64 ev] 55)).heap.size = w.heap.size + 1 := by simp
  obtain ⟨W0, hW0⟩ : ∃ W0, w.alloc (.cells #[.int .i64 4, .slice p names.length c, .int .i64 ev] 55) = W0 := ⟨_, rfl⟩
  have HW0 := Lib.hid hW0
  have HB1 := Lib.hid (hW0 ▸ hb1)
  have HA := Lib.hid (hW0 ▸ hA)
  have HZ1 := Lib.hid (hW0 ▸ hz1)
  have HE := Lib.hid (hF.below HB1.out)
  have C := Lib.hid (fun W => reach_4 (.slice p names.length c) ev W ⟨_, _, _, rfl⟩)
  have CE := Lib.hid (fun W h => eventsIn_any ev W hev1 hev15 h)
  clear hr hok hb1 hA hz1 hW0 hF
  have a1 := as43
  have a2 := as44
  have hm := method_4
  go_enter Tryd.func30, Tryd.ntmps30
  go_wp2_with fail
  rw [HW0.out]
  refine (C.out _).mono ?_
  rintro e w1 ⟨rfl, b1⟩
  go_wp2_with fail
  refine (keyword_4 p names.length c _).mono ?_
  rintro e w2 ⟨rfl, b2⟩
  have hb2 := b1.trans (b2.mono b1.size)
  have TK0 := Lib.hid (show TkB W0 w.heap.size #[.int .i64 4, .slice p names.length c, .int .i64 ev] (.slice (some ⟨w2.heap.size, 0, none⟩) 2 2) [opT3, atT [98, 111, 120, 101, 115]] (w2.alloc (.cells #[.int .i64 3, sv [], .int .i64 1, sv [98, 111, 120, 101, 115]] 52)) from
    ⟨own_lit w2 #[.int .i64 3, sv [], .int .i64 1, sv [98, 111, 120, 101, 115]] 2 52 2 _ hb2.size (by unfold maxLen; omega) rfl, hb2.alloc hb2.size _, ((hb2.alloc hb2.size _).block w.heap.size (by rw [HZ1.out]; omega)).trans HA.out⟩)
  clear b1 b2 C hm
  have hba := TK0.out.call ((Below.refl _ _).alloc (Nat.le_refl _) (.cells #[.slice p names.length c] 102))
  have TKa := Lib.hid hba
  clear hba
  go_wp2_with fail
  refine (atomGroup_any _ _ _ (HR.out.below (HB1.out.trans (TKa.out.below.mono (by rw [HZ1.out]; omega)))) (by omega)).mono ?_
  rintro e w3 ⟨v3, rfl, o3, b3⟩
  have TKb := Lib.hid (TKa.out.call b3)
  have R3 := Lib.hid (Rd.of_own (enc := tokc) (fun _ => rfl) rfl o3)
  clear o3 b3 TKa TK0
  go_wp2_with (at_builtin; refine wpList_tksR rfl TKb.out (grpT names) (.tmp 26) (.tmp 29) rfl rfl _ rfl R3.out (by rw [grpT_len]; simp; omega) ?_)
  intro u4 w4 TK4'
  have TK4 := Lib.hid (show TkB W0 w.heap.size #[.int .i64 4, .slice p names.length c, .int .i64 ev] u4 ([opT3, atT [98, 111, 120, 101, 115]] ++ nmTks ⟨4, names, ev⟩) w4 by rw [HNM.out]; exact TK4')
  have q2 : w4.cell? ⟨w.heap.size, 2, none⟩ = some (.int .i64 ev) := (Lib.cell_of_heap TK4'.blk 2).trans rfl
  clear TK4' TKb R3 HNM
  go_wp2_with fail
  refine (CE.out _ (HE.out.below TK4.out.below)).mono ?_
  rintro e w5 ⟨v5, rfl, o5, b5⟩
  have TK5 := Lib.hid (TK4.out.call b5)
  have R5 := Lib.hid (show Rd1 sv w5 v5 (evWs ev) from Rd1.of_own (enc := sv) o5)
  clear o5 b5 TK4 q2
  go_wp2_with fail
  refine (atomGroup_any _ _ _ R5.out (evWs_len ev)).mono ?_
  rintro e w6 ⟨v6, rfl, o6, b6⟩
  have TK6 := Lib.hid (TK5.out.call b6)
  have R6 := Lib.hid (Rd.of_own (enc := tokc) (fun _ => rfl) rfl o6)
  have HL6 := Lib.hid (show (nmTks ⟨4, names, ev⟩).length ≤ 5 by unfold nmTks; split <;> simp <;> omega)
  have HL7 := Lib.hid (evWs_len ev)
  clear o6 b6 TK5 R5
  go_wp2_with (at_builtin; refine wpList_tksR rfl TK6.out (grpT (evWs ev)) (.tmp 31) (.tmp 35) rfl rfl _ rfl R6.out (by have := HL6.out; have := HL7.out; rw [grpT_len]; simp; omega) ?_)
  intro u7 w7 TK7'
  have TK7 := Lib.hid TK7'
  clear TK7' TK6 R6
  go_wp2_with (at_builtin; refine wpList_tks rfl TK7.out [clT4] 1 (.tmp 37) (.tmp 39) rfl rfl _ (.inr rfl) rfl rfl rfl (by omega) (by have := HL6.out; have := HL7.out; simp [grpT]; omega) ?_)
  intro u8 w8 TK8
  go_wp2
  go_ret
  have TK9 : TkB W0 w.heap.size #[.int .i64 4, .slice p names.length c, .int .i64 ev] u8 (scTks ⟨4, names, ev⟩) w8 := by rw [HV.out]; simpa using TK8
  exact ⟨_, rfl, own_lower TK9.own (by rw [HZ1.out]; omega), HB1.out.trans (TK8.below.mono (by rw [HZ1.out]; omega))⟩

theorem scopeTokens_any (s : Scp) (vn : Value) (w : World) (hok : scopeB s = true) (hr : Rd1 sv w vn s.names) (hF : Ew w) :
    Calls Tryd.prog 30 #[.agg #[.int .i64 s.kind, vn, .int .i64 s.events]] w (TksPost (scTks s) w) := by
  obtain ⟨kd, names, ev⟩ := s
  obtain ⟨h1, h4, _, _, _⟩ := scope_parts hok
  simp only at h1 h4 hr
  have h : kd = 1 ∨ kd = 2 ∨ kd = 3 ∨ kd = 4 := by omega
  rcases h with rfl | rfl | rfl | rfl
  · exact scopeTokens_1 names ev vn w hok hr hF
  · exact scopeTokens_2 names ev vn w hok hr hF
  · exact scopeTokens_3 names ev vn w hok hr hF
  · exact scopeTokens_4 names ev vn w hok hr hF

set_option maxRecDepth 20000 in
set_option maxHeartbeats 6400000 in
theorem implFilterTokens_any : ImplFilterTokens Ew := by
  intro f vs w hF hr hl hx hi
  obtain ⟨on, l⟩ := f
  simp only at *
  obtain ⟨p, c, rfl, _⟩ := scps_at hr
  have HR := Lib.hid hr
  have hb1 : Below w.heap.size w (w.alloc (.cells #[.bool on, .slice p l.length c] 26)) := (Below.refl _ _).alloc (Nat.le_refl _) _
  have hA : (w.alloc (.cells #[.bool on, .slice p l.length c] 26)).heap[w.heap.size]? = some (.cells #[.bool on, .slice p l.length c] 26 (0, 0)) := heap_alloc_new w _
  have hz1 : (w.alloc (.cells #[.bool on, .slice p l.length c] 26)).heap.size = w.heap.size + 1 := by simp
  have CO := Lib.hid (fun W h => implFilterOk_any ⟨on, l⟩ (.slice p l.length c) W trivial h hl hx hi)
  have HA := Lib.hid hA
  have HZ1 := Lib.hid hz1
  have HF := Lib.hid hF
  clear hr hx hA hz1 hF hi
  cases hok : filterB ⟨on, l⟩ with
  | false =>
    have HV := Lib.hid (show fTks ⟨on, l⟩ = [] by unfold fTks; rw [hok]; rfl)
    rw [hok] at CO
    clear hok
    go_enter Tryd.func8, Tryd.ntmps8
    go_wp2_with fail
    refine (CO.out _ (LfRd.below hb1 _ _ HR.out)).mono ?_
    rintro e w1 ⟨rfl, b1⟩
    have hb2 := hb1.trans (b1.mono hb1.size)
    go_wp2
    go_ret
    exact ⟨_, rfl, by rw [HV.out]; exact World.ownsRow_nil _ _ _ _, hb2⟩
  | true =>
    have HFT := Lib.hid (show fTks ⟨on, l⟩ = if on = true then atT [115, 101, 116] :: l.flatMap scTks else [atT [110, 111, 110, 101]] by unfold fTks; rw [hok]; rfl)
    obtain ⟨hf1, hf2⟩ := filter_parts hok
    have HF1 := Lib.hid hf1
    rw [hok] at CO
    clear hok hf1
    simp only at hf2
    cases on with
    | false =>
      go_enter Tryd.func8, Tryd.ntmps8
      go_wp2_with fail
      refine (CO.out _ (LfRd.below hb1 _ _ HR.out)).mono ?_
      rintro e w1 ⟨rfl, b1⟩
      have hb2 := hb1.trans (b1.mono hb1.size)
      have q0 : w1.cell? ⟨w.heap.size, 0, none⟩ = some (.bool false) := (Lib.cell_of_heap ((b1.block w.heap.size (by rw [HZ1.out]; omega)).trans HA.out) 0).trans rfl
      clear b1 hb1 CO
      go_wp2
      go_ret
      exact ⟨_, rfl, by rw [HFT.out]; exact own_lit w1 #[.int .i64 1, sv [110, 111, 110, 101]] 1 52 2 _ hb2.size (by unfold maxLen; omega) rfl, hb2.alloc hb2.size _⟩
    | true =>
      go_enter Tryd.func8, Tryd.ntmps8
      go_wp2_with fail
      refine (CO.out _ (LfRd.below hb1 _ _ HR.out)).mono ?_
      rintro e w1 ⟨rfl, b1⟩
      have hb2 := hb1.trans (b1.mono hb1.size)
      have hblk := (b1.block w.heap.size (by rw [HZ1.out]; omega)).trans HA.out
      have q0 : w1.cell? ⟨w.heap.size, 0, none⟩ = some (.bool true) := (Lib.cell_of_heap hblk 0).trans rfl
      have q1 : ∀ o : Obj, (w1.alloc o).cell? ⟨w.heap.size, 1, none⟩ = some (.slice p l.length c) := fun o => (Lib.cell_of_heap ((((Below.refl w1.heap.size w1).alloc (Nat.le_refl _) o).block w.heap.size (Array.getElem?_eq_some_iff.1 hblk).1).trans hblk) 1).trans rfl
      have hb3 := hb2.alloc hb2.size (.cells #[.int .i64 1, sv [115, 101, 116]] 52)
      have HO3 := Lib.hid (show (w1.alloc (.cells #[.int .i64 1, sv [115, 101, 116]] 52)).ownsRow w.heap.size 52 2 (.slice (some ⟨w1.heap.size, 0, none⟩) 1 1) (atT [115, 101, 116] :: (l.take 0).flatMap scTks).length ((atT [115, 101, 116] :: (l.take 0).flatMap scTks).flatMap tokc) from own_lit w1 #[.int .i64 1, sv [115, 101, 116]] 1 52 2 _ hb2.size (by unfold maxLen; omega) rfl)
      clear b1 hb1 CO hblk
      go_wp2
      clear q0 q1
      go_loopg [3, 5, 19] l.length (fun gk u u5 i wr => ∃ k : Nat, k ≤ l.length ∧ gk = l.length - k ∧ i = .int .i64 k ∧ wr.ownsRow w.heap.size 52 2 u (atT [115, 101, 116] :: (l.take k).flatMap scTks).length ((atT [115, 101, 116] :: (l.take k).flatMap scTks).flatMap tokc) ∧ Below w.heap.size w wr)
      case atStart => exact ⟨0, Nat.zero_le _, rfl, rfl, HO3.out, hb3⟩
      case round =>
        obtain ⟨k, hk, rfl, rfl, hown, hbr⟩ := hrel
        have hz := hbr.size
        clear hb3 HO3 hb2
        by_cases hlt : k < l.length
        · obtain ⟨p', c', hv, hp⟩ := scps_at HR.out
          injection hv with e1 _ e2
          subst e1 e2
          obtain ⟨b, off, rfl, hb, hcell⟩ := hp.resolve_left (by intro h; subst h; simp at hlt)
          obtain ⟨s, hs⟩ : ∃ s, l[k]? = some s := ⟨_, List.getElem?_eq_getElem hlt⟩
          obtain ⟨vn, n1, x0, x1, x2⟩ := hcell k s hs
          have hsok := HF1.out s (List.mem_of_getElem? hs)
          obtain ⟨pn, cn, rfl, _⟩ := n1.ex
          have e0 : wr.cell? ⟨b, off + k * 3, none⟩ = some (.int .i64 s.kind) := (hbr.cell (p := ⟨b, off + k * 3, none⟩) hb).trans x0
          have e1 : wr.cell? ⟨b, off + k * 3 + 1, none⟩ = some (.slice pn s.names.length cn) := (hbr.cell (p := ⟨b, off + k * 3 + 1, none⟩) hb).trans x1
          have e2 : wr.cell? ⟨b, off + k * 3 + 2, none⟩ = some (.int .i64 s.events) := (hbr.cell (p := ⟨b, off + k * 3 + 2, none⟩) hb).trans x2
          have HT := Lib.hid (show (l.take (k + 1)).flatMap scTks = (l.take k).flatMap scTks ++ scTks s by rw [take_sc hs]; simp)
          have HTL := Lib.hid (scTks_take HF1.out k)
          have HSL := Lib.hid (scTks_len hsok)
          have C := Lib.hid (fun W h => scopeTokens_any s (.slice pn s.names.length cn) W hsok (n1.below h) (HF.out.below h))
          have hba := hbr.alloc hz (.cells #[.int .i64 s.kind, .slice pn s.names.length cn, .int .i64 s.events] 55)
          have HOA := Lib.hid (hown.alloc (.cells #[.int .i64 s.kind, .slice pn s.names.length cn, .int .i64 s.events] 55))
          have HBA := Lib.hid hba
          clear hcell hs n1 x0 x1 x2 hp hsok hown hba
          go_wp2_with fail
          refine (C.out _ HBA.out).mono ?_
          rintro e w3 ⟨v3, rfl, o3, b3⟩
          have ho4 := ownsRow_below HOA.out b3
          have hb4 := HBA.out.trans (b3.mono HBA.out.size)
          have R3 := Lib.hid (Rd.of_own (enc := tokc) (fun _ => rfl) rfl o3)
          have hz4 := hb4.size
          clear o3 b3 HOA HBA C e0 e1 e2 hbr
          have HTZ := Lib.hid (show (atT [115, 101, 116] :: (l.take k).flatMap scTks).length ≤ 50 by have := HTL.out; simp only [List.length_cons]; omega)
          have HTT := Lib.hid (show atT [115, 101, 116] :: (l.take (k + 1)).flatMap scTks = (atT [115, 101, 116] :: (l.take k).flatMap scTks) ++ scTks s by rw [HT.out]; rfl)
          clear HT HTL
          generalize (atT [115, 101, 116] :: (l.take k).flatMap scTks) = T0 at *
          go_wp2_with (at_builtin; refine wpList_appR rfl Tryd.el_tok (enc := tokc) (fun _ => rfl) tok_one (.tmp 23) (.tmp 25) rfl w _ _ _ rfl ho4 hb4 hz4 _ (scTks s) rfl R3.out (by have := HTZ.out; have := HSL.out; omega) (by have := HTZ.out; have := HSL.out; omega) ?_)
          intro v5 w5 o5 b5 _
          clear ho4 hb4 R3
          go_wp2
          go_roundg (l.length - (k + 1))
          case measure => omega
          case rel => exact ⟨k + 1, by omega, rfl, by go_num, by rw [HTT.out, List.length_append, List.flatMap_append]; exact o5, b5⟩
        · obtain rfl : k = l.length := by omega
          rw [List.take_length] at hown
          go_wp2
          go_ret
          exact ⟨_, rfl, by rw [HFT.out]; exact hown, hbr⟩

end Go.Proofs.YthihjelcakenpaaDoor
