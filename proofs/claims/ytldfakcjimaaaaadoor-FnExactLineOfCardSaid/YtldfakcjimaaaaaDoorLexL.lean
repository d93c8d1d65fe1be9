/-
  Chapter 3's walks: the program's Lex.
-/
import Derived.Test.YtldfakcjimaaaaaDoorLexK
import Derived.Test.YtldfakcjimaaaaaDoorLexG
import Derived.WalkMore
import Derived.ScopeJumps
namespace Go.Proofs.YtldfakcjimaaaaaDoor
open Go.RowKit

def nsB (o : Option Tok) : Bool := match o with | none => false | some a => a.kind != 3
def wrongB (k : Int) (ns af : Bool) : Bool := if (k == 4) = true then af else ns
/-- What the loop knows: a blank is wanted or not, a blank was just read or not. -/
def LkSt (s : ByteArray) (p : Nat) (ts : List Tok) (n : Nat) (ns af : Bool) (U : Option (List Tok)) : Prop :=
  (af = false ∧ LxSt s.data.toList p ts n U ∧ ns = nsB (lastOr none ts)) ∨
  (af = true ∧ ns = false ∧ ∃ (q : Nat) (h : q < s.size), p = q + 1 ∧ s[q].toNat = 32 ∧ LxSt s.data.toList q ts n U ∧ ∃ a, lastOr none ts = some a ∧ (a.kind != 3) = true)
theorem tkS_blank (b : UInt8) (r : List UInt8) (h : b.toNat = 32) : tkS (b :: r) = none := by
  rw [tkS_cons, if_neg (by omega), if_neg (by omega), if_neg (by omega), if_neg (by omega)]
  refine atomS_no (a := []) ?_ rfl
  rw [List.takeWhile_cons_of_neg]
  simp [atomc, h]
section
variable {s : ByteArray} {p n : Nat} {ts : List Tok} {ns af : Bool} {U : Option (List Tok)}
theorem LkSt.start : LkSt s 0 [] 0 false false (lexL s.data.toList) := .inl ⟨rfl, LxSt.start _, rfl⟩
theorem LkSt.num (h : LkSt s p ts n ns af U) : n = ts.length := by
  rcases h with ⟨_, h, _⟩ | ⟨_, _, _, _, _, _, h, _⟩
  · exact h.1
  · exact h.1
theorem LkSt.end_ok (h : LkSt s p ts n ns false U) (hp : ¬ p < s.size) : U = some ts := by
  rcases h with ⟨_, h, _⟩ | ⟨h, _⟩
  · exact h.done hp
  · cases h
theorem LkSt.end_bad (h : LkSt s p ts n ns true U) (hp : ¬ p < s.size) : U = none := by
  rcases h with ⟨h, _⟩ | ⟨_, _, q, hq, rfl, h32, h, _⟩
  · cases h
  · refine h.bad hq true (decide_eq_true h32) ?_
    show tkS (s.data.toList.drop (q + 1)) = none
    rw [drop_str_end s (q + 1) hp]; rfl
theorem LkSt.space (h : LkSt s p ts n true af U) (hp : p < s.size) (h32 : s[p].toNat = 32) : LkSt s (p + 1) ts n false true U := by
  rcases h with ⟨_, h, hn⟩ | ⟨_, h, _⟩
  · refine .inr ⟨rfl, rfl, p, hp, rfl, h32, h, ?_⟩
    cases hl : lastOr none ts with
    | none => rw [hl] at hn; cases hn
    | some a => rw [hl] at hn; exact ⟨a, rfl, hn.symm⟩
  · cases h
theorem LkSt.no_tok (h : LkSt s p ts n ns af U) (hp : p < s.size) (hno : ¬ (ns = true ∧ s[p].toNat = 32)) (ht : tkS (s.data.toList.drop p) = none) : U = none := by
  rcases h with ⟨_, h, hn⟩ | ⟨_, _, q, hq, rfl, h32, h, _⟩
  · by_cases h32 : s[p].toNat = 32
    · have hnf : ns = false := by cases ns with | false => rfl | true => exact absurd ⟨rfl, h32⟩ hno
      cases hk : tkAt s p true with
      | none => exact h.bad hp true (decide_eq_true h32) hk
      | some x =>
        obtain ⟨t, k⟩ := x
        refine h.unfit hp true (decide_eq_true h32) hk ?_
        rw [hnf] at hn
        cases hl : lastOr none ts with
        | none => rfl
        | some a =>
          rw [hl] at hn
          have : (a.kind != 3) = false := hn.symm
          simp [fitB, gapB, this]
    · exact h.bad hp false (decide_eq_false h32) ht
  · exact h.bad hq true (decide_eq_true h32) ht
theorem LkSt.wrong (h : LkSt s p ts n ns af U) (hp : p < s.size) {t : Tok} {k : Nat} (ht : tkS (s.data.toList.drop p) = some (t, k)) (hw : wrongB t.kind ns af = true) : U = none := by
  have hn32 : ¬ s[p].toNat = 32 := fun e => by rw [drop_str s p hp, tkS_blank _ _ e] at ht; cases ht
  unfold wrongB at hw
  rcases h with ⟨rfl, h, hn⟩ | ⟨rfl, rfl, q, hq, rfl, h32, h, a, ha, hak⟩
  · refine h.unfit hp false (decide_eq_false hn32) ht ?_
    cases h4 : (t.kind == 4) with
    | true => rw [h4] at hw; cases hw
    | false =>
      rw [h4, if_neg (by simp)] at hw
      rw [hw] at hn
      cases hl : lastOr none ts with
      | none => rw [hl] at hn; cases hn
      | some a =>
        rw [hl] at hn
        have : (a.kind != 3) = true := hn.symm
        simp [fitB, gapB, bne, h4]
        simpa using this
  · refine h.unfit hq true (decide_eq_true h32) ht ?_
    cases h4 : (t.kind == 4) with
    | false => rw [h4] at hw; cases hw
    | true => rw [ha]; simp [fitB, gapB, bne, h4]
theorem LkSt.step (h : LkSt s p ts n ns af U) (hp : p < s.size) {t : Tok} {k : Nat} (ht : tkS (s.data.toList.drop p) = some (t, k)) (hw : wrongB t.kind ns af = false) :
    LkSt s (p + k) (ts ++ [t]) (n + 1) (t.kind != 3) false U ∧ 1 ≤ k ∧ p + k ≤ s.size := by
  have hn32 : ¬ s[p].toNat = 32 := fun e => by rw [drop_str s p hp, tkS_blank _ _ e] at ht; cases ht
  have hk := tkS_pos _ _ _ ht
  unfold wrongB at hw
  rcases h with ⟨rfl, h, hn⟩ | ⟨rfl, rfl, q, hq, rfl, h32, h, a, ha, hak⟩
  · have hf : fitB (lastOr none ts) false t = true := by
      cases hl : lastOr none ts with
      | none => rfl
      | some a =>
        rw [hl] at hn
        have hn' : ns = (a.kind != 3) := hn
        cases h4 : (t.kind == 4) with
        | true => simp [fitB, gapB, bne, h4]
        | false =>
          rw [h4, if_neg (by simp), hn'] at hw
          simp [fitB, gapB, hw]
    obtain ⟨h1, h2, h3⟩ := h.step hp false (decide_eq_false hn32) ht hf
    refine ⟨.inl ⟨rfl, h1, ?_⟩, hk.1, h3⟩
    rw [lastOr_snoc]; rfl
  · have hf : fitB (lastOr none ts) true t = true := by
      cases h4 : (t.kind == 4) with
      | true => rw [h4] at hw; cases hw
      | false =>
        have h5 : (t.kind != 4) = true := by simp [bne, h4]
        rw [ha]
        show (true == ((a.kind != 3) && (t.kind != 4))) = true
        rw [hak, h5]; rfl
    obtain ⟨h1, h2, h3⟩ := h.step hq true (decide_eq_true h32) ht hf
    refine ⟨.inl ⟨rfl, h1, ?_⟩, hk.1, h3⟩
    rw [lastOr_snoc]; rfl
end

theorem spacedWrong_any (k : Int) (ns af : Bool) (w : World) :
    Calls Tryd.prog 31 #[.int .i64 k, .bool ns, .bool af] w fun e w' => e = .returned (.bool (wrongB k ns af)) ∧ w = w' := by
  cases h : (k == 4) with
  | true =>
    have HV := Lib.hid (show wrongB k ns af = af by unfold wrongB; rw [if_pos h])
    go_enter Tryd.func31, Tryd.ntmps31
    go_wp2
    go_ret
    exact ⟨by rw [HV.out]; rfl, rfl⟩
  | false =>
    have HV := Lib.hid (show wrongB k ns af = ns by unfold wrongB; rw [if_neg (by rw [h]; simp)])
    go_enter Tryd.func31, Tryd.ntmps31
    go_wp2
    go_ret
    exact ⟨by rw [HV.out]; rfl, rfl⟩

/-- What holds where the loop is left for the label at the end. -/
def LexJ (w : World) (U : Option (List Tok)) (m : Nat) (a : Act) (w' : World) : Prop := a.tmps.size = m ∧ a.defers = [] ∧ U = none ∧ Below w.heap.size w w'

set_option maxHeartbeats 6400000 in
theorem implLex_any : ImplLex := by
  intro s w hM hs
  have hst := LkSt.start (s := s)
  generalize lexL s.data.toList = U at *
  have HS0 := Lib.hid hst
  clear hst
  go_enter Tryd.func11, Tryd.ntmps11
  go_wp2
  refine wp_scope_jumps 1 (LexJ w U 49) (fun _ _ => 0) rfl ?_ ?_
  · go_wp2
    go_step3
    go_wp2
    go_loopw [4, 5, 6, 7] (fun v i b1 b2 wr => ∃ (p n : Nat) (ts : List Tok) (ns af : Bool), p ≤ s.size ∧ n ≤ p ∧ i = .int .i64 p ∧ b1 = .bool ns ∧ b2 = .bool af ∧ LkSt s p ts n ns af U ∧ wr.ownsRow w.heap.size 35 2 v n (ts.flatMap tokc) ∧ Below w.heap.size w wr) (fun _ i _ _ _ => s.size - (intOf i).toNat)
    case atStart => exact ⟨0, 0, [], false, false, by omega, by omega, rfl, rfl, rfl, HS0.out, World.ownsRow_nil _ _ _ _, Below.refl _ _⟩
    case round =>
      obtain ⟨p, n, ts, ns, af, hps, hnp, rfl, rfl, rfl, hst, hown, hbr⟩ := hrel
      have HS := Lib.hid hst
      have hbr0 := hbr.size
      obtain ⟨pv, cv, rfl⟩ := own_slice hown
      clear hst HS0
      by_cases hlt : p < s.size
      · have hbp : s[p].toNat < 256 := s[p].toNat_lt
        have hsp : (ns = true ∧ ((s[p].toNat : Int) == 32) = true) ∨ ns = false ∨ (ns = true ∧ ((s[p].toNat : Int) == 32) = false) := by
          cases ns with
          | false => exact .inr (.inl rfl)
          | true =>
            cases ((s[p].toNat : Int) == 32) with
            | true => exact .inl ⟨rfl, rfl⟩
            | false => exact .inr (.inr ⟨rfl, rfl⟩)
        rcases hsp with ⟨rfl, h32⟩ | hsp
        · have HN := Lib.hid (HS.out.space hlt (beq_nat h32))
          clear HS
          go_wp2
          go_roundw
          case rel => exact ⟨p + 1, n, ts, false, true, by omega, by omega, by go_num, rfl, rfl, HN.out, hown, hbr⟩
          case measure => simp [intOf]; omega
        · have hno : ¬ (ns = true ∧ s[p].toNat = 32) := by
            rintro ⟨h1, h2⟩
            rcases hsp with h | ⟨_, h⟩
            · rw [h] at h1; cases h1
            · exact beq_nat' h h2
          have C1 := Lib.hid (tokenAt_any s p wr (hM.below hbr) hs hlt)
          cases ht : tkS (s.data.toList.drop p) with
          | none =>
            have HU := Lib.hid (HS.out.no_tok hlt hno ht)
            rw [ht] at C1
            clear ht hno HS
            rcases hsp with rfl | ⟨rfl, h32⟩
            all_goals
              go_wp2_with fail
              refine (C1.out).mono ?_
              rintro e w1 ⟨⟨t0, rfl⟩, b1⟩
              have hb1 := hbr.trans (b1.mono hbr0)
              have hz1 := hb1.size
              clear b1 hbr hbr0 hown C1
              go_wp2
              go_step3
              exact ⟨rfl, rfl, rfl, HU.out, hb1.alloc hz1 _⟩
          | some x =>
            obtain ⟨t, k⟩ := x
            rw [ht] at C1
            have hgn : ¬ ((p + k : Nat) : Int) < 0 := by omega
            cases hw : wrongB t.kind ns af with
            | true =>
              have HU := Lib.hid (HS.out.wrong hlt ht hw)
              have C2 := Lib.hid (fun W => spacedWrong_any t.kind ns af W)
              rw [hw] at C2
              clear ht hno HS hw
              rcases hsp with rfl | ⟨rfl, h32⟩
              all_goals
                go_wp2_with fail
                refine (C1.out).mono ?_
                rintro e w1 ⟨rfl, b1⟩
                have hb1 := hbr.trans (b1.mono hbr0)
                have hz1 := hb1.size
                clear b1 hbr hbr0 hown C1
                go_wp2_with fail
                refine (C2.out _).mono ?_
                rintro e w2 ⟨rfl, rfl⟩
                go_wp2
                go_step3
                exact ⟨rfl, rfl, rfl, HU.out, hb1.alloc hz1 _⟩
            | false =>
              obtain ⟨hN, hk1, hks⟩ := HS.out.step hlt ht hw
              have HN := Lib.hid hN
              have C2 := Lib.hid (fun W => spacedWrong_any t.kind ns af W)
              rw [hw] at C2
              clear ht hno HS hw hN
              rcases hsp with rfl | ⟨rfl, h32⟩
              all_goals
                go_wp2_with fail
                refine (C1.out).mono ?_
                rintro e w1 ⟨rfl, b1⟩
                have hb1 := hbr.trans (b1.mono hbr0)
                have hz1 := hb1.size
                have hown1 := ownsRow_below hown b1
                clear b1 hbr hbr0 hown C1
                go_wp2_with fail
                refine (C2.out _).mono ?_
                rintro e w2 ⟨rfl, rfl⟩
                have hown2 : (w1.alloc (.cells #[.int .i64 t.kind, sv t.text] 35)).ownsRow w.heap.size 35 2 (.slice pv n cv) n (ts.flatMap tokc) := hown1.alloc _
                have hb2 : Below w.heap.size w (w1.alloc (.cells #[.int .i64 t.kind, sv t.text] 35)) := hb1.alloc hz1 _
                have hz2 := hb2.size
                have hsz2 : (w1.alloc (.cells #[.int .i64 t.kind, sv t.text] 35)).heap.size = w1.heap.size + 1 := by simp
                have hblk : (w1.alloc (.cells #[.int .i64 t.kind, sv t.text] 35)).heap[w1.heap.size]? = some (.cells #[.int .i64 t.kind, sv t.text] 35 (0, 0)) := heap_alloc_new w1 _
                have hnb : ∀ g, (Value.slice pv n cv).ownBlock = some g → g < w1.heap.size := fun g hg => (hown1.lt g hg).2
                clear C2
                go_wp2_with (at_builtin; refine wpList_app1 Tryd.el_tok rfl (.tmp 38) (.tmp 40) rfl w (w1.alloc (.cells #[.int .i64 t.kind, sv t.text] 35)) (.slice pv n cv) n _ rfl hown2 hb2 hz2 #[.int .i64 t.kind, sv t.text] (.inr rfl) 1 1 (by rw [hsz2]; rfl) rfl (by simp [Value.oneCell']) (by omega) (by omega) (by omega) ?_)
                intro g cap w4 hown4 hb4 hg4 _ _
                have hb4k : w4.heap[w1.heap.size]? = some (.cells #[.int .i64 t.kind, sv t.text] 35 (0, 0)) := (hg4.block w1.heap.size (by simp) (fun e => by have := hnb _ e.symm; omega)).trans hblk
                have f1 : w4.cell? ⟨w1.heap.size, 0, none⟩ = some (.int .i64 t.kind) := by simp [World.cell?, hb4k]
                clear hown1 hown2 hb1 hb2 hblk hb4k hg4 hnb
                go_wp2
                refine ord_start [(0, true), (1, true), (2, true), (3, true), (4, true), (5, true), (6, true)] (fun W => W.cell? ⟨w1.heap.size, 0, none⟩ = some (.int .i64 t.kind)) (by kernel_rfl) (by kernel_rfl) rfl (by kernel_rfl) ?_
                intro ops' hops
                clear hops
                simp only [List.map_cons, List.map_nil, pickOp_zero, pickOp_succ]
                iterate 7 (refine ord_flo ?_ (fun _ _ _ h => h) rfl ?_ f1 ?_; rotate_left; focus (intro W hS; obtain s1 := hS; go_simp; rfl))
                refine ord_done ?_
                go_simp
                go_wp2
                go_roundw
                case rel => exact ⟨p + k, n + 1, ts ++ [t], t.kind != 3, false, by omega, by omega, by go_num, rfl, rfl, HN.out, by rw [List.flatMap_append]; simpa [tokc] using hown4.drew, hb4.drew⟩
                case measure => simp [intOf]; omega
      · obtain rfl : p = s.size := by omega
        have hn := HS.out.num
        subst hn
        cases af with
        | false =>
          have HU := Lib.hid (HS.out.end_ok hlt)
          clear HS
          go_wp2
          simp only [Exit.jump]
          go_ret2
          exact ⟨_, by rw [HU.out]; rfl, by rw [HU.out]; exact hown, hbr⟩
        | true =>
          have HU := Lib.hid (HS.out.end_bad hlt)
          clear HS
          go_wp2
          go_step3
          go_wp2
          simp only [Exit.jump]
          go_ret2
          exact ⟨_, by rw [HU.out]; rfl, by rw [HU.out]; exact World.ownsRow_nil _ _ _ _, hbr⟩
  · rintro a' w' ⟨hsz, hd, hU, hb⟩
    go_wp2
    simp only [Exit.jump]
    refine bodyPost_ret (v := .tuple #[.slice none 0 0, .bool false]) (by simp [results, Tryd.results11, go_sem, hsz]) rfl ?_
    exact ⟨_, by rw [hU]; rfl, by rw [hU]; exact World.ownsRow_nil _ _ _ _, hb⟩

end Go.Proofs.YtldfakcjimaaaaaDoor
