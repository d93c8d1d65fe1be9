/-
  Chapter 4: the law FnSet, out of what the program's functions answer.
-/
import Derived.Test.YtkajjkjimpdbbaaDoorSetP
import Derived.Test.YtkajjkjimpdbbaaDoorSetG
namespace Go.Proofs.YtkajjkjimpdbbaaDoor
open Go.RowKit

/-- What ReadSet hands back, in parts. -/
def SetPost3 (l : List Spn) (ok : Bool) (w : World) (e : Ending) (w' : World) : Prop :=
  ∃ v, e = .returned (.tuple #[v, .bool ok]) ∧ w'.ownsRow w.heap.size 37 2 v l.length (l.flatMap spnc) ∧ Below w.heap.size w w'
theorem readS_set (l : List Spn) (w : World) (e : Ending) (w' : World) : SetPost (readS (setT l)) w e w' = SetPost3 (if setB l = true then l else []) (setB l) w e w' := by
  cases h : setB l with
  | true => rw [readS_setT h]; rfl
  | false =>
    have h0 : readS (setT l) = none := by
      have : setT l = [] := by unfold setT; rw [if_neg (by rw [h]; simp)]
      rw [this]
      unfold readS
      rw [if_pos (.inl rfl)]
    rw [h0]
    rfl
theorem readS_two (s : List UInt8) : ∃ (l : List Spn) (ok : Bool), l.length ≤ 5 ∧ (ok = true → setB l = true ∧ setT l = s) ∧ ∀ w e w', SetPost (readS s) w e w' = SetPost3 l ok w e w' := by
  refine ⟨(readS s).getD [], (readS s).isSome, ?_, ?_, fun _ _ _ => rfl⟩
  · cases hU : readS s with
    | none => simp
    | some l => exact (setB_parts (readS_some hU).1).2.2
  · cases hU : readS s with
    | none => intro h; simp at h
    | some l => intro _; exact readS_some hU
theorem own_upV {w : World} {B B' n s : Nat} {e : TypeId} {v : Value} {xs : List Value} (h : w.ownsRow B e s v n xs) (hb : B' ≤ B) : w.ownsRow B' e s v n xs :=
  ⟨h.1, h.2.imp id fun ⟨g, cap, cur, h1, h2, h3⟩ => ⟨g, cap, cur, h1, Nat.le_trans hb h2, h3⟩⟩
theorem setT_len (l : List Spn) : (setT l).length ≤ 300 := by
  unfold setT
  split
  · rename_i h
    obtain ⟨h1, _, h3⟩ := setB_parts h
    have hj := join_length [44] (l.map spnT)
    have hz := szl_le (m := 43) (l.map spnT) (fun x hx => by obtain ⟨s, hs, rfl⟩ := List.mem_map.1 hx; exact (spnT_len (h1 s hs)).2)
    rw [List.length_map] at hj hz
    have h4 : 43 * l.length ≤ 43 * 5 := Nat.mul_le_mul (Nat.le_refl _) h3
    simp only [List.length_singleton, Nat.mul_one] at hj
    omega
  · simp
theorem setB_rg {l : List Spn} (h : setB l = true) : ∀ t ∈ l, rgS t := by
  intro t ht
  have := (setB_parts h).1 t ht
  unfold spnB at this
  simp only [Bool.and_eq_true] at this
  exact ⟨numB_in64 this.1, numB_in64 this.2⟩

def SpansDrawn (w : World) (e : Ending) (w' : World) : Prop := ∃ (v : Value) (l : List Spn), e = .returned v ∧ l.length ≤ 6 ∧ (∀ t ∈ l, rgS t) ∧ w'.ownsRow w.heap.size 37 2 v l.length (l.flatMap spnc) ∧ Below w.heap.size w w'
set_option maxHeartbeats 800000 in
theorem DrawSetText_any (v : Value) (code : List UInt8) (w : World) (hr : Rd1 bv w v code) (hl : code.length ≤ 1048576) :
    Calls Tryd.prog 5 #[v] w fun e w' => SpansDrawn w e w' := by
  have HR := Lib.hid hr
  clear hr
  go_enter Tryd.func5, Tryd.ntmps5
  go_wp2_with fail
  refine (l1New_any v code _ HR.out hl).mono ?_
  rintro e w1 ⟨g, rfl, hg, hc1, hb1⟩
  go_wp2_with fail
  refine (l4Bent_any g code _ hc1).mono ?_
  rintro e w2 ⟨v2, n, l, rfl, hn, hn6, htl, ho2, hc2, hg2⟩
  have hb2 := below_cur hb1 hg2 hb1.size hg
  have hz1 := hb1.size
  have ho2' : w2.ownsRow w.heap.size 37 2 v2 n (l.flatMap spnc) := own_upV ho2 hz1
  clear hc1 hg2 hb1 ho2 hc2
  subst hn
  go_wp2
  go_ret
  exact ⟨v2, l, rfl, hn6, htl, ho2', hb2⟩

set_option maxHeartbeats 1600000 in
theorem DrawReadSet_any (v : Value) (code : List UInt8) (w : World) (hr : Rd1 bv w v code) (hl : code.length ≤ 1048576) :
    Calls Tryd.prog 8 #[v] w fun e w' => TextPost 4000 w e w' := by
  have HR := Lib.hid hr
  clear hr
  go_enter Tryd.func8, Tryd.ntmps8
  go_wp2_with fail
  refine (l1New_any v code _ HR.out hl).mono ?_
  rintro e w1 ⟨g, rfl, hg, hc1, hb1⟩
  go_wp2_with fail
  refine (l4Bent_any g code _ hc1).mono ?_
  rintro e w2 ⟨v2, n, l, rfl, hn, hn6, htl, ho2, hc2, hg2⟩
  have hb2 := below_cur hb1 hg2 hb1.size hg
  have hrd := Rd.of_own (enc := spnc) (fun _ => rfl) hn.symm ho2
  have hll := setT_len l
  have C1 := Lib.hid (specSetText_any v2 l w2 hrd (by omega))
  clear hrd htl ho2 hc1 hb1 hg2
  go_wp2_with fail
  refine (C1.out).mono ?_
  rintro e w3 ⟨rfl, b3⟩
  have hb3 := hb2.trans (b3.mono hb2.size)
  have hc3 := hc2.below b3
  have hz3 := hb3.size
  have hlt3 := hc3.lt
  clear hb2 b3 hc2 C1 hn
  generalize setT l = q at *
  go_wp2_with fail
  refine (l1Turned_any g code _ q [[44], [58], [42], [48], [49], [51, 58, 51], [32], [120]] _ (hc3.below ((Below.refl _ _).alloc (Nat.le_refl _) _)) (Rd1_lit (b := w3.heap.size) _ (heap_alloc_new w3 _) rfl rfl) (Apart_new hlt3) (by simp) (by simp) 1000 (by omega) (by omega) (by simp)).mono ?_
  rintro e w4 ⟨u, rfl, hul, hc4, hg4⟩
  have hfin := below_cur (hb3.alloc hz3 _) hg4 (by simp; omega) hg
  clear hc4 hg4 hb3 hc3
  go_wp2
  go_ret
  exact ⟨u, rfl, by omega, hfin⟩

set_option maxHeartbeats 800000 in
theorem sameSpans_same (a b : Value) (l : List Spn) (w : World) (ha : Rd 2 spnc w a l) (hb : Rd 2 spnc w b l) (hl : l.length ≤ 140737488355328) :
    Calls Tryd.prog 11 #[a, b] w fun e w' => e = .returned (.bool true) ∧ Below w.heap.size w w' := by
  obtain ⟨p, c1, rfl, hp⟩ := ha.ex
  obtain ⟨q, c2, rfl, hq⟩ := hb.ex
  clear ha hb
  have HP := Lib.hid hp
  have HQ := Lib.hid hq
  clear hp hq
  go_enter Tryd.func11, Tryd.ntmps11
  go_wp2
  go_loopw [5] (fun i wr => ∃ k : Nat, k ≤ l.length ∧ i = .int .i64 k ∧ Below w.heap.size w wr) (fun i _ => l.length - (intOf i).toNat)
  case atStart => exact ⟨0, by omega, rfl, Below.refl _ _⟩
  case round =>
    obtain ⟨k, hk, rfl, hbr⟩ := hrel
    by_cases hlt : k < l.length
    · obtain ⟨b1, o1, rfl, hb1, hc1⟩ := HP.out.resolve_left (by intro h; subst h; simp at hlt)
      obtain ⟨b2, o2, rfl, hb2, hc2⟩ := HQ.out.resolve_left (by intro h; subst h; simp at hlt)
      obtain ⟨x, hx⟩ : ∃ x, l[k]? = some x := ⟨_, List.getElem?_eq_getElem hlt⟩
      have e1 : wr.cell? ⟨b1, o1 + k * 2, none⟩ = some (.int .i64 x.low) := (hbr.cell (p := ⟨b1, o1 + k * 2, none⟩) hb1).trans (hc1 k x hx 0 _ rfl)
      have e2 : wr.cell? ⟨b1, o1 + k * 2 + 1, none⟩ = some (.int .i64 x.high) := (hbr.cell (p := ⟨b1, o1 + k * 2 + 1, none⟩) hb1).trans (hc1 k x hx 1 _ rfl)
      have e3 : wr.cell? ⟨b2, o2 + k * 2, none⟩ = some (.int .i64 x.low) := (hbr.cell (p := ⟨b2, o2 + k * 2, none⟩) hb2).trans (hc2 k x hx 0 _ rfl)
      have e4 : wr.cell? ⟨b2, o2 + k * 2 + 1, none⟩ = some (.int .i64 x.high) := (hbr.cell (p := ⟨b2, o2 + k * 2 + 1, none⟩) hb2).trans (hc2 k x hx 1 _ rfl)
      clear hc1 hc2 hx HP HQ
      go_wp2
      refine ord_start [(0, true), (1, true), (2, true), (3, true), (4, true), (5, true), (6, true), (7, true), (8, true)] (fun W => W.cell? ⟨b1, o1 + k * 2, none⟩ = some (.int .i64 x.low) ∧ W.cell? ⟨b1, o1 + k * 2 + 1, none⟩ = some (.int .i64 x.high) ∧ W.cell? ⟨b2, o2 + k * 2, none⟩ = some (.int .i64 x.low) ∧ W.cell? ⟨b2, o2 + k * 2 + 1, none⟩ = some (.int .i64 x.high)) (by kernel_rfl) (by kernel_rfl) rfl (by kernel_rfl) ?_
      intro ops' hops
      clear hops
      simp only [List.map_cons, List.map_nil, pickOp_zero, pickOp_succ]
      iterate 9 (refine ord_flo ?_ (fun _ _ _ h => h) rfl ?_ ⟨e1, e2, e3, e4⟩ ?_; rotate_left; focus (intro W hS; obtain ⟨s1, s2, s3, s4⟩ := hS; go_simp; rfl))
      refine ord_done ?_
      go_simp
      go_wp2
      go_roundw
      case rel => exact ⟨k + 1, by omega, by go_num, hbr.drew⟩
      case measure => simp [intOf]; omega
    · obtain rfl : k = l.length := by omega
      go_wp2
      go_ret
      exact ⟨rfl, hbr⟩

set_option maxHeartbeats 3200000 in
theorem FnSet_of {G : World → Prop} (hK : Keeps G) (IO : ImplSetOk G) (IS : ImplSetText G) (IX : ImplReadSet G) (v : Value) (code : List UInt8) (w : World) (hG : G w) (hr : Rd1 bv w v code) :
    Calls Tryd.prog 3 #[v] w fun e w' => e = .returned (.bool true) ∧ Below w.heap.size w w' := by
  have HR := Lib.hid hr
  have HB := Lib.hid (big_any v code w hr)
  clear hr
  by_cases hbig : code.length ≤ 1048576
  · have hq : ¬ (1048576 : Int) < (code.length : Int) := by omega
    have HIO := Lib.hid IO
    have HIS := Lib.hid IS
    have HIX := Lib.hid IX
    clear IO IS IX
    go_enter Tryd.func3, Tryd.ntmps3
    go_wp2_with fail
    refine (HB.out).mono ?_
    rintro e w' ⟨rfl, rfl⟩
    go_wp2_with fail
    refine (DrawSetText_any v code _ HR.out hbig).mono ?_
    rintro e w1 ⟨v1, l, rfl, hl6, htl, o1, b1⟩
    have RL1 := Lib.hid (Rd.of_own (enc := spnc) (fun _ => rfl) rfl o1)
    have C1 := Lib.hid (HIS.out v1 l w1 (hK _ _ hG b1) RL1.out (by omega) htl)
    have hsz : (ByteArray.mk (setT l).toArray).size ≤ 1048576 := by have := setT_len l; show (setT l).toArray.size ≤ _; simp; omega
    have c2 := fun W hm => HIX.out ⟨(setT l).toArray⟩ W hm hsz
    rw [show (ByteArray.mk (setT l).toArray).data.toList = setT l from rfl] at c2
    simp only [readS_set] at c2
    have hx1 : setB l = true → (if setB l = true then l else []) = l := fun h => if_pos h
    have hx2 : (if setB l = true then l else []).length ≤ 6 := by split <;> simp [hl6]
    have C2 := Lib.hid c2
    have C3 := Lib.hid (fun W (h : Rd 2 spnc W v1 l) => specSetOk_any v1 l W h (by omega))
    have C4 := Lib.hid (fun u W (h1 : Rd 2 spnc W u l) (h2 : Rd 2 spnc W v1 l) => sameSpans_same u v1 l W h1 h2 (by omega))
    clear c2 htl o1
    generalize setT l = q at *
    generalize setB l = ok1 at *
    generalize (if ok1 = true then l else []) = l1 at *
    go_wp2_with fail
    refine (C1.out).mono ?_
    rintro e w2 ⟨rfl, b2⟩
    have hb2 := b1.trans (b2.mono b1.size)
    have RL2 := Lib.hid (RL1.out.below b2)
    clear b1 b2 C1 RL1
    go_wp2_with fail
    refine (C2.out _ (hK _ _ hG hb2)).mono ?_
    rintro e w3 ⟨v3, rfl, o3, b3⟩
    have hb3 := hb2.trans (b3.mono hb2.size)
    have RL3 := Lib.hid (RL2.out.below b3)
    have RX3 := Lib.hid (Rd.of_own (enc := spnc) (fun _ => rfl) rfl o3)
    clear hb2 b3 C2 RL2 o3
    go_wp2_with fail
    refine (DrawReadSet_any v code _ (HR.out.below hb3) hbig).mono ?_
    rintro e w4 ⟨t, rfl, ht, b4⟩
    have hb4 := hb3.trans (b4.mono hb3.size)
    have RL4 := Lib.hid (RL3.out.below b4)
    have RX4 := Lib.hid (RX3.out.below b4)
    have htz : (ByteArray.mk t.toArray).size ≤ 1048576 := by show t.toArray.size ≤ _; simp; omega
    obtain ⟨l2, ok2, hl2, hok2, hP⟩ := readS_two t
    have c5 := fun W hm => HIX.out ⟨t.toArray⟩ W hm htz
    have c6 := fun W => specReadSet_any ⟨t.toArray⟩ W htz
    rw [show (ByteArray.mk t.toArray).data.toList = t from rfl] at c5 c6
    simp only [hP] at c5 c6
    have C5 := Lib.hid c5
    have C6 := Lib.hid c6
    have HOK := Lib.hid hok2
    have C7 := Lib.hid (fun (h : setB l2 = true) u W hm (hr : Rd 2 spnc W u l2) => HIS.out u l2 W hm hr (by omega) (setB_rg h))
    have C8 := Lib.hid (fun (h : setB l2 = true) u W hm (hr : Rd 2 spnc W u l2) => HIO.out u l2 W hm hr (by omega) (setB_rg h))
    clear hb3 b4 RL3 RX3 c5 c6 hP htz hok2
    go_wp2_with fail
    refine (C5.out _ (hK _ _ hG hb4)).mono ?_
    rintro e w5 ⟨v5, rfl, o5, b5⟩
    have hb5 := hb4.trans (b5.mono hb4.size)
    have RL5 := Lib.hid (RL4.out.below b5)
    have RX5 := Lib.hid (RX4.out.below b5)
    have RY5 := Lib.hid (Rd.of_own (enc := spnc) (fun _ => rfl) rfl o5)
    clear hb4 b5 C5 RL4 RX4 o5
    go_wp2_with fail
    refine (C6.out _).mono ?_
    rintro e w6 ⟨v6, rfl, o6, b6⟩
    have hb6 := hb5.trans (b6.mono hb5.size)
    have RL6 := Lib.hid (RL5.out.below b6)
    have RX6 := Lib.hid (RX5.out.below b6)
    have RY6 := Lib.hid (RY5.out.below b6)
    clear hb5 b6 C6 RL5 RX5 RY5 o6
    cases ok1 with
    | true =>
      obtain rfl := hx1 rfl
      go_wp2_with fail
      refine (C3.out _ RL6.out).mono ?_
      rintro e w7 ⟨rfl, rfl⟩
      go_wp2_with fail
      refine (C4.out _ _ RX6.out RL6.out).mono ?_
      rintro e w8 ⟨rfl, b8⟩
      have hb8 := hb6.trans (b8.mono hb6.size)
      have RY8 := Lib.hid (RY6.out.below b8)
      clear hb6 b8 C3 C4 RL6 RX6 RY6
      cases ok2 with
      | true =>
        obtain ⟨ha, rfl⟩ := HOK.out rfl
        go_wp2_with fail
        refine (C7.out ha _ _ (hK _ _ hG hb8) RY8.out).mono ?_
        rintro e w9 ⟨rfl, b9⟩
        have hb9 := hb8.trans (b9.mono hb8.size)
        have c8 := C8.out ha v5 _ (hK _ _ hG hb9) (RY8.out.below b9)
        rw [ha] at c8
        have C9 := Lib.hid c8
        clear hb8 b9 C7 C8 c8 RY8 ha HOK
        generalize setT l2 = t at *
        go_wp2_with fail
        refine (C9.out).mono ?_
        rintro e wa ⟨rfl, ba⟩
        have hba := hb9.trans (ba.mono hb9.size)
        clear ba hb9 C9
        go_wp2
        go_ret
        exact ⟨rfl, hba⟩
      | false =>
        clear HOK C7 C8 RY8
        go_wp2
        go_ret
        exact ⟨rfl, hb8⟩
    | false =>
      go_wp2_with fail
      refine (C3.out _ RL6.out).mono ?_
      rintro e w7 ⟨rfl, rfl⟩
      clear C3 C4 RL6 RX6
      cases ok2 with
      | true =>
        obtain ⟨ha, rfl⟩ := HOK.out rfl
        go_wp2_with fail
        refine (C7.out ha _ _ (hK _ _ hG hb6) RY6.out).mono ?_
        rintro e w9 ⟨rfl, b9⟩
        have hb9 := hb6.trans (b9.mono hb6.size)
        have c8 := C8.out ha v5 _ (hK _ _ hG hb9) (RY6.out.below b9)
        rw [ha] at c8
        have C9 := Lib.hid c8
        clear hb6 b9 C7 C8 c8 RY6 ha HOK
        generalize setT l2 = t at *
        go_wp2_with fail
        refine (C9.out).mono ?_
        rintro e wa ⟨rfl, ba⟩
        have hba := hb9.trans (ba.mono hb9.size)
        clear ba hb9 C9
        go_wp2
        go_ret
        exact ⟨rfl, hba⟩
      | false =>
        clear HOK C7 C8 RY6
        go_wp2
        go_ret
        exact ⟨rfl, hb6⟩
  · have hq : (1048576 : Int) < (code.length : Int) := by omega
    go_enter Tryd.func3, Tryd.ntmps3
    go_wp2_with fail
    refine (HB.out).mono ?_
    rintro e w' ⟨rfl, rfl⟩
    go_wp2
    go_ret
    exact ⟨rfl, Below.refl _ _⟩

end Go.Proofs.YtkajjkjimpdbbaaDoor
