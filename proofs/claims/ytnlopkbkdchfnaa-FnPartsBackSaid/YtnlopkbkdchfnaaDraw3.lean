/-
  Chapter 1's draws, and the laws FnHex and FnPartsBack.
-/
import Derived.Test.YtnlopkbkdchfnaaDraw2
import Derived.Test.YtnlopkbkdchfnaaNumA
import Derived.Test.YtnlopkbkdchfnaaNumB
import Derived.Test.YtnlopkbkdchfnaaJoined
namespace Go.Proofs.Ytnlopkbkdchfnaa
open Go.RowKit

/-- A slice of strings that was just written out. -/
theorem Rd1_lit {α : Type} {enc : α → Value} {W : World} {b n c : Nat} {cs : Array Value} {e : TypeId} (l : List α) (h : W.heap[b]? = some (.cells cs e (0, 0))) (hcs : cs.toList = l.map enc) (hn : l.length = n) : Rd1 enc W (.slice (some ⟨b, 0, none⟩) n c) l := by
  subst hn
  refine ⟨_, c, rfl, .inr ⟨b, 0, rfl, (Array.getElem?_eq_some_iff.1 h).1, fun i x hx => ?_⟩⟩
  rw [Nat.zero_add, cell_of_row W b i cs e (0, 0) h, ← Array.getElem?_toList, hcs, List.getElem?_map, hx]
  rfl
theorem Apart_new {b n c g : Nat} (h : g < b) : Apart (.slice (some ⟨b, 0, none⟩) n c) g := by
  intro b' off c' n' e
  injection e with e
  injection e with e
  injection e with e
  omega

theorem unhexl_hexl (l : List UInt8) : unhexl (hexl l) = some l := by
  induction l with
  | nil => rfl
  | cons b l ih =>
    have h1 : ∀ b : UInt8, halfc (hexc (b.toNat / 16)) = some (b.toNat / 16) ∧ halfc (hexc (b.toNat % 16)) = some (b.toNat % 16) ∧ UInt8.ofNat (16 * (b.toNat / 16) + b.toNat % 16) = b := by
      intro b
      have hh : ∀ n : Fin 256, halfc (hexc (n.val / 16)) = some (n.val / 16) ∧ halfc (hexc (n.val % 16)) = some (n.val % 16) := by decide +kernel
      have := hh ⟨b.toNat, b.toNat_lt⟩
      refine ⟨this.1, this.2, ?_⟩
      rw [Nat.div_add_mod]; simp
    obtain ⟨e1, e2, e3⟩ := h1 b
    show unhexl (hexc (b.toNat / 16) :: hexc (b.toNat % 16) :: hexl l) = _
    simp only [unhexl, e1, e2, ih, e3]
theorem hexc_half (b : UInt8) (x : Nat) (h : halfc b = some x) : hexc x = b := by
  have hh : ∀ n : Fin 256, ∀ x : Fin 16, halfc (UInt8.ofNat n.val) = some x.val → hexc x.val = UInt8.ofNat n.val := by decide +kernel
  have hx := halfc_le h
  have := hh ⟨b.toNat, b.toNat_lt⟩ ⟨x, by omega⟩ (by simpa using h)
  simpa using this
theorem hexl_unhexl : ∀ (l r : List UInt8), unhexl l = some r → hexl r = l
  | [], r, h => by simp only [unhexl] at h; cases h; rfl
  | [_], r, h => by simp [unhexl] at h
  | a :: b :: l, r, h => by
    simp only [unhexl] at h
    cases hx : halfc a <;> cases hy : halfc b <;> cases hr : unhexl l <;> rw [hx, hy, hr] at h <;> simp only at h <;> cases h
    rename_i x y t
    have := hexl_unhexl l t hr
    have h1 := halfc_le hx
    have h2 := halfc_le hy
    have e : (UInt8.ofNat (16 * x + y)).toNat = 16 * x + y := UInt8.toNat_ofNat_of_lt' (by show 16 * x + y < 256; omega)
    show hexc ((UInt8.ofNat (16 * x + y)).toNat / 16) :: hexc ((UInt8.ofNat (16 * x + y)).toNat % 16) :: hexl t = _
    rw [e, this, show (16 * x + y) / 16 = x from by omega, show (16 * x + y) % 16 = y from by omega, hexc_half a x hx, hexc_half b y hy]
theorem upper_upper (l : List UInt8) : upper (upper l) = upper l := by
  unfold upper
  rw [List.map_map]
  apply List.map_congr_left
  intro b _
  have hh : ∀ n : Fin 256, upc (upc (UInt8.ofNat n.val)) = upc (UInt8.ofNat n.val) := by decide +kernel
  have := hh ⟨b.toNat, b.toNat_lt⟩
  simpa using this
theorem join_partsl (c : UInt8) (l : List UInt8) : Lib.join (partsl c l) [c] = l := by
  induction l with
  | nil => rfl
  | cons b r ih =>
    unfold partsl
    split
    · rename_i h
      subst h
      cases hp : partsl b r with
      | nil => exact absurd hp (partsl_ne b r)
      | cons x xs =>
        rw [hp] at ih
        rw [Lib.join_cons] at ih ⊢
        simp only [Lib.joinTail, List.map_cons, List.flatten_cons, List.nil_append, List.cons_append] at ih ⊢
        rw [ih]
    · split
      · rename_i hp; exact absurd hp (partsl_ne c r)
      · rename_i x xs hp
        rw [hp] at ih
        rw [Lib.join_cons] at ih ⊢
        rw [List.cons_append, ih]
theorem szl_partsl (c : UInt8) (l : List UInt8) : szl (partsl c l) ≤ l.length := by
  induction l with
  | nil => simp [partsl, szl]
  | cons b r ih =>
    unfold partsl
    split
    · simp only [szl, List.map_cons, List.foldr_cons, List.length_cons, List.length_nil] at ih ⊢; omega
    · split
      · simp [szl]
      · rename_i x xs hp
        rw [hp] at ih
        simp only [szl, List.map_cons, List.foldr_cons, List.length_cons] at ih ⊢; omega

theorem big_any (v : Value) (l : List UInt8) (w : World) (hr : Rd1 bv w v l) :
    Calls Try.prog 11 #[v] w fun e w' => e = .returned (.bool (decide ((1048576 : Int) < (l.length : Int)))) ∧ w = w' := by
  obtain ⟨p, c, rfl, _⟩ := hr.ex
  clear hr
  go_enter Try.func11, Try.ntmps11
  go_wp2
  go_ret
  exact ⟨rfl, rfl⟩

/-- A text was drawn, of at most so many bytes. -/
def TextPost (n : Nat) (w : World) (e : Ending) (w' : World) : Prop := ∃ t : List UInt8, e = .returned (sv t) ∧ t.length ≤ n ∧ Below w.heap.size w w'

set_option maxHeartbeats 400000 in
theorem DrawHex_any (v : Value) (code : List UInt8) (w : World) (hr : Rd1 bv w v code) (hl : code.length ≤ 1048576) :
    Calls Try.prog 12 #[v] w fun e w' => TextPost 12 w e w' := by
  have HR := Lib.hid hr
  clear hr
  go_enter Try.func12, Try.ntmps12
  go_wp2_with fail
  refine (l1New_any v code _ HR.out hl).mono ?_
  rintro e w1 ⟨g, rfl, hg, hc1, hb1⟩
  go_wp2_with fail
  refine (l1Below_any g code _ 12 (by omega) _ hc1 (by omega) (by omega)).mono ?_
  rintro e w2 ⟨x, rfl, hx, hc2, hg2⟩
  have hb2 := below_cur hb1 hg2 hb1.size hg
  go_wp2_with fail
  refine (l1Bytes_any g code x _ hc2 (by omega)).mono ?_
  rintro e w3 ⟨v3, l, rfl, hll, ho3, hc3, hg3⟩
  have hb3 := below_cur hb2 hg3 hb2.size hg
  have hback := conv_own (P := Try.prog) 22 9 5 ho3 hll Try.underlying22 Try.underlying5 Try.underlying9
  have HL := Lib.hid hll
  clear hll ho3
  go_wp2
  go_ret
  exact ⟨l, rfl, by rw [HL.out]; omega, hb3⟩

set_option maxHeartbeats 800000 in
theorem DrawUnhex_any (v : Value) (code : List UInt8) (w : World) (hr : Rd1 bv w v code) (hl : code.length ≤ 1048576) :
    Calls Try.prog 15 #[v] w fun e w' => TextPost 1048576 w e w' := by
  have HR := Lib.hid hr
  clear hr
  go_enter Try.func15, Try.ntmps15
  go_wp2_with fail
  refine (l1New_any v code _ HR.out hl).mono ?_
  rintro e w1 ⟨g, rfl, hg, hc1, hb1⟩
  go_wp2_with fail
  refine (l1Below_any g code _ 8 (by omega) _ hc1 (by omega) (by omega)).mono ?_
  rintro e w2 ⟨x, rfl, hx, hc2, hg2⟩
  have hb2 := below_cur hb1 hg2 hb1.size hg
  go_wp2_with fail
  refine (l1Bytes_any g code x _ hc2 (by omega)).mono ?_
  rintro e w3 ⟨v3, l, rfl, hll, ho3, hc3, hg3⟩
  have hb3 := below_cur hb2 hg3 hb2.size hg
  have hback := conv_own (P := Try.prog) 22 9 5 ho3 hll Try.underlying22 Try.underlying5 Try.underlying9
  have HL := Lib.hid hll
  clear hll ho3 hc2 hg2 hg3 hb2 hb1 hc1
  go_wp2_with fail
  have hsz : (ByteArray.mk l.toArray).size ≤ 1048576 := by show l.toArray.size ≤ _; simp; rw [HL.out]; omega
  refine (specHex_any ⟨l.toArray⟩ _ hsz).mono ?_
  rintro e w4 ⟨rfl, hb4⟩
  have hc4 := hc3.below hb4
  have hb5 := hb3.trans (hb4.mono hb3.size)
  have hlen : (hexl l).length ≤ 14 := by rw [hexl_length, HL.out]; omega
  clear hback hb3 hb4 hc3
  have hz5 := hb5.size
  have hlt4 := hc4.lt
  go_wp2_with fail
  refine (l1Turned_any g code _ (hexl l) [[97], [65, 48], [48, 103], [32], [48, 48]] _ (hc4.below ((Below.refl _ _).alloc (Nat.le_refl _) _)) (Rd1_lit (b := w4.heap.size) _ (heap_alloc_new w4 _) rfl rfl) (Apart_new hlt4) (by simp) (by simp) 1000 (by omega) (by omega) (by simp)).mono ?_
  rintro e w5 ⟨t, rfl, ht, hc5, hg5⟩
  have hfin := below_cur (hb5.alloc hz5 _) hg5 (by simp; omega) hg
  clear hc5 hg5 hb5 hc4
  go_wp2
  go_ret
  exact ⟨t, rfl, by omega, hfin⟩

set_option maxHeartbeats 800000 in
theorem FnHex_any (v : Value) (code : List UInt8) (w : World) (hr : Rd1 bv w v code) :
    Calls Try.prog 3 #[v] w fun e w' => e = .returned (.bool true) ∧ Below w.heap.size w w' := by
  have HR := Lib.hid hr
  have HB := Lib.hid (big_any v code w hr)
  clear hr
  by_cases hbig : code.length ≤ 1048576
  · have hq : ¬ (1048576 : Int) < (code.length : Int) := by omega
    go_enter Try.func3, Try.ntmps3
    go_wp2_with fail
    refine (HB.out).mono ?_
    rintro e w' ⟨rfl, rfl⟩
    go_wp2_with fail
    refine (DrawHex_any v code _ HR.out hbig).mono ?_
    rintro e w1 ⟨s, rfl, hs, b1⟩
    have hsz : (ByteArray.mk s.toArray).size ≤ 1048576 := by show s.toArray.size ≤ _; simp; omega
    go_wp2_with fail
    refine (implHex_any ⟨s.toArray⟩ _ hsz).mono ?_
    rintro e w2 ⟨rfl, b2⟩
    have hhl := hexl_length s
    have hsz2 : (ByteArray.mk (hexl s).toArray).size ≤ 1048576 := by show (hexl s).toArray.size ≤ _; simp; omega
    have c2 := fun W => implUnhex_any ⟨(hexl s).toArray⟩ W hsz2
    rw [show unhexV (ByteArray.mk (hexl s).toArray).data.toList = .tuple #[sv s, .bool true] from by unfold unhexV; rw [unhexl_hexl]] at c2
    have C2 := Lib.hid c2
    clear c2
    go_wp2_with fail
    refine (C2.out _).mono ?_
    rintro e w3 ⟨rfl, b3⟩
    have z1 := b1.size
    have z2 := b2.size
    have hb3 := b1.trans ((b2.trans (b3.mono z2)).mono z1)
    have HR3 := Lib.hid (HR.out.below hb3)
    clear b1 b2 b3 HR
    go_wp2_with fail
    refine (DrawUnhex_any v code _ HR3.out hbig).mono ?_
    rintro e w4 ⟨t, rfl, ht, b4⟩
    have hb4 := hb3.trans (b4.mono hb3.size)
    clear hb3 b4 HR3
    have hszt : (ByteArray.mk t.toArray).size ≤ 1048576 := by show t.toArray.size ≤ _; simpa using ht
    have c3 := fun W => implUnhex_any ⟨t.toArray⟩ W hszt
    have c4 := fun W => specUnhex_any ⟨t.toArray⟩ W hszt
    cases hu : unhexl t with
    | none =>
      have hV : unhexV (ByteArray.mk t.toArray).data.toList = .tuple #[.string ⟨#[]⟩, .bool false] := by unfold unhexV; rw [hu]
      rw [hV] at c3 c4
      have C3 := Lib.hid c3
      have C4 := Lib.hid c4
      clear hV hu c3 c4
      go_wp2_with fail
      refine (C3.out _).mono ?_
      rintro e w5 ⟨rfl, b5⟩
      go_wp2_with fail
      refine (C4.out _).mono ?_
      rintro e w6 ⟨rfl, b6⟩
      have hb6 := hb4.trans ((b5.trans (b6.mono b5.size)).mono hb4.size)
      clear hb4 b5 b6 C3 C4 C2
      go_wp2
      go_ret
      exact ⟨rfl, hb6⟩
    | some r =>
      have hV : unhexV (ByteArray.mk t.toArray).data.toList = .tuple #[sv r, .bool true] := by unfold unhexV; rw [hu]
      have hrt := hexl_unhexl t r hu
      have hrl := unhexl_len t r hu
      rw [hV] at c3 c4
      have hszr : (ByteArray.mk r.toArray).size ≤ 1048576 := by show r.toArray.size ≤ _; simp; omega
      have c5 := fun W => implHex_any ⟨r.toArray⟩ W hszr
      rw [show (ByteArray.mk r.toArray).data.toList = r from rfl, hrt] at c5
      have C3 := Lib.hid c3
      have C4 := Lib.hid c4
      have C5 := Lib.hid c5
      clear hV hu c3 c4 c5 hrt hrl
      go_wp2_with fail
      refine (C3.out _).mono ?_
      rintro e w5 ⟨rfl, b5⟩
      go_wp2_with fail
      refine (C4.out _).mono ?_
      rintro e w6 ⟨rfl, b6⟩
      have hb6 := hb4.trans ((b5.trans (b6.mono b5.size)).mono hb4.size)
      clear hb4 b5 b6 C3 C4 C2
      go_wp2_with fail
      refine (C5.out _).mono ?_
      rintro e w7 ⟨rfl, b7⟩
      have hb7 := hb6.trans (b7.mono hb6.size)
      clear hb6 b7 C5
      go_wp2
      go_ret
      exact ⟨rfl, hb7⟩
  · have hq : (1048576 : Int) < (code.length : Int) := by omega
    go_enter Try.func3, Try.ntmps3
    go_wp2_with fail
    refine (HB.out).mono ?_
    rintro e w' ⟨rfl, rfl⟩
    go_wp2
    go_ret
    exact ⟨rfl, Below.refl _ _⟩


set_option maxHeartbeats 800000 in
theorem DrawUpper_any (v : Value) (code : List UInt8) (w : World) (hr : Rd1 bv w v code) (hl : code.length ≤ 1048576) :
    Calls Try.prog 18 #[v] w fun e w' => TextPost 12 w e w' := by
  have HR := Lib.hid hr
  clear hr
  go_enter Try.func18, Try.ntmps18
  go_wp2_with fail
  refine (l1New_any v code _ HR.out hl).mono ?_
  rintro e w1 ⟨g, rfl, hg, hc1, hb1⟩
  go_wp2_with fail
  refine (l1Once_any g code _ 2 (by omega) _ hc1 (by omega) (by omega)).mono ?_
  rintro e w2 ⟨b, rfl, hc2, hg2⟩
  have hb2 := below_cur hb1 hg2 hb1.size hg
  have hz2 := hb2.size
  have hlt2 := hc2.lt
  clear hc1 hg2 hb1
  cases b with
  | true =>
    go_wp2_with fail
    refine (l1Pick_any g code _ [[], [97, 122], [65, 90], [97, 45, 122], [123, 64, 91]] _ (hc2.below ((Below.refl _ _).alloc (Nat.le_refl _) _)) (Rd1_lit (b := w2.heap.size) _ (heap_alloc_new w2 _) rfl rfl) (Apart_new hlt2) (by simp) (by simp)).mono ?_
    rintro e w3 ⟨t, rfl, ht, hc3, hg3⟩
    have hfin := below_cur (hb2.alloc hz2 _) hg3 (by simp; omega) hg
    have htl : t.length ≤ 12 := by simp at ht; rcases ht with rfl | rfl | rfl | rfl | rfl <;> simp
    clear ht hc3 hg3 hb2 hc2
    go_wp2
    go_ret
    exact ⟨t, rfl, htl, hfin⟩
  | false =>
    go_wp2_with fail
    refine (l1Below_any g code _ 6 (by omega) _ hc2 (by omega) (by omega)).mono ?_
    rintro e w3 ⟨x, rfl, hx, hc3, hg3⟩
    have hb3 := below_cur hb2 hg3 hz2 hg
    go_wp2_with fail
    refine (l1Bytes_any g code x _ hc3 (by omega)).mono ?_
    rintro e w4 ⟨v4, l, rfl, hll, ho4, hc4, hg4⟩
    have hb4 := below_cur hb3 hg4 hb3.size hg
    have hback := conv_own (P := Try.prog) 22 9 5 ho4 hll Try.underlying22 Try.underlying5 Try.underlying9
    have HL := Lib.hid hll
    clear hll ho4 hc3 hc2 hg3 hg4 hb2 hb3
    go_wp2
    go_ret
    exact ⟨l, rfl, by rw [HL.out]; omega, hb4⟩

def PartsDrawn (w : World) (e : Ending) (w' : World) : Prop := ∃ (t : List UInt8) (c : UInt8), e = .returned (.tuple #[sv t, .int .u8 (c.toNat : Int)]) ∧ t.length ≤ 12 ∧ Below w.heap.size w w'

set_option maxHeartbeats 800000 in
theorem DrawParts_any (v : Value) (code : List UInt8) (w : World) (hr : Rd1 bv w v code) (hl : code.length ≤ 1048576) :
    Calls Try.prog 17 #[v] w fun e w' => PartsDrawn w e w' := by
  have HR := Lib.hid hr
  clear hr
  go_enter Try.func17, Try.ntmps17
  go_wp2_with fail
  refine (l1New_any v code _ HR.out hl).mono ?_
  rintro e w1 ⟨g, rfl, hg, hc1, hb1⟩
  have hz1 := hb1.size
  have hlt1 := hc1.lt
  go_wp2_with fail
  refine (l1Pick_any g code _ [[], [97], [97, 44, 98], [44], [97, 44, 44, 98, 44], [97, 10, 98, 10]] _ (hc1.below ((Below.refl _ _).alloc (Nat.le_refl _) _)) (Rd1_lit (b := w1.heap.size) _ (heap_alloc_new w1 _) rfl rfl) (Apart_new hlt1) (by simp) (by simp)).mono ?_
  rintro e w2 ⟨t, rfl, ht, hc2, hg2⟩
  have hb2 := below_cur (hb1.alloc hz1 _) hg2 (by simp; omega) hg
  have htl : t.length ≤ 12 := by simp at ht; rcases ht with rfl | rfl | rfl | rfl | rfl | rfl <;> simp
  have hz2 := hb2.size
  have hlt2 := hc2.lt
  clear ht hc1 hb1 hg2
  go_wp2_with fail
  refine (l1PickInt_any g code _ [44, 10] _ (hc2.below ((Below.refl _ _).alloc (Nat.le_refl _) _)) (Rd1_lit (b := w2.heap.size) _ (heap_alloc_new w2 _) rfl rfl) (Apart_new hlt2) (by simp) (by simp)).mono ?_
  rintro e w3 ⟨y, rfl, hy, hc3, hg3⟩
  have hfin := below_cur (hb2.alloc hz2 _) hg3 (by simp; omega) hg
  have hy2 : ∃ c : UInt8, y = (c.toNat : Int) := by simp at hy; rcases hy with rfl | rfl; exact ⟨44, rfl⟩; exact ⟨10, rfl⟩
  obtain ⟨c, rfl⟩ := hy2
  have hcl : c.toNat < 256 := c.toNat_lt
  clear hy hc3 hg3 hb2 hc2
  go_wp2
  go_ret2
  exact ⟨t, c, rfl, htl, hfin⟩

set_option maxHeartbeats 1600000 in
theorem FnPartsBack_any (v : Value) (code : List UInt8) (w : World) (hr : Rd1 bv w v code) :
    Calls Try.prog 4 #[v] w fun e w' => e = .returned (.bool true) ∧ Below w.heap.size w w' := by
  have HR := Lib.hid hr
  have HB := Lib.hid (big_any v code w hr)
  clear hr
  by_cases hbig : code.length ≤ 1048576
  · have hq : ¬ (1048576 : Int) < (code.length : Int) := by omega
    go_enter Try.func4, Try.ntmps4
    go_wp2_with fail
    refine (HB.out).mono ?_
    rintro e w' ⟨rfl, rfl⟩
    go_wp2_with fail
    refine (DrawParts_any v code _ HR.out hbig).mono ?_
    rintro e w1 ⟨s, c, rfl, hs, b1⟩
    have HR1 := Lib.hid (HR.out.below b1)
    clear HR
    go_wp2_with fail
    refine (DrawUpper_any v code _ HR1.out hbig).mono ?_
    rintro e w2 ⟨t, rfl, ht, b2⟩
    have hb2 := b1.trans (b2.mono b1.size)
    have hsz : (ByteArray.mk s.toArray).size ≤ 1048576 := by show s.toArray.size ≤ _; simp; omega
    have htz : (ByteArray.mk t.toArray).size ≤ maxLen := by show t.toArray.size ≤ _; unfold maxLen; simp; omega
    have huz : (ByteArray.mk (upper t).toArray).size ≤ maxLen := by show (upper t).toArray.size ≤ _; unfold maxLen; simp [upper]; omega
    have hjoin := join_partsl c s
    have hpl := partsl_length c s
    have hpn : 0 < (partsl c s).length := List.length_pos_iff.2 (partsl_ne c s)
    have hps := szl_partsl c s
    have C1 := Lib.hid (fun W => implParts_any ⟨s.toArray⟩ c W hsz)
    have C2 := Lib.hid (fun W => specParts_any ⟨s.toArray⟩ c W hsz)
    rw [show (ByteArray.mk s.toArray).data.toList = s from rfl] at C1 C2
    have U1 := Lib.hid (fun W => implUpper_any ⟨t.toArray⟩ W htz)
    have U2 := Lib.hid (fun W => specUpper_any ⟨t.toArray⟩ W htz)
    have U3 := Lib.hid (fun W => implUpper_any ⟨(upper t).toArray⟩ W huz)
    rw [show (ByteArray.mk t.toArray).data.toList = t from rfl] at U1 U2
    rw [show (ByteArray.mk (upper t).toArray).data.toList = upper t from rfl, upper_upper] at U3
    have HJ := Lib.hid hjoin
    clear hjoin b1 b2 HR1 HB htz huz
    generalize partsl c s = l at *
    go_wp2_with fail
    refine (C1.out _).mono ?_
    rintro e w3 ⟨v3, rfl, o3, b3⟩
    have hb3 := hb2.trans (b3.mono hb2.size)
    obtain ⟨g3, c3, rfl, _, _⟩ := o3.form hpn
    have hc3 : l.length ≤ c3 := by
      rcases o3.2 with ⟨_, h⟩ | ⟨_, _, _, h, _, _, h2, _⟩
      · omega
      · injection h with _ _ h3; omega
    go_wp2_with fail
    refine (C2.out _).mono ?_
    rintro e w4 ⟨v4, rfl, o4, b4⟩
    have hb4 := hb3.trans (b4.mono hb3.size)
    have o34 := ownsRow_below o3 b4
    obtain ⟨g4, c4, rfl, _, _⟩ := o4.form hpn
    clear hb2 b3 hb3 b4 o3 o4 C1 C2
    have hcu : c.toNat < 256 := c.toNat_lt
    have hcv := fun W g hc => conv_back1 (P := Try.prog) 22 9 5 Try.underlying22 Try.underlying5 Try.underlying9 (c.toNat : Int) (by omega) (by omega) 1 W g hc
    go_wp2_with fail
    have o5 := o34.alloc (.cells #[Value.int .u8 (c.toNat : Int)] 5)
    refine (implJoined_any g3 c3 l [c] _ (own_cells o5) (o5.lt g3 rfl).2 hc3 (by omega) (by simp)).mono ?_
    rintro e w6 ⟨rfl, b6⟩
    rw [HJ.out]
    have hb6 := (hb4.alloc hb4.size _).trans (b6.mono (by have := hb4.size; simp; omega))
    clear o5 o34 hb4 b6 HJ hcv
    go_wp2_with fail
    refine (U1.out _).mono ?_
    rintro e w7 ⟨rfl, b7⟩
    have hb7 := hb6.trans (b7.mono hb6.size)
    go_wp2_with fail
    refine (U3.out _).mono ?_
    rintro e w8 ⟨rfl, b8⟩
    have hb8 := hb7.trans (b8.mono hb7.size)
    go_wp2_with fail
    refine (U1.out _).mono ?_
    rintro e w9 ⟨rfl, b9⟩
    have hb9 := hb8.trans (b9.mono hb8.size)
    clear hb6 b7 hb7 b8 hb8 b9
    go_wp2_with fail
    refine (U1.out _).mono ?_
    rintro e wa ⟨rfl, ba⟩
    have hba := hb9.trans (ba.mono hb9.size)
    go_wp2_with fail
    refine (U2.out _).mono ?_
    rintro e wb ⟨rfl, bb⟩
    have hbb := hba.trans (bb.mono hba.size)
    clear hb9 ba hba bb U1 U2 U3
    go_wp2
    go_ret
    exact ⟨rfl, hbb⟩
  · have hq : (1048576 : Int) < (code.length : Int) := by omega
    go_enter Try.func4, Try.ntmps4
    go_wp2_with fail
    refine (HB.out).mono ?_
    rintro e w' ⟨rfl, rfl⟩
    go_wp2
    go_ret
    exact ⟨rfl, Below.refl _ _⟩

end Go.Proofs.Ytnlopkbkdchfnaa
