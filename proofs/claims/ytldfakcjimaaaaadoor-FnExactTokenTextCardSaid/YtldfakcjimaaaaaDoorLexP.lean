/-
  Chapter 3's walks: the program's LineOf.
-/
import Derived.Test.YtldfakcjimaaaaaDoorLexO
import Derived.Test.YtldfakcjimaaaaaDoorLexL
namespace Go.Proofs.YtldfakcjimaaaaaDoor
open Go.RowKit

theorem sep_ns (o : Option Tok) (t : Tok) : sepL o t = if (nsB o && (t.kind != 4)) = true then [32] else [] := by
  cases o with
  | none => rfl
  | some a => rfl
theorem Bld.lt {B b : Nat} {l : List UInt8} {w : World} (h : Bld B b l w) : b < w.heap.size := by
  rcases h with h | h
  · exact h.lt
  · exact h.lt
theorem WriteBlank_any (B b : Nat) (l : List UInt8) (w : World) (h : Bld B b l w) (hl : l.length ≤ 1099511627776) (hB : B ≤ w.heap.size) :
    Calls Tryd.prog 26 #[.pointer (some ⟨b, 0, none⟩), .int .u8 32] w fun e w' => e = .returned .nilIface ∧ Bld B b (l ++ [32]) w' ∧ Below B w w' ∧ BldKept b w w' := WriteByte_any B b l 32 w h hl hB

set_option maxHeartbeats 3200000 in
theorem implLineOf_any : ImplLineOf := by
  intro v l w hr hl hx
  obtain ⟨p, c, rfl, hp⟩ := hr.ex
  have HP := Lib.hid hp
  have HX := Lib.hid hx
  have HB0 := Lib.hid (show Bld w.heap.size w.heap.size [] (w.alloc (.cells #[.pointer none, .slice none 0 0] 49)) from Lib.fresh_isBuilder _ _ w)
  clear hp hr hx
  go_enter Tryd.func9, Tryd.ntmps9
  go_wp2
  go_loopw [4, 10] (fun b i wr => ∃ (k : Nat) (acc : List UInt8) (ns : Bool), k ≤ l.length ∧ i = .int .i64 k ∧ b = .bool ns ∧ LnSt l k acc ∧ ns = nsB (if k = 0 then none else l[k - 1]?) ∧ Bld w.heap.size w.heap.size acc wr ∧ Below w.heap.size w wr) (fun _ i _ => l.length - (intOf i).toNat)
  case atStart => exact ⟨0, [], false, by omega, rfl, rfl, ⟨rfl, rfl, by simp⟩, rfl, HB0.out, (Below.refl _ _).alloc (Nat.le_refl _) _⟩
  case round =>
    obtain ⟨k, acc, ns, hk, rfl, rfl, hst, hns, hbld, hbr⟩ := hrel
    have hbr0 := hbr.size
    have hnl : acc.length ≤ 101 * 1048576 := by have := hst.2.2; omega
    have HS := Lib.hid hst
    have HNS := Lib.hid hns
    have hblt := hbld.lt
    clear hst HB0 hns
    by_cases hlt : k < l.length
    · obtain ⟨b, off, rfl, hb1, hcell⟩ := HP.out.resolve_left (by intro h; subst h; simp at hlt)
      obtain ⟨t, ht⟩ : ∃ t, l[k]? = some t := ⟨_, List.getElem?_eq_getElem hlt⟩
      have e1 : wr.cell? ⟨b, off + k * 2, none⟩ = some (.int .i64 t.kind) := (hbr.cell (p := ⟨b, off + k * 2, none⟩) hb1).trans (hcell k t ht 0 _ rfl)
      have e2 : wr.cell? ⟨b, off + k * 2 + 1, none⟩ = some (sv t.text) := (hbr.cell (p := ⟨b, off + k * 2 + 1, none⟩) hb1).trans (hcell k t ht 1 _ rfl)
      have hlast := last_take l k hk
      have HT := Lib.hid ht
      have c1 := fun W => implTokenText_any t W (HX.out t (List.mem_of_getElem? ht))
      have hle := tokText_le t
      have hbA : Below w.heap.size w (wr.alloc (.cells #[.int .i64 t.kind, sv t.text] 35)) := hbr.alloc hbr0 _
      have hbldA : Bld w.heap.size w.heap.size acc (wr.alloc (.cells #[.int .i64 t.kind, sv t.text] 35)) := hbld.keep ((Below.refl _ _).alloc (Nat.le_refl _) _)
      have hzA : (wr.alloc (.cells #[.int .i64 t.kind, sv t.text] 35)).heap.size = wr.heap.size + 1 := by simp
      have hblkA : (wr.alloc (.cells #[.int .i64 t.kind, sv t.text] 35)).heap[wr.heap.size]? = some (.cells #[.int .i64 t.kind, sv t.text] 35 (0, 0)) := heap_alloc_new wr _
      have HA := Lib.hid hblkA
      have HBA := Lib.hid hbldA
      have HZ := Lib.hid hzA
      clear hcell HP ht hblkA hbldA hzA hbld
      by_cases he : tokText t = []
      · have HV := Lib.hid (line_bad HT.out he)
        rw [he] at c1
        have C1 := Lib.hid c1
        clear c1 he hlast
        go_wp2_with fail
        refine (C1.out _).mono ?_
        rintro e w1 ⟨rfl, b1⟩
        have hb := hbA.trans (b1.mono (by rw [HZ.out]; omega))
        clear hbA b1
        go_wp2
        go_ret
        exact ⟨by rw [HV.out]; rfl, hb⟩
      · have HST := Lib.hid (HS.out.step HT.out he hlast)
        have C1 := Lib.hid c1
        have hqe : (tokText t).isEmpty = false := by cases hh : tokText t with | nil => exact absurd hh he | cons a r => rfl
        have hnx : nsB (if k + 1 = 0 then none else l[k + 1 - 1]?) = (t.kind != 3) := by rw [if_neg (by omega), Nat.add_sub_cancel, HT.out]; rfl
        have HNX := Lib.hid hnx
        clear c1 he hlast hnx
        generalize tokText t = tt at *
        rw [sep_ns] at HST
        rw [← HNS.out] at HST
        cases hsp : (ns && (t.kind != 4)) with
        | true =>
          rw [hsp, if_pos rfl] at HST
          obtain ⟨hs1, hs2⟩ := Bool.and_eq_true_iff.1 hsp
          subst hs1
          have CB := Lib.hid (fun W (h : Bld w.heap.size w.heap.size acc W) (hB : w.heap.size ≤ W.heap.size) => WriteBlank_any w.heap.size w.heap.size acc W h (by omega) hB)
          have CS := Lib.hid (fun W (h : Bld w.heap.size w.heap.size (acc ++ [32]) W) (hB : w.heap.size ≤ W.heap.size) => WriteString_any w.heap.size w.heap.size (acc ++ [32]) tt W h (by simp; omega) (by omega) hB)
          clear hsp
          go_wp2_with fail
          refine (C1.out _).mono ?_
          rintro e w1 ⟨rfl, b1⟩
          have hb := hbA.trans (b1.mono (by rw [HZ.out]; omega))
          have hbld1 := HBA.out.keep b1
          have hblk1 := (b1.block wr.heap.size (by rw [HZ.out]; omega)).trans HA.out
          have k1 : w1.cell? ⟨wr.heap.size, 0, none⟩ = some (.int .i64 t.kind) := (Lib.cell_of_heap hblk1 0).trans rfl
          have H1 := Lib.hid hblk1
          clear b1 C1 hbA HBA e1 e2 HA hblk1
          go_wp2_with fail
          refine (CB.out _ hbld1 hb.size).mono ?_
          rintro e w2 ⟨rfl, hbld2, b2, ap2⟩
          have hb2 := hb.trans b2
          clear hbld1 k1 b2 hb
          go_wp2_with fail
          refine (CS.out _ hbld2 hb2.size).mono ?_
          rintro e w3 ⟨rfl, hbld3, b3, ap3⟩
          have hb3 := hb2.trans b3
          have k3 : w3.cell? ⟨wr.heap.size, 0, none⟩ = some (.int .i64 t.kind) := ((ap2.trans ap3).cell (j := 0) H1.out (by decide) (by omega)).trans rfl
          clear hbld2 hb2 b3 ap2 ap3
          go_wp2
          go_roundw
          case rel => exact ⟨k + 1, acc ++ [32] ++ tt, t.kind != 3, by omega, by go_num, rfl, HST.out, HNX.out.symm, hbld3, hb3⟩
          case measure => simp [intOf]; omega
        | false =>
          rw [hsp, if_neg (by simp), List.append_nil] at HST
          have hor : ns = false ∨ (ns = true ∧ (t.kind != 4) = false) := by
            cases ns with
            | false => exact .inl rfl
            | true => exact .inr ⟨rfl, by simpa using hsp⟩
          have CS := Lib.hid (fun W (h : Bld w.heap.size w.heap.size acc W) (hB : w.heap.size ≤ W.heap.size) => WriteString_any w.heap.size w.heap.size acc tt W h (by omega) (by omega) hB)
          clear hsp
          rcases hor with rfl | ⟨rfl, hs2⟩
          all_goals
            go_wp2_with fail
            refine (C1.out _).mono ?_
            rintro e w1 ⟨rfl, b1⟩
            have hb := hbA.trans (b1.mono (by rw [HZ.out]; omega))
            have hbld1 := HBA.out.keep b1
            have hblk1 := (b1.block wr.heap.size (by rw [HZ.out]; omega)).trans HA.out
            have k1 : w1.cell? ⟨wr.heap.size, 0, none⟩ = some (.int .i64 t.kind) := (Lib.cell_of_heap hblk1 0).trans rfl
            have H1 := Lib.hid hblk1
            clear b1 C1 hbA HBA e1 e2 HA hblk1
            go_wp2_with fail
            refine (CS.out _ hbld1 hb.size).mono ?_
            rintro e w3 ⟨rfl, hbld3, b3, ap3⟩
            have hb3 := hb.trans b3
            have k3 : w3.cell? ⟨wr.heap.size, 0, none⟩ = some (.int .i64 t.kind) := (ap3.cell (j := 0) H1.out (by decide) (by omega)).trans rfl
            clear hbld1 hb b3 ap3 k1
            go_wp2
            go_roundw
            case rel => exact ⟨k + 1, acc ++ tt, t.kind != 3, by omega, by go_num, rfl, HST.out, HNX.out.symm, hbld3, hb3⟩
            case measure => simp [intOf]; omega
    · obtain rfl : k = l.length := by omega
      have hV : lineL l = acc := by
        have h1 := HS.out.1
        have h2 := HS.out.2.1
        rw [List.take_length] at h1 h2
        unfold lineL
        rw [if_pos h2, ← h1]
      have HV := Lib.hid hV
      have CT := Lib.hid (bldString_any w.heap.size w.heap.size acc wr hbld hbr0)
      clear hV hbld
      go_wp2_with fail
      refine (CT.out).mono ?_
      rintro e w2 ⟨rfl, b2⟩
      have hb2 := hbr.trans b2
      go_wp2
      go_ret
      exact ⟨by rw [HV.out]; rfl, hb2⟩

end Go.Proofs.YtldfakcjimaaaaaDoor
