/- Uf -/
import Derived.Laws.IdiomRangeMap
import Derived.Maps.RangeRun
import Derived.Test.YtmlgkoeacbeopaaGreatDoorUe
set_option maxHeartbeats 3200000
namespace Go.Proofs.YtmlgkoeacbeopaaGreatDoor
open Go.RowKit
theorem nh (s:ByteArray) (w:World) (hs:s.size≤maxLen):
 Calls Tryz.prog 49 #[.string s] w fun e w'=>e= .returned (.bool (jq s.data.toList))∧w=w':=by
 unfold maxLen at hs
 go_enter Tryz.func49,Tryz.ntmps49
 go_wp2
 go_loopw [3] (fun i wr=> ∃ k:Nat,k≤s.size∧i= .int .i64 k∧(s.data.toList.take k).all ra=true∧w=wr) (fun i _=>s.size - (intOf i).toNat)
 case atStart=>exact ⟨0,by omega,rfl,rfl,rfl⟩
 case round=>
  obtain ⟨k,hk,rfl,hall,rfl⟩:=hrel
  have HALL:=aa9 hall
  clear hall
  by_cases hlt:k < s.size
  · have hbn:s[k].toNat < 256:=s[k].toNat_lt
    have c1:=bI (s[k].toNat:Int) 97 122 w
    have c2:=bI (s[k].toNat:Int) 65 90 w
    have c3:=bI (s[k].toNat:Int) 48 57 w
    have hstep:ra s[k]=true→(s.data.toList.take (k+1)).all ra=true:=fun h=>by
     rw [hI s k hlt,List.all_append,HALL.out]
     simp [h]
    cases h1:inR s[k] 97 122 with
    | true=>
      have HN:=aa9 (hstep (by simp [ra,h1]))
      rw [show (decide ((97:Int)≤(s[k].toNat:Int)) && decide ((s[k].toNat:Int)≤122))=true from h1] at c1
      have C1:=aa9 c1
      clear c1 c2 c3 h1 hstep
      go_wp2_with fail
      refine (C1.out).mono ?_
      rintro e w1 ⟨rfl,rfl⟩
      go_wp2
      go_roundw
      case rel=>exact ⟨k+1,by omega,by go_num,HN.out,trivial⟩
      case measure=>simp [intOf];omega
    | false=>
      rw [show (decide ((97:Int)≤(s[k].toNat:Int)) && decide ((s[k].toNat:Int)≤122))=false from h1] at c1
      have C1:=aa9 c1
      cases h2:inR s[k] 65 90 with
      | true=>
        have HN:=aa9 (hstep (by simp [ra,h2]))
        rw [show (decide ((65:Int)≤(s[k].toNat:Int)) && decide ((s[k].toNat:Int)≤90))=true from h2] at c2
        have C2:=aa9 c2
        clear c1 c2 c3 h1 h2 hstep
        go_wp2_with fail
        refine (C1.out).mono ?_
        rintro e w1 ⟨rfl,rfl⟩
        go_wp2_with fail
        refine (C2.out).mono ?_
        rintro e w1 ⟨rfl,rfl⟩
        go_wp2
        go_roundw
        case rel=>exact ⟨k+1,by omega,by go_num,HN.out,trivial⟩
        case measure=>simp [intOf];omega
      | false=>
        rw [show (decide ((65:Int)≤(s[k].toNat:Int)) && decide ((s[k].toNat:Int)≤90))=false from h2] at c2
        have C2:=aa9 c2
        cases h3:inR s[k] 48 57 with
        | true=>
          have HN:=aa9 (hstep (by simp [ra,h3]))
          rw [show (decide ((48:Int)≤(s[k].toNat:Int)) && decide ((s[k].toNat:Int)≤57))=true from h3] at c3
          have C3:=aa9 c3
          clear c1 c2 c3 h1 h2 h3 hstep
          go_wp2_with fail
          refine (C1.out).mono ?_
          rintro e w1 ⟨rfl,rfl⟩
          go_wp2_with fail
          refine (C2.out).mono ?_
          rintro e w1 ⟨rfl,rfl⟩
          go_wp2_with fail
          refine (C3.out).mono ?_
          rintro e w1 ⟨rfl,rfl⟩
          go_wp2
          go_roundw
          case rel=>exact ⟨k+1,by omega,by go_num,HN.out,trivial⟩
          case measure=>simp [intOf];omega
        | false=>
          have HV:=aa9 (qb s k hlt (by simp [ra,h1,h2,h3]))
          rw [show (decide ((48:Int)≤(s[k].toNat:Int)) && decide ((s[k].toNat:Int)≤57))=false from h3] at c3
          have C3:=aa9 c3
          clear c1 c2 c3 h1 h2 h3 hstep
          go_wp2_with fail
          refine (C1.out).mono ?_
          rintro e w1 ⟨rfl,rfl⟩
          go_wp2_with fail
          refine (C2.out).mono ?_
          rintro e w1 ⟨rfl,rfl⟩
          go_wp2_with fail
          refine (C3.out).mono ?_
          rintro e w1 ⟨rfl,rfl⟩
          go_wp2
          go_ret
          exact ⟨by rw [HV.out];rfl,rfl⟩
  · obtain rfl:k=s.size:=by omega
    have HV:=aa9 (show jq s.data.toList=(decide ((1:Int)≤(s.size:Int)) && decide ((s.size:Int)≤8)) by
     have:=HALL.out
     rw [cj] at this
     unfold jq
     rw [this,dI]
     rfl)
    go_wp2_with fail
    refine (bI _ _ _ _).mono ?_
    rintro e w1 ⟨rfl,rfl⟩
    go_wp2
    go_ret
    exact ⟨by rw [HV.out];rfl,rfl⟩
set_option maxRecDepth 20000 in
theorem j0 (k:Int) (w:World):
 Calls Tryz.prog 61 #[.int .i64 k] w fun e w'=>e= .returned (sv (kdW k))∧Below w.heap.size w w':=by
 by_cases hk:1≤k∧k≤15
 · have hc:k=1∨k=2∨k=3∨k=4∨k=5∨k=6∨k=7∨k=8∨k=9∨k=10∨k=11∨k=12∨k=13∨k=14∨k=15:=by omega
   clear hk
   rcases hc with rfl | rfl | rfl | rfl | rfl | rfl | rfl | rfl | rfl | rfl | rfl | rfl | rfl | rfl | rfl
   all_goals
    go_enter Tryz.func61,Tryz.ntmps61
    go_wp2_with fail
    refine (bI _ _ _ _).mono ?_
    rintro e w1 ⟨rfl,rfl⟩
    go_wp2
    go_ret
    exact ⟨rfl,(Below.refl _ _).alloc (Nat.le_refl _) _⟩
 · have HV:=aa9 (wP hk)
   have hd:(decide ((1:Int)≤k) && decide (k≤15))=false:=by
    rw [Bool.and_eq_false_iff,decide_eq_false_iff_not,decide_eq_false_iff_not]
    omega
   have c1:=bI k 1 15 w
   rw [hd] at c1
   have C1:=aa9 c1
   clear c1 hd hk
   go_enter Tryz.func61,Tryz.ntmps61
   go_wp2_with fail
   refine (C1.out).mono ?_
   rintro e w1 ⟨rfl,rfl⟩
   go_wp2
   go_ret
   exact ⟨by rw [HV.out];rfl,Below.refl _ _⟩
theorem lZ {P:Program} {mty kt et:TypeId} (hm:P.underlying mty=some (.map kt et)) (hd:P.underlying kt=some .string) (w:World) (A:Array MapEntry) (n:Nat) (k:ByteArray) (v:Value)
 (hf:Instr.findNow .string (.string k) A.toList 0=some none):
 (Instr.mapUpdate mty (.map (some w.heap.size)) (.string k) v).run P (w.alloc (.map A n))= .ok () (w.alloc (.map (A.push ⟨.string k,v,n⟩) (n+1))):=by
 have hb:(w.alloc (.map A n)).heap[w.heap.size]? =some (.map A n):=heap_alloc_new w _
 have hk:MapKept.IsKey .string (.string k):=trivial
 simp [Instr.mapUpdate,run_underlying hm,MapKept.run_getObj_map hb,MapKept.run_checkKey hd hk,MapKept.run_findKey hd hf,MapKept.run_setObj_map _ hb,Result.andThen]
 have hp: ∀ (h:Array Obj) (x y:Obj),(h.push x).setIfInBounds h.size y=h.push y:=by
  intro h x y
  apply Array.toList_inj.1
  simp
 show ({ w.alloc (.map A n) with heap:=(w.heap.push (.map A n)).setIfInBounds w.heap.size _ } :World)=_
 rw [hp]
 rfl
section
variable {P:Program} (w:World) {ops:Array Oper} {rest:List Oper} {o:Oper} {a:Act} {Q:Exit→Act→World→Prop}
theorem jt (hg:o.guard=none) (mty kt et:TypeId) (m x y:Operand) (hop:o.op=Op.insert mty m x y) (hm:P.underlying mty=some (.map kt et)) (hd:P.underlying kt=some .string)
 (A:Array MapEntry) (n:Nat) (k:ByteArray) (v:Value) (hm':a.eval m= .map (some w.heap.size)) (hx:a.eval x= .string k) (hv:a.eval y=v)
 (hf:Instr.findNow .string (.string k) A.toList 0=some none)
 (hK:wpList P ops Q rest (a.put o.dst undef) (w.alloc (.map (A.push ⟨.string k,v,n⟩) (n+1)))):
 wpList P ops Q (o::rest) a (w.alloc (.map A n)):=by
 refine wpList_plain hg fun K' hK'=> ?_
 unfold Oper.wp
 simp [execOp,hop,hm',hx,hv,lZ hm hd w A n k v hf,Result.andThen]
 exact hK' _ _ hK
end
def aF (i:Nat):MapEntry:=⟨sv (tz.getD (i+1) []),.int .i64 ((i:Int)+1),i⟩
def ej:Array MapEntry:= #[aF 0,aF 1,aF 2,aF 3,aF 4,aF 5,aF 6,aF 7,aF 8,aF 9,aF 10,aF 11,aF 12,aF 13,aF 14]
theorem wQ: ∀ x∈ej.toList,∃ v:Int,x.val= .int .i64 v∧x.key=sv (kdW v)∧x.born < 15:=by
 intro x hx
 have h:x∈[aF 0,aF 1,aF 2,aF 3,aF 4,aF 5,aF 6,aF 7,aF 8,aF 9,aF 10,aF 11,aF 12,aF 13,aF 14]:=hx
 simp only [List.mem_cons,List.not_mem_nil,or_false] at h
 rcases h with rfl | rfl | rfl | rfl | rfl | rfl | rfl | rfl | rfl | rfl | rfl | rfl | rfl | rfl | rfl <;> exact ⟨_,rfl,rfl,by decide⟩
theorem tD:(ej.toList.map (·.born)).Nodup:=by
 show [0,1,2,3,4,5,6,7,8,9,10,11,12,13,14].Nodup
 decide
theorem zW {k:Int} (h: ∀ x∈ej.toList,¬valOf x.val=k):kdW k=[]:=by
 by_cases hk:1≤k∧k≤15
 · exfalso
   have hm: ∀ i,i < 15→aF i∈ej.toList:=by
    intro i hi
    have:ej.toList=(List.range 15).map aF:=rfl
    rw [this,List.mem_map]
    exact ⟨i,List.mem_range.2 hi,rfl⟩
   have:=h _ (hm (k.toNat - 1) (by omega))
   apply this
   show ((k.toNat - 1:Nat):Int)+1=k
   omega
 · exact wP hk
theorem l0 {w0 w:World} {B r:Nat} (h:Below B w0 w) (hr:B≤r) (o:Obj):Below B w0 (Go.ChangeMaps.setBlock w r o):=
 ⟨h.os,h.tape,h.output,by have:=h.size;simpa [Go.ChangeMaps.setBlock] using this,fun i hi=>by
  have:=h.block i hi
  rw [←this]
  simp only [Go.ChangeMaps.setBlock]
  rw [Array.getElem?_setIfInBounds_ne (by omega)]⟩
set_option maxRecDepth 20000 in
theorem j1 (w:World):Calls Tryz.prog 180 #[] w fun e w'=>e= .returned (.map (some w.heap.size))∧w'=w.alloc (.map ej 15):=by
 have hmm:= @run_makeMap Tryz.prog
 go_enter Tryz.func180,Tryz.ntmps180
 go_wp2_with (refine jt w rfl _ _ _ _ _ _ rfl Tryz.underlying191 Tryz.underlying9 _ _ _ _ rfl rfl rfl (by kernel_rfl) ?_)
 go_ret
 exact ⟨rfl,rfl⟩
def ye (r:Int):Bool:=(decide (97≤r) && decide (r≤122)) || (decide (65≤r) && decide (r≤90)) || (decide (48≤r) && decide (r≤57))
theorem tE {r:Int} (h:122 < r):ye r=false:=by
 unfold ye
 rw [decide_eq_false (show ¬r≤122 by omega),decide_eq_false (show ¬r≤90 by omega),decide_eq_false (show ¬r≤57 by omega)]
 simp
theorem oz (r:Int) (w:World):
 Calls Tryz.prog 105 #[.int .i32 r] w fun e w'=>e= .returned (.bool (ye r))∧w=w':=by
 have HV:=aa9 (show ye r=((decide (97≤r) && decide (r≤122)) || (decide (65≤r) && decide (r≤90)) || (decide (48≤r) && decide (r≤57))) from rfl)
 by_cases h1:97≤r <;> by_cases h2:r≤122 <;> by_cases h3:65≤r <;> by_cases h4:r≤90 <;> by_cases h5:48≤r <;> by_cases h6:r≤57
 all_goals first
  | (exfalso;omega)
  | (simp only [h1,h2,h3,h4,h5,h6,decide_true,decide_false] at HV
     go_enter Tryz.func105,Tryz.ntmps105
     go_wp2
     go_ret
     exact ⟨by rw [HV.out];rfl,rfl⟩)
theorem tF (b:UInt8):ye (b.toNat:Int)=ra b:=rfl
theorem vG (s:ByteArray) (h:s.data.toList.all ra=true):jq s.data.toList=(decide ((1:Int)≤(s.size:Int)) && decide ((s.size:Int)≤8)):=by
 unfold jq
 rw [h,dI]
 rfl
theorem jV (s:ByteArray) (w:World) (_hs:s.size≤maxLen):
 Calls Tryz.prog 40 #[.string s] w fun e w'=>e= .returned (.bool (jq s.data.toList))∧Below w.heap.size w w':=by
 unfold maxLen at _hs
 have hk0:(w.iter s 0).heap[w.heap.size]? =some (.stringIter s 0):=World.iter_heap w s 0
 have hb0:Below w.heap.size w (w.iter s 0):=(Below.refl _ w).alloc (Nat.le_refl _) _
 go_enter Tryz.func40,Tryz.ntmps40
 go_wp2
 go_loopw [2] (fun b wr=> ∃ pos:Nat,pos≤s.size∧b= .bool false∧wr.heap[w.heap.size]? =some (.stringIter s pos)∧(s.data.toList.take pos).all ra=true∧Below w.heap.size w wr)
  (fun _ wr=>s.size - wr.iterPos w.heap.size)
 case atStart=>exact ⟨0,Nat.zero_le _,rfl,hk0,rfl,hb0⟩
 case round=>
  obtain ⟨pos,hps,rfl,hk,hall,hbr⟩:=hrel
  have Hall:=aa9 hall
  clear hall hk0 hb0
  have hmu:=aa9 (cZ hk)
  by_cases hp:pos < s.size
  · have hbn:s[pos].toNat < 256:=s[pos].toNat_lt
    by_cases ha:s[pos].toNat < 128
    · have hnx: ∀ ty,(Instr.next (.pointer (some ⟨w.heap.size,0,none⟩)) true ty).run Tryz.prog wr=_:=fun ty=>Lib.run_next_ascii_at wr w.heap.size s pos ty hk hp ha
      have hk1:=aa9 (Lib.iterAt_heap wr w.heap.size s pos (pos+1) hk)
      have hb1:Below w.heap.size w (wr.iterAt w.heap.size s (pos+1)):=Lib.below_iterAt hbr (Nat.le_refl _) s (pos+1)
      clear hk hbr
      generalize wr.iterAt w.heap.size s (pos+1)=W1 at hnx hk1 hb1
      have hc:=fun W=>oz (s[pos].toNat:Int) W
      cases hd:ye (s[pos].toNat:Int) with
      | true=>
        have HA:=aa9 (mU ra s pos hp)
        have Hd:=aa9 hd
        rw [hd] at hc
        have HC:=aa9 hc
        clear hd hc
        go_wp2_with fail
        refine (HC.out _).mono ?_
        rintro e w' ⟨rfl,rfl⟩
        go_wp2
        go_roundw
        case rel=>exact ⟨pos+1,by omega,rfl,hk1.out,by rw [HA.out,Hall.out,←tF,Hd.out];rfl,hb1⟩
        case measure=>rw [hmu.out,cZ hk1.out];omega
      | false=>
        have HB:=aa9 (qb s pos hp hd)
        rw [hd] at hc
        have HC:=aa9 hc
        clear hd hc
        go_wp2_with fail
        refine (HC.out _).mono ?_
        rintro e w' ⟨rfl,rfl⟩
        go_wp2
        go_ret
        exact ⟨by rw [HB.out];rfl,hb1⟩
    · have hnx: ∀ ty,(Instr.next (.pointer (some ⟨w.heap.size,0,none⟩)) true ty).run Tryz.prog wr=_:=fun ty=>Lib.run_next_any_at wr w.heap.size s pos ty hk hp
      have hhi:=(decode_high s pos hp (by omega)).1
      have hb1:Below w.heap.size w (wr.iterAt w.heap.size s (pos+(Utf8.decode s pos).2)):=Lib.below_iterAt hbr (Nat.le_refl _) s _
      clear hk hbr
      generalize wr.iterAt w.heap.size s (pos+(Utf8.decode s pos).2)=W1 at hnx hb1
      generalize (Utf8.decode s pos).1=r at hnx hhi
      have hc:=fun W=>oz (r:Int) W
      rw [tE (by omega)] at hc
      have HC:=aa9 hc
      have HB:=aa9 (qb s pos hp (tE (by omega)))
      clear hc
      go_wp2_with fail
      refine (HC.out _).mono ?_
      rintro e w' ⟨rfl,rfl⟩
      go_wp2
      go_ret
      exact ⟨by rw [HB.out];rfl,hb1⟩
  · have hnx: ∀ ty,(Instr.next (.pointer (some ⟨w.heap.size,0,none⟩)) true ty).run Tryz.prog wr=_:=fun ty=>Lib.run_next_end_at wr w.heap.size s pos ty hk hp
    obtain rfl:pos=s.size:=by omega
    rw [cj] at Hall
    have HE:=aa9 (vG s Hall.out)
    clear Hall hk hmu
    by_cases h1:(1:Int)≤(s.size:Int)
    · by_cases h2:(s.size:Int)≤8
      · rw [show (decide ((1:Int)≤(s.size:Int)) && decide ((s.size:Int)≤8))=true by simp [h1,h2]] at HE
        go_wp2
        go_ret
        exact ⟨by rw [HE.out];rfl,hbr⟩
      · rw [show (decide ((1:Int)≤(s.size:Int)) && decide ((s.size:Int)≤8))=false by simp [h2]] at HE
        go_wp2
        go_ret
        exact ⟨by rw [HE.out];rfl,hbr⟩
    · rw [show (decide ((1:Int)≤(s.size:Int)) && decide ((s.size:Int)≤8))=false by simp [h1]] at HE
      go_wp2
      go_ret
      exact ⟨by rw [HE.out];rfl,hbr⟩
theorem vH {G:World→Prop} :tA G:=fun s W _ h=>jV s W (by unfold maxLen;omega)
end Go.Proofs.YtmlgkoeacbeopaaGreatDoor
