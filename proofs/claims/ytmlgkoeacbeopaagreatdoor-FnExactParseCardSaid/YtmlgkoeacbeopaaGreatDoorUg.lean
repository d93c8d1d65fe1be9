/- Ug -/
import Derived.Lib.LaidTab
import Derived.OpenShut
import Derived.WalkSmall
import Derived.ChangeKeysEq
import Derived.Test.YtmlgkoeacbeopaaGreatDoorUe
set_option maxHeartbeats 3200000
namespace Go.Proofs.YtmlgkoeacbeopaaGreatDoor
open Go.RowKit
theorem ba (k:Int) (w:World):Calls Tryz.prog 52 #[.int .i64 k] w fun e w'=>e= .returned (.bool (ar k))∧w=w':=by
 have HV:=aa9 (show ar k=(k==2 || k==11 || k==12 || k==13 || k==14 || k==10) from rfl)
 cases h1:(k==2) <;> cases h2:(k==11) <;> cases h3:(k==12) <;> cases h4:(k==13) <;> cases h5:(k==14)
 all_goals first
  | (exfalso;simp only [beq_iff_eq] at *;omega)
  | (rw [h1,h2,h3,h4,h5] at HV
     go_enter Tryz.func52,Tryz.ntmps52
     go_wp2
     go_ret
     exact ⟨by rw [HV.out];simp,rfl⟩)
theorem bu (k:Int) (w:World):Calls Tryz.prog 54 #[.int .i64 k] w fun e w'=>e= .returned (.bool (ay k))∧w=w':=by
 have HV:=aa9 (show ay k=(k==7 || k==8 || k==10) from rfl)
 cases h1:(k==7) <;> cases h2:(k==8)
 all_goals first
  | (exfalso;simp only [beq_iff_eq] at *;omega)
  | (rw [h1,h2] at HV
     go_enter Tryz.func54,Tryz.ntmps54
     go_wp2
     go_ret
     exact ⟨by rw [HV.out];simp,rfl⟩)
theorem qg (a b:Value) (l m:List Spn) (w:World) (ha:az w (am l) a) (hb:az w (am m) b) (hl:l.length≤140737488355328):
 Calls Tryz.prog 42 #[a,b] w fun e w'=>e= .returned (.bool (decide (l=m)))∧Below w.heap.size w w':=by
 obtain ⟨p,c1,rfl,hp⟩:=Spn.at ha
 obtain ⟨q,c2,rfl,hq⟩:=Spn.at hb
 clear ha hb
 have HP:=aa9 hp
 have HQ:=aa9 hq
 clear hp hq
 by_cases hlen:l.length=m.length
 · rw [←hlen]
   have HL:=aa9 hlen
   clear hlen
   go_enter Tryz.func42,Tryz.ntmps42
   go_wp2
   go_loopw [5] (fun i wr=> ∃ k:Nat,k≤l.length∧i= .int .i64 k∧l.take k=m.take k∧Below w.heap.size w wr) (fun i _=>l.length - (intOf i).toNat)
   case atStart=>exact ⟨0,by omega,rfl,rfl,Below.refl _ _⟩
   case round=>
    obtain ⟨k,hk,rfl,hall,hbr⟩:=hrel
    have Hall:=aa9 hall
    clear hall
    by_cases hlt:k < l.length
    · obtain ⟨b1,o1,rfl,hb1,hc1⟩:=HP.out.resolve_left (by intro h;subst h;simp at hlt)
      obtain ⟨b2,o2,rfl,hb2,hc2⟩:=HQ.out.resolve_left (by intro h;have hlen:=HL.out;rw [h] at hlen;simp at hlen;simp [hlen] at hlt)
      obtain ⟨x,hx⟩: ∃ x,l[k]? =some x:=⟨_,List.getElem?_eq_getElem hlt⟩
      obtain ⟨y,hy⟩: ∃ y,m[k]? =some y:=⟨_,List.getElem?_eq_getElem (by have:=HL.out;omega)⟩
      obtain ⟨x0,x1⟩:=hc1 k x hx
      obtain ⟨y0,y1⟩:=hc2 k y hy
      have e0:wr.drew.cell? ⟨b1,o1+k * 2,none⟩=some (.int .i64 x.low):=(hbr.cell (p:=⟨b1,o1+k * 2,none⟩) hb1).trans x0
      have e1:wr.drew.cell? ⟨b1,o1+k * 2+1,none⟩=some (.int .i64 x.high):=(hbr.cell (p:=⟨b1,o1+k * 2+1,none⟩) hb1).trans x1
      have f0:wr.drew.cell? ⟨b2,o2+k * 2,none⟩=some (.int .i64 y.low):=(hbr.cell (p:=⟨b2,o2+k * 2,none⟩) hb2).trans y0
      have f1:wr.drew.cell? ⟨b2,o2+k * 2+1,none⟩=some (.int .i64 y.high):=(hbr.cell (p:=⟨b2,o2+k * 2+1,none⟩) hb2).trans y1
      have hno:=aa9 (fun h:x ≠ y=>(decide_eq_false (cQ hx hy h):decide (l=m)=false))
      have hyes:=aa9 (fun h:x=y=>cc hx (by rw [hy,h]) Hall.out)
      clear hc1 hc2 hx hy Hall x0 x1 y0 y1
      cases h1:(x.low==y.low) with
      | false=>
        have HV:=aa9 (hno.out (by intro e;rw [e] at h1;simp at h1))
        clear hno hyes HP HQ HL
        go_wp2
        refine ah oL0 (fun W=>W.cell? ⟨b1,o1+k * 2,none⟩=some (.int .i64 x.low)∧W.cell? ⟨b1,o1+k * 2+1,none⟩=some (.int .i64 x.high)∧W.cell? ⟨b2,o2+k * 2,none⟩=some (.int .i64 y.low)∧W.cell? ⟨b2,o2+k * 2+1,none⟩=some (.int .i64 y.high)) (by kernel_rfl) (by kernel_rfl) rfl (by kernel_rfl) ?_
        intro ops' hops
        clear hops
        simp only [oL0,List.map_cons,List.map_nil,ae,ag]
        iterate 9 (refine aa ?_ (fun _ _ _ h=>h) rfl ?_ ⟨e0,e1,f0,f1⟩ ?_;rotate_left;focus (intro W hS;obtain ⟨s1,s2,s3,s4⟩:=hS;go_simp;rfl))
        refine ai ?_
        go_simp
        go_wp2
        go_ret
        exact ⟨by rw [HV.out];rfl,hbr.drew⟩
      | true=>
        cases h2:(x.high==y.high) with
        | false=>
          have HV:=aa9 (hno.out (by intro e;rw [e] at h2;simp at h2))
          clear hno hyes HP HQ HL
          go_wp2
          refine ah oL0 (fun W=>W.cell? ⟨b1,o1+k * 2,none⟩=some (.int .i64 x.low)∧W.cell? ⟨b1,o1+k * 2+1,none⟩=some (.int .i64 x.high)∧W.cell? ⟨b2,o2+k * 2,none⟩=some (.int .i64 y.low)∧W.cell? ⟨b2,o2+k * 2+1,none⟩=some (.int .i64 y.high)) (by kernel_rfl) (by kernel_rfl) rfl (by kernel_rfl) ?_
          intro ops' hops
          clear hops
          simp only [oL0,List.map_cons,List.map_nil,ae,ag]
          iterate 9 (refine aa ?_ (fun _ _ _ h=>h) rfl ?_ ⟨e0,e1,f0,f1⟩ ?_;rotate_left;focus (intro W hS;obtain ⟨s1,s2,s3,s4⟩:=hS;go_simp;rfl))
          refine ai ?_
          go_simp
          go_wp2
          go_ret
          exact ⟨by rw [HV.out];rfl,hbr.drew⟩
        | true=>
          have HN:=aa9 (hyes.out (by cases x;cases y;simp only [beq_iff_eq] at h1 h2;rw [h1,h2]))
          clear hno hyes
          go_wp2
          refine ah oL0 (fun W=>W.cell? ⟨b1,o1+k * 2,none⟩=some (.int .i64 x.low)∧W.cell? ⟨b1,o1+k * 2+1,none⟩=some (.int .i64 x.high)∧W.cell? ⟨b2,o2+k * 2,none⟩=some (.int .i64 y.low)∧W.cell? ⟨b2,o2+k * 2+1,none⟩=some (.int .i64 y.high)) (by kernel_rfl) (by kernel_rfl) rfl (by kernel_rfl) ?_
          intro ops' hops
          clear hops
          simp only [oL0,List.map_cons,List.map_nil,ae,ag]
          iterate 9 (refine aa ?_ (fun _ _ _ h=>h) rfl ?_ ⟨e0,e1,f0,f1⟩ ?_;rotate_left;focus (intro W hS;obtain ⟨s1,s2,s3,s4⟩:=hS;go_simp;rfl))
          refine ai ?_
          go_simp
          go_wp2
          go_roundw
          case rel=>exact ⟨k+1,by omega,by go_num,HN.out,hbr.drew⟩
          case measure=>simp [intOf];omega
    · obtain rfl:k=l.length:=by omega
      have HV:=aa9 (show decide (l=m)=true from decide_eq_true (by have:=Hall.out;rw [List.take_length,HL.out,List.take_length] at this;exact this))
      clear HL
      go_wp2
      go_ret
      exact ⟨by rw [HV.out];rfl,hbr⟩
 · have HV:=aa9 (show decide (l=m)=false from decide_eq_false (fun e=>hlen (by rw [e])))
   have hne:((l.length:Int)==(m.length:Int))=false:=cFalse (by omega)
   have hnn:=dm hne
   go_enter Tryz.func42,Tryz.ntmps42
   go_wp2
   go_ret
   exact ⟨by rw [HV.out];rfl,Below.refl _ _⟩
def opT (op:Int):List UInt8:=if op=1 then [43] else if op=2 then [45] else if op=3 then [61] else []
def lN (s:List UInt8):Option Int:=if s=[43] then some 1 else if s=[45] then some 2 else if s=[61] then some 3 else none
def opV (o:Option Int):Value:=match o with | some n=> .tuple #[.int .i64 n,.bool true] | none=> .tuple #[.int .i64 0,.bool false]
theorem gM (op:Int) (w:World):
 Calls Tryz.prog 94 #[.int .i64 op] w fun e w'=>e= .returned (sv (opT op))∧Below w.heap.size w w':=by
 have c1:=fun W=>bI op 1 3 W
 by_cases h:1≤op∧op≤3
 · rw [show (decide (1≤op) && decide (op≤3))=true by simp [h]] at c1
   have C1:=aa9 c1
   have hop:op=1∨op=2∨op=3:=by omega
   clear c1 h
   rcases hop with rfl | rfl | rfl
   all_goals
    go_enter Tryz.func94,Tryz.ntmps94
    go_wp2_with fail
    refine (C1.out _).mono ?_
    rintro e w1 ⟨rfl,rfl⟩
    go_wp2
    go_ret
    exact ⟨rfl,(Below.refl _ _).alloc (Nat.le_refl _) _⟩
 · rw [show (decide (1≤op) && decide (op≤3))=false by rw [←Bool.decide_and];exact decide_eq_false h] at c1
   have C1:=aa9 c1
   have HV:=aa9 (show opT op=[] by unfold opT;rw [if_neg (by omega),if_neg (by omega),if_neg (by omega)])
   clear c1 h
   go_enter Tryz.func94,Tryz.ntmps94
   go_wp2_with fail
   refine (C1.out _).mono ?_
   rintro e w1 ⟨rfl,rfl⟩
   go_wp2
   go_ret
   exact ⟨by rw [HV.out];rfl,Below.refl _ _⟩
def yG (s:List UInt8) (k:Nat):Prop:= ∀ j:Nat,1≤j→j < k→ ¬opT (j:Int)=s
theorem rc {s:List UInt8} {k:Nat} (h1:1≤k) (h3:k≤3) (h:opT (k:Int)=s):lN s=some (k:Int):=by
 have hk:k=1∨k=2∨k=3:=by omega
 rcases hk with rfl | rfl | rfl <;> (subst h;decide)
theorem tG {s:List UInt8} (h:yG s 4):lN s=none:=by
 have h1:=h 1 (by omega) (by omega)
 have h2:=h 2 (by omega) (by omega)
 have h3:=h 3 (by omega) (by omega)
 unfold lN
 rw [if_neg (fun e=>h1 (by rw [e];rfl)),if_neg (fun e=>h2 (by rw [e];rfl)),if_neg (fun e=>h3 (by rw [e];rfl))]
theorem l4 (s:List UInt8) (w:World):
 Calls Tryz.prog 117 #[sv s] w fun e w'=>e= .returned (opV (lN s))∧Below w.heap.size w w':=by
 go_enter Tryz.func117,Tryz.ntmps117
 go_wp2
 go_loopw [4] (fun i wr=> ∃ k:Nat,1≤k∧k≤4∧i= .int .i64 k∧yG s k∧Below w.heap.size w wr) (fun i _=>4 - (intOf i).toNat)
 case atStart=>exact ⟨1,by omega,by omega,rfl,fun j h1 h2=>by omega,Below.refl _ _⟩
 case round=>
  obtain ⟨k,hk1,hk,rfl,hto,hbr⟩:=hrel
  by_cases hlt:k≤3
  · have hlti:(k:Int)≤3:=by omega
    cases hs:(opT (k:Int)==s) with
    | true=>
      have HV:=aa9 (rc hk1 hlt (beq_iff_eq.1 hs))
      have d:=fun W=>gM (k:Int) W
      rw [beq_iff_eq.1 hs] at d
      have D:=aa9 d
      clear hto hs d
      go_wp2_with fail
      refine (D.out _).mono ?_
      rintro e w1 ⟨rfl,b1⟩
      have hb1:=hbr.trans (b1.mono hbr.size)
      go_wp2
      go_ret2
      exact ⟨by rw [HV.out];rfl,hb1⟩
    | false=>
      have HN:=aa9 (show yG s (k+1) from fun j h1 h2=>by
       by_cases h:j < k
       · exact hto j h1 h
       · obtain rfl:j=k:=by omega
         exact beq_eq_false_iff_ne.1 hs)
      have d:=fun W=>gM (k:Int) W
      generalize opT (k:Int)=q at *
      have D:=aa9 d
      clear hto d
      go_wp2_with fail
      refine (D.out _).mono ?_
      rintro e w1 ⟨rfl,b1⟩
      have hb1:=hbr.trans (b1.mono hbr.size)
      go_wp2
      go_roundw
      case rel=>exact ⟨k+1,by omega,by omega,by go_num,HN.out,hb1⟩
      case measure=>simp [intOf];omega
  · obtain rfl:k=4:=by omega
    have HV:=aa9 (tG hto)
    clear hto
    go_wp2
    go_ret2
    exact ⟨by rw [HV.out];rfl,hbr⟩
def ee (w:List UInt8):Nat→Nat
 | 0=>0
 | k+1=>if an w=an (dn k) then 2 ^ k else ee w k
def nP (w:List UInt8):Nat:=ee w 5
def rdF:Nat→List (List UInt8)→Option Nat
 | acc,[]=>some acc
 | acc,w::r=>if nP w=0∨acc &&& nP w ≠ 0 then none else rdF (acc ||| nP w) r
def rdV (o:Option Nat):Value:=match o with | some n=> .tuple #[.int .i64 (n:Int),.bool true] | none=> .tuple #[.int .i64 0,.bool false]
theorem fT (w:List UInt8): ∀ k,k≤5→ee w k≤16
 | 0,_=>by simp [ee]
 | k+1,h=>by
   unfold ee
   split
   · have:k=0∨k=1∨k=2∨k=3∨k=4:=by omega
     rcases this with rfl | rfl | rfl | rfl | rfl <;> decide
   · exact fT w k (by omega)
theorem tH (a b:Nat) (ha:a≤31) (hb:b≤16):bits .and .i64 (a:Int) (b:Int)=((a &&& b:Nat):Int):=by
 have h: ∀ a:Fin 32,∀ b:Fin 17,bits .and .i64 (a.val:Int) (b.val:Int)=((a.val &&& b.val:Nat):Int):=by decide+kernel
 exact h ⟨a,by omega⟩ ⟨b,by omega⟩
theorem wR (a b:Nat) (ha:a≤31) (hb:b≤16):bits .or .i64 (a:Int) (b:Int)=((a ||| b:Nat):Int)∧a ||| b≤31:=by
 have h: ∀ a:Fin 32,∀ b:Fin 17,bits .or .i64 (a.val:Int) (b.val:Int)=((a.val ||| b.val:Nat):Int)∧a.val ||| b.val≤31:=by decide+kernel
 exact h ⟨a,by omega⟩ ⟨b,by omega⟩
theorem re {acc:Nat} {l:List (List UInt8)} {k:Nat} {x:List UInt8} (h:l[k]? =some x):rdF acc (l.drop k)=if nP x=0∨acc &&& nP x ≠ 0 then none else rdF (acc ||| nP x) (l.drop (k+1)):=by
 obtain ⟨h1,h2⟩:=List.getElem?_eq_some_iff.1 h
 rw [List.drop_eq_getElem_cons h1,h2]
 rfl
set_option maxRecDepth 20000 in
theorem ju (v:Value) (l:List (List UInt8)) (w:World) (hr:Rd1 sv w v l) (hl:l.length≤1048576) (hx: ∀ x∈l,x.length≤1048576):
 Calls Tryz.prog 173 #[v] w fun e w'=>e= .returned (rdV (rdF 0 l))∧Below w.heap.size w w':=by
 obtain ⟨p,c,rfl,hp⟩:=hr.ex
 have HP:=aa9 hp
 have HX:=aa9 hx
 have h0:rdF 0 (l.drop 0)=rdF 0 l:=by rw [List.drop_zero]
 generalize rdF 0 l=R at *
 have H0:=aa9 h0
 have CW:=aa9 (fun W=>pZ W)
 clear hp hr hx h0
 go_enter Tryz.func173,Tryz.ntmps173
 go_wp2
 go_loopw [4,5] (fun b i wr=> ∃ (k acc:Nat),k≤l.length∧i= .int .i64 k∧b= .int .i64 acc∧acc≤31∧rdF acc (l.drop k)=R∧Below w.heap.size w wr) (fun _ i _=>l.length - (intOf i).toNat)
 case atStart=>exact ⟨0,0,by omega,rfl,rfl,by omega,H0.out,Below.refl _ _⟩
 case round=>
  obtain ⟨k,acc,hk,rfl,rfl,hacc,hst,hbr⟩:=hrel
  have HS:=aa9 hst
  have hbr0:=hbr.size
  clear hst H0
  by_cases hlt:k < l.length
  · obtain ⟨b,off,rfl,hb1,hcell⟩:=HP.out.resolve_left (by intro h;subst h;simp at hlt)
    obtain ⟨x,hx⟩: ∃ x,l[k]? =some x:=⟨_,List.getElem?_eq_getElem hlt⟩
    have hxl:=HX.out x (List.mem_of_getElem? hx)
    have hxz:(ByteArray.mk x.toArray).size≤maxLen:=by unfold maxLen;show x.toArray.size≤_;simp;omega
    have hcx:w.cell? ⟨b,off+k,none⟩=some (sv x):=hcell k x hx
    have HCX:=aa9 hcx
    have HST:=aa9 (HS.out ▸ (re (acc:=acc) hx))
    have CX:=aa9 (fun W=>bH ⟨x.toArray⟩ W hxz)
    rw [show (ByteArray.mk x.toArray).data.toList=x from rfl] at CX
    clear hcell HP hx hcx hxz
    go_wp2
    go_hide hQ
    go_loopw [6,7] (fun bt j wi=> ∃ (i:Nat),i≤5∧j= .int .i64 i∧bt= .int .i64 (ee x i:Nat)∧Below w.heap.size w wi) (fun _ j _=>5 - (intOf j).toNat)
    case atStart=>exact ⟨0,by omega,rfl,rfl,hbr⟩
    case round=>
     obtain ⟨i,hi,rfl,rfl,hbi⟩:=hrel
     have hbi0:=hbi.size
     by_cases hlt5:i < 5
     · have e1:wr.cell? ⟨b,off+k,none⟩=some (sv x):=(hbi.cell (p:=⟨b,off+k,none⟩) hb1).trans HCX.out
       have hfl:=ng i
       have CF:=aa9 (fun W=>bH ⟨(dn i).toArray⟩ W (by unfold maxLen;show (dn i).toArray.size≤_;simp;omega))
       rw [show (ByteArray.mk (dn i).toArray).data.toList=dn i from rfl] at CF
       have hstep:ee x (i+1)=if an x=an (dn i) then 2 ^ i else ee x i:=rfl
       have hble:=fT x i (by omega)
       generalize hbw:ee x i=bw at *
       clear hbw
       cases hup:(an x==an (dn i)) with
       | true=>
         rw [if_pos (beq_iff_eq.1 hup)] at hstep
         have HN:=aa9 hstep
         clear hstep
         go_wp2_with fail
         refine (CX.out _).mono ?_
         rintro e w2 ⟨rfl,b2⟩
         have hb2:=hbi.trans (b2.mono hbi0)
         go_wp2_with fail
         refine (CW.out _).mono ?_
         rintro e w3 ⟨rfl,hw3⟩
         have q:=oq hw3 i hlt5
         have b3:Below w2.heap.size w2 w3:=by rw [hw3];exact (Below.refl _ _).alloc (Nat.le_refl _) _
         have hb3:=hb2.trans (b3.mono hb2.size)
         clear hw3 b2 b3 hb2 e1
         go_wp2_with fail
         refine (CF.out _).mono ?_
         rintro e w4 ⟨rfl,b4⟩
         have hb4:=hb3.trans (b4.mono hb3.size)
         clear b4 hb3 q
         have hz:ee x (i+1)=2 ^ i:=HN.out
         clear HN hfl
         have h5:i=0∨i=1∨i=2∨i=3∨i=4:=by omega
         rcases h5 with rfl | rfl | rfl | rfl | rfl
         · go_wp2
           go_roundw
           case rel=>exact ⟨1,by omega,rfl,by rw [hz];rfl,hb4⟩
           case measure=>simp [intOf]
         · go_wp2
           go_roundw
           case rel=>exact ⟨2,by omega,rfl,by rw [hz];rfl,hb4⟩
           case measure=>simp [intOf]
         · go_wp2
           go_roundw
           case rel=>exact ⟨3,by omega,rfl,by rw [hz];rfl,hb4⟩
           case measure=>simp [intOf]
         · go_wp2
           go_roundw
           case rel=>exact ⟨4,by omega,rfl,by rw [hz];rfl,hb4⟩
           case measure=>simp [intOf]
         · go_wp2
           go_roundw
           case rel=>exact ⟨5,by omega,rfl,by rw [hz];rfl,hb4⟩
           case measure=>simp [intOf]
       | false=>
         rw [if_neg (beq_eq_false_iff_ne.1 hup)] at hstep
         have HN:=aa9 hstep
         clear hstep
         go_wp2_with fail
         refine (CX.out _).mono ?_
         rintro e w2 ⟨rfl,b2⟩
         have hb2:=hbi.trans (b2.mono hbi0)
         go_wp2_with fail
         refine (CW.out _).mono ?_
         rintro e w3 ⟨rfl,hw3⟩
         have q:=oq hw3 i hlt5
         have b3:Below w2.heap.size w2 w3:=by rw [hw3];exact (Below.refl _ _).alloc (Nat.le_refl _) _
         have hb3:=hb2.trans (b3.mono hb2.size)
         clear hw3 b2 b3 hb2 e1
         go_wp2_with fail
         refine (CF.out _).mono ?_
         rintro e w4 ⟨rfl,b4⟩
         have hb4:=hb3.trans (b4.mono hb3.size)
         clear b4 hb3 q
         go_wp2
         go_roundw
         case rel=>exact ⟨i+1,by omega,by go_num,by rw [HN.out],hb4⟩
         case measure=>simp [intOf];omega
     · obtain rfl:i=5:=by omega
       have hble:=fT x 5 (by omega)
       have hst:=HST.out
       unfold nP at hst
       generalize ee x 5=bw at *
       clear HST HX
       cases h0:((bw:Int)==0) with
       | true=>
         have HV:=aa9 (show R=none by rw [hst,if_pos (.inl (by have:=beq_iff_eq.1 h0;omega))])
         clear hst HS
         go_wp2
         subst hQ
         go_wp2
         go_ret2
         exact ⟨by rw [HV.out];rfl,hbi⟩
       | false=>
         have hand:=tH acc bw hacc hble
         obtain ⟨hor,hor31⟩:=wR acc bw hacc hble
         have hne0: ¬bw=0:=fun e=>by rw [e] at h0;cases h0
         cases h1:(((acc &&& bw:Nat):Int)==0) with
         | true=>
           have h1n:(((acc &&& bw:Nat):Int) != 0)=false:=by simp only [bne,h1];rfl
           have HN:=aa9 (show rdF (acc ||| bw) (l.drop (k+1))=R by rw [hst,if_neg (by rintro (e | e);exact hne0 e;exact e (by have:=beq_iff_eq.1 h1;omega))])
           clear hst HS hne0
           go_wp2
           subst hQ
           go_wp2
           go_roundw
           case rel=>exact ⟨k+1,acc ||| bw,by omega,by go_num,rfl,hor31,HN.out,hbi⟩
           case measure=>simp [intOf];omega
         | false=>
           have h1n:(((acc &&& bw:Nat):Int) != 0)=true:=by simp only [bne,h1];rfl
           have HV:=aa9 (show R=none by rw [hst,if_pos (.inr (fun e=>by rw [e] at h1;cases h1))])
           clear hst HS hne0
           go_wp2
           subst hQ
           go_wp2
           go_ret2
           exact ⟨by rw [HV.out];rfl,hbi⟩
  · obtain rfl:k=l.length:=by omega
    have HV:=aa9 (show R=some acc by rw [←HS.out,List.drop_length];rfl)
    clear HS
    go_wp2
    go_ret2
    exact ⟨by rw [HV.out];rfl,hbr⟩
def qh {H:Type} (l:List (List UInt8)):DataW H:= .agg (l.map fun s=> .lit (.string s))
def jW (P:Program) (w:World) (name:String) (l:List (List UInt8)):Prop:=w.var? P name=some (l.map sv).toArray
theorem oA {H:Type} {enc:TypeId×Value→H} {P:Program} {w:World} {base:Nat} {sp:Nat→Bool} {held:Bool} {fuel:Nat} {t e:TypeId} {n:Nat} {cs:List Value} {l:List (List UInt8)} {p:List MemPlace}
 (ht:P.underlying t=some (.array n e)) (he:P.underlying e=some .string) (hce:P.cellsOf e=1) (hct:P.cellsOf t=n)
 (h:DataW.trod enc P w base sp held fuel t cs=some (qh l,p)):cs=l.map sv:=by
 obtain ⟨xs,m,rfl,hx,hl,hn,hi⟩:=DataW.trod_array ht h
 have hxs:xs.map (·.1)=l.map fun s=>(DataW.lit (.string s):DataW H):=by
  have:=congrArg Prod.fst hx
  simpa [qh] using this.symm
 have hll:l.length=n:=by have:=congrArg List.length hxs;simp at this;omega
 apply List.ext_getElem?
 intro i
 by_cases hlt:i < n
 · have h1:=hi i hlt
   obtain ⟨x,hx⟩: ∃ x,xs[i]? =some x:=⟨_,List.getElem?_eq_getElem (by omega)⟩
   rw [hx] at h1
   obtain ⟨s,hc,rfl,_⟩:=DataW.trod_string he h1
   have h2:cs[i]? =some (.string s):=by
    have:=congrArg (·[0]?) hc
    simpa [hce,List.getElem?_take,List.getElem?_drop] using this
   have h3:(xs.map (·.1))[i]? =some (DataW.lit (.string s.data.toList):DataW H):=by simp [hx]
   rw [hxs] at h3
   simp only [List.getElem?_map,Option.map_eq_some_iff,DataW.lit.injEq,Lit.string.injEq] at h3
   obtain ⟨y,hy,rfl⟩:=h3
   rw [h2,List.getElem?_map,hy]
   simp [mN]
 · rw [List.getElem?_eq_none (by omega),List.getElem?_eq_none (by simp;omega)]
theorem dC {P:Program} {W:World} {name:String} {l:List (List UInt8)} {rest:List (String×DataW Unit)} {g:Nat} {t e:TypeId} {n:Nat}
 (hg:P.globalNamed name=some g) (hty:(P.globals[g]?).map (·.type)=some t) (ht:P.underlying t=some (.array n e)) (he:P.underlying e=some .string) (hce:P.cellsOf e=1) (hct:P.cellsOf t=n)
 (h:laidMet P ((name,qh l)::rest) W):jW P W name l:=by
 obtain ⟨ps,⟨g',t',cs,fuel,p,q,hg',ht',hvar,hd,_,_⟩,_⟩:=h
 obtain rfl:=Option.some.inj (hg.symm.trans hg')
 obtain rfl:=Option.some.inj (hty.symm.trans ht')
 unfold jW
 rw [hvar,←oA ht he hce hct hd]
theorem jW.cell {P:Program} {W:World} {name:String} {l:List (List UInt8)} {g:Nat} (h:jW P W name l) (hg:P.globalNamed name=some g) (i:Nat) (hi:i < l.length):
 W.cell? ⟨g,i,none⟩=some (sv (l.getD i [])):=by
 have:=World.var?_cell hg h i
 simpa [List.getD,hi] using this
theorem gN {P:Program} (w:World) {t e:TypeId} {n:Nat} {cs:Array Value} {k:IntKind} {i:Int} {v:Value} (h:P.underlying t=some (.array n e)) (he:P.underlying e=some .string) (h1:P.cellsOf e=1) (hs:(P.info? e).isSome=true)
 (h0:0≤i) (hi:i < n) (hv:cs[i.toNat]? =some v):(Instr.index t (.agg cs) (.int k i)).run P w= .ok v w:=by
 obtain ⟨j,hj⟩:=Option.isSome_iff_exists.1 hs
 simp [Instr.index,run_underlying h,asIntOf,h0,hi,go_sem,run_underlying he,run_sizeOf _ hj,isAgg,h1,hv]
theorem gO (n:Int) (w:World):
 Calls Tryz.prog 101 #[.int .i64 n] w fun e w'=>e= .returned (.bool (flB n))∧w=w':=by
 have hg:=aa9 (show flB n=(decide (0≤n) && decide (n≤31)) from rfl)
 go_enter Tryz.func101,Tryz.ntmps101
 cases h1:decide (0≤n) with
 | true=>
   have h1:0≤n:=of_decide_eq_true h1
   cases h2:decide (n≤31) with
   | true=>
     have h2:n≤31:=of_decide_eq_true h2
     go_wp2
     go_ret
     exact ⟨by rw [hg.out];simp [h1,h2],rfl⟩
   | false=>
     have h2: ¬n≤31:=of_decide_eq_false h2
     go_wp2
     go_ret
     exact ⟨by rw [hg.out];simp;omega,rfl⟩
 | false=>
   have h1: ¬0≤n:=of_decide_eq_false h1
   go_wp2
   go_ret
   exact ⟨by rw [hg.out];simp;omega,rfl⟩
theorem iG (op:Int) (w:World):
 Calls Tryz.prog 103 #[.int .i64 op] w fun e w'=>e= .returned (sv (opT op))∧w=w':=by
 have HV:=aa9 (show opT op=if op=1 then [43] else if op=2 then [45] else if op=3 then [61] else [] from rfl)
 generalize opT op=R at *
 go_enter Tryz.func103,Tryz.ntmps103
 cases g1:(op==1) with
 | true=>
   have hv:R=[43]:=by rw [HV.out,if_pos (beq_iff_eq.1 g1)]
   subst hv
   go_wp2
   go_ret
   exact ⟨rfl,rfl⟩
 | false=>
   cases g2:(op==2) with
   | true=>
     have hv:R=[45]:=by rw [HV.out,if_neg (beq_eq_false_iff_ne.1 g1),if_pos (beq_iff_eq.1 g2)]
     subst hv
     go_wp2
     go_ret
     exact ⟨rfl,rfl⟩
   | false=>
     cases g3:(op==3) with
     | true=>
       have hv:R=[61]:=by rw [HV.out,if_neg (beq_eq_false_iff_ne.1 g1),if_neg (beq_eq_false_iff_ne.1 g2),if_pos (beq_iff_eq.1 g3)]
       subst hv
       go_wp2
       go_ret
       exact ⟨rfl,rfl⟩
     | false=>
       have hv:R=[]:=by rw [HV.out,if_neg (beq_eq_false_iff_ne.1 g1),if_neg (beq_eq_false_iff_ne.1 g2),if_neg (beq_eq_false_iff_ne.1 g3)]
       subst hv
       go_wp2
       go_ret
       exact ⟨rfl,rfl⟩
theorem ni (s:List UInt8) (w:World):
 Calls Tryz.prog 184 #[sv s] w fun e w'=>e= .returned (opV (lN s))∧w=w':=by
 have C:=aa9 (fun op W=>iG op W)
 go_enter Tryz.func184,Tryz.ntmps184
 go_wp2
 go_loopw [4] (fun i wr=> ∃ (k:Nat),1≤k∧k≤4∧i= .int .i64 k∧yG s k∧wr=w) (fun i _=>4 - (intOf i).toNat)
 case atStart=>exact ⟨1,by omega,by omega,rfl,fun j h1 h2=>by omega,rfl⟩
 case round=>
  obtain ⟨k,h1k,hk,rfl,hto,rfl⟩:=hrel
  by_cases hlt:k≤3
  · have c:=fun W=>C.out (k:Int) W
    generalize hop:opT (k:Int)=t at c
    have C1:=aa9 c
    clear C c
    cases he:(t==s) with
    | true=>
      have heq:t=s:=beq_iff_eq.1 he
      have HV:=aa9 (rc h1k (by omega) (hop.trans heq))
      subst heq
      clear hto hop
      go_wp2_with fail
      refine (C1.out _).mono ?_
      rintro e w1 ⟨rfl,rfl⟩
      go_wp2
      go_ret2
      exact ⟨by rw [HV.out];rfl,rfl⟩
    | false=>
      have hne: ¬t=s:=beq_eq_false_iff_ne.1 he
      have HN:=aa9 (show yG s (k+1) from fun j h1 h2=>by
       by_cases hj:j < k
       · exact hto j h1 hj
       · obtain rfl:j=k:=by omega
         rw [hop];exact hne)
      clear hto hop
      go_wp2_with fail
      refine (C1.out _).mono ?_
      rintro e w1 ⟨rfl,rfl⟩
      go_wp2
      go_roundw
      case rel=>exact ⟨k+1,by omega,by omega,by go_num,HN.out,trivial⟩
      case measure=>simp [intOf];omega
  · obtain rfl:k=4:=by omega
    have HV:=aa9 (tG hto)
    clear hto
    go_wp2
    go_ret2
    exact ⟨by rw [HV.out];rfl,rfl⟩
theorem gFw:Tryz.prog.globalNamed "loop.example/g00501/impl.flagWords" =some 2:=by kernel_rfl
theorem tI:(Tryz.prog.globals[2]?).map (·.type)=some 199:=by kernel_rfl
theorem nj:Tryz.prog.underlying 199=some (.array 5 9):=by kernel_rfl
theorem tJ:Tryz.prog.cellsOf 9=1:=by kernel_rfl
theorem rh:Tryz.prog.cellsOf 199=5:=by kernel_rfl
structure Fw (w:World):Prop where
 tab:jW Tryz.prog w "loop.example/g00501/impl.flagWords" flW
 lt:2 < w.heap.size
theorem Fw.of_laid {w:World} (h:jW Tryz.prog w "loop.example/g00501/impl.flagWords" flW):Fw w:=
 ⟨h,World.block_lt_of_cell? w _ (h.cell gFw 0 (by decide))⟩
theorem Fw.below {w w':World} (h:Fw w) (hb:Below w.heap.size w w'):Fw w':=
 ⟨var?_below hb gFw h.lt h.tab,Nat.lt_of_lt_of_le h.lt hb.size⟩
theorem tK (k:Nat) (hk:k < 5) (W:World):(Instr.index 199 (.agg #[sv (dn 0),sv (dn 1),sv (dn 2),sv (dn 3),sv (dn 4)]) (.int .i64 (k:Int))).run Tryz.prog W= .ok (sv (dn k)) W:=
 gN W nj Tryz.underlying9 tJ (by kernel_rfl) (by omega) (by omega) (by
  have h5:k=0∨k=1∨k=2∨k=3∨k=4:=by omega
  rcases h5 with rfl | rfl | rfl | rfl | rfl <;> rfl)
abbrev fwV:Value:= .agg #[sv (dn 0),sv (dn 1),sv (dn 2),sv (dn 3),sv (dn 4)]
theorem yH:(∀ W,(Instr.index 199 fwV (.int .i64 0)).run Tryz.prog W= .ok (sv (dn 0)) W)∧(∀ W,(Instr.index 199 fwV (.int .i64 1)).run Tryz.prog W= .ok (sv (dn 1)) W)∧(∀ W,(Instr.index 199 fwV (.int .i64 2)).run Tryz.prog W= .ok (sv (dn 2)) W)∧(∀ W,(Instr.index 199 fwV (.int .i64 3)).run Tryz.prog W= .ok (sv (dn 3)) W)∧(∀ W,(Instr.index 199 fwV (.int .i64 4)).run Tryz.prog W= .ok (sv (dn 4)) W):=
 ⟨fun W=>tK 0 (by omega) W,fun W=>tK 1 (by omega) W,fun W=>tK 2 (by omega) W,fun W=>tK 3 (by omega) W,fun W=>tK 4 (by omega) W⟩
theorem Fw.cells {w:World} (h:Fw w):w.cell? ⟨2,0,none⟩=some (sv (dn 0))∧w.cell? ⟨2,1,none⟩=some (sv (dn 1))∧w.cell? ⟨2,2,none⟩=some (sv (dn 2))∧w.cell? ⟨2,3,none⟩=some (sv (dn 3))∧w.cell? ⟨2,4,none⟩=some (sv (dn 4)):=
 ⟨h.tab.cell gFw 0 (by decide),h.tab.cell gFw 1 (by decide),h.tab.cell gFw 2 (by decide),h.tab.cell gFw 3 (by decide),h.tab.cell gFw 4 (by decide)⟩
theorem kV {x:List UInt8} : ∀ k,(∀ j,j < k→ ¬an x=an (dn j))→ee x k=0
 | 0,_=>rfl
 | k+1,h=>by
   unfold ee
   rw [if_neg (h k (by omega))]
   exact kV k fun j hj=>h j (by omega)
theorem rU: ∀ i:Fin 5,∀ j:Fin 5,an (dn i.val)=an (dn j.val)→i=j:=by decide+kernel
theorem rV {x:List UInt8} {k:Nat} (hk:k < 5) (h:an x=an (dn k)):nP x=2 ^ k:=by
 have hi: ∀ n,n≤5→k < n→ee x n=2 ^ k:=by
  intro n
  induction n with
  | zero=>intro _ h;omega
  | succ n ih=>
    intro hn hkn
    unfold ee
    by_cases he:an x=an (dn n)
    · have:=rU ⟨k,hk⟩ ⟨n,by omega⟩ (h.symm.trans he)
      have:k=n:=congrArg Fin.val this
      rw [if_pos he,this]
    · rw [if_neg he]
      exact ih (by omega) (by
       by_cases hkn':k=n
       · subst hkn';exact absurd h he
       · omega)
 exact hi 5 (by omega) hk
theorem nk (x:List UInt8) (w:World) (hF:Fw w) (hx:x.length≤1048576):
 Calls Tryz.prog 210 #[sv x] w fun e w'=>e= .returned (.int .i64 (nP x:Nat))∧Below w.heap.size w w':=by
 have CX:=aa9 (fun W=>cG ⟨x.toArray⟩ W (by unfold maxLen;show x.toArray.size≤_;simp;omega))
 rw [show (ByteArray.mk x.toArray).data.toList=x from rfl] at CX
 have HF:=aa9 hF
 clear hF
 go_enter Tryz.func210,Tryz.ntmps210
 go_wp2_with fail
 refine (CX.out _).mono ?_
 rintro e w1 ⟨rfl,b1⟩
 obtain ⟨q0,q1,q2,q3,q4⟩:=(HF.out.below b1).cells
 have b1s:=b1.size
 go_wp2
 clear q0 q1 q2 q3 q4 CX HF
 go_loopw [8] (fun i wr=> ∃ (k:Nat),k≤5∧i= .int .i64 k∧(∀ j,j < k→ ¬an x=an (dn j))∧Below w.heap.size w wr) (fun i _=>5 - (intOf i).toNat)
 case atStart=>exact ⟨0,by omega,rfl,fun j h=>by omega,b1⟩
 case round=>
  obtain ⟨k,hk,rfl,hno,hbr⟩:=hrel
  have hbr0:=hbr.size
  by_cases hlt:k < 5
  · have CF:=aa9 (fun W=>cG ⟨(dn k).toArray⟩ W (by have:=ng k;unfold maxLen;show (dn k).toArray.size≤_;simp;omega))
    rw [show (ByteArray.mk (dn k).toArray).data.toList=dn k from rfl] at CF
    have h5:k=0∨k=1∨k=2∨k=3∨k=4:=by omega
    obtain ⟨i0,i1,i2,i3,i4⟩:=yH
    cases hup:(an x==an (dn k)) with
    | true=>
      have HV:=aa9 (rV hlt (beq_iff_eq.1 hup))
      clear hno
      rcases h5 with rfl | rfl | rfl | rfl | rfl
      all_goals
       go_wp2_with fail
       refine (CF.out _).mono ?_
       rintro e w2 ⟨rfl,b2⟩
       have hb2:=hbr.trans (b2.mono hbr0)
       go_wp2
       go_ret
       exact ⟨by rw [HV.out];rfl,hb2⟩
    | false=>
      have HN:=aa9 (show ∀ j,j < k+1→ ¬an x=an (dn j) from fun j hj=>by
       by_cases h:j < k
       · exact hno j h
       · obtain rfl:j=k:=by omega
         exact beq_eq_false_iff_ne.1 hup)
      obtain ⟨k1,hk1⟩: ∃ k1,k1=k+1:=⟨_,rfl⟩
      rw [←hk1] at HN
      have HK:=aa9 hk1
      clear hno hk1
      rcases h5 with rfl | rfl | rfl | rfl | rfl
      all_goals
       go_wp2_with fail
       refine (CF.out _).mono ?_
       rintro e w2 ⟨rfl,b2⟩
       have hb2:=hbr.trans (b2.mono hbr0)
       go_wp2
       go_roundw
       case rel=>exact ⟨k1,by have:=HK.out;omega,by rw [HK.out];rfl,HN.out,hb2⟩
       case measure=>simp [intOf]
  · obtain rfl:k=5:=by omega
    have HV:=aa9 (show nP x=0 from kV 5 hno)
    clear hno
    go_wp2
    go_ret
    exact ⟨by rw [HV.out];rfl,hbr⟩
set_option maxRecDepth 20000 in
theorem j2 (v:Value) (l:List (List UInt8)) (w:World) (hF:Fw w) (hr:Rd1 sv w v l) (hl:l.length≤1048576) (hx: ∀ x∈l,x.length≤1048576):
 Calls Tryz.prog 182 #[v] w fun e w'=>e= .returned (rdV (rdF 0 l))∧Below w.heap.size w w':=by
 obtain ⟨p,c,rfl,hp⟩:=hr.ex
 have HP:=aa9 hp
 have HX:=aa9 hx
 have h0:rdF 0 (l.drop 0)=rdF 0 l:=by rw [List.drop_zero]
 generalize rdF 0 l=R at *
 have H0:=aa9 h0
 have HF:=aa9 hF
 clear hp hr hx h0 hF
 go_enter Tryz.func182,Tryz.ntmps182
 go_wp2
 go_loopw [4,10] (fun b i wr=> ∃ (k acc:Nat),k≤l.length∧i= .int .i64 k∧b= .int .i64 acc∧acc≤31∧rdF acc (l.drop k)=R∧Below w.heap.size w wr) (fun _ i _=>l.length - (intOf i).toNat)
 case atStart=>exact ⟨0,0,by omega,rfl,rfl,by omega,H0.out,Below.refl _ _⟩
 case round=>
  obtain ⟨k,acc,hk,rfl,rfl,hacc,hst,hbr⟩:=hrel
  have HS:=aa9 hst
  have hbr0:=hbr.size
  clear hst H0
  by_cases hlt:k < l.length
  · obtain ⟨b,off,rfl,hb1,hcell⟩:=HP.out.resolve_left (by intro h;subst h;simp at hlt)
    obtain ⟨x,hx⟩: ∃ x,l[k]? =some x:=⟨_,List.getElem?_eq_getElem hlt⟩
    have hxl:=HX.out x (List.mem_of_getElem? hx)
    have e1:wr.cell? ⟨b,off+k,none⟩=some (sv x):=(hbr.cell (p:=⟨b,off+k,none⟩) hb1).trans (hcell k x hx)
    have hst:=HS.out ▸ (re (acc:=acc) hx)
    have CN:=aa9 (nk x wr (HF.out.below hbr) hxl)
    have hble:nP x≤16:=fT x 5 (by omega)
    generalize nP x=bw at *
    clear hcell HP hx
    cases h0:((bw:Int)==0) with
    | true=>
      have HV:=aa9 (show R=none by rw [hst,if_pos (.inl (by have:=beq_iff_eq.1 h0;omega))])
      clear hst HS
      go_wp2_with fail
      refine (CN.out).mono ?_
      rintro e w2 ⟨rfl,b2⟩
      have hb2:=hbr.trans (b2.mono hbr0)
      go_wp2
      go_ret2
      exact ⟨by rw [HV.out];rfl,hb2⟩
    | false=>
      have hand:=tH acc bw hacc hble
      obtain ⟨hor,hor31⟩:=wR acc bw hacc hble
      have hne0: ¬bw=0:=fun e=>by rw [e] at h0;cases h0
      cases h1:(((acc &&& bw:Nat):Int)==0) with
      | true=>
        have h1n:(((acc &&& bw:Nat):Int) != 0)=false:=by simp only [bne,h1];rfl
        have HN:=aa9 (show rdF (acc ||| bw) (l.drop (k+1))=R by rw [hst,if_neg (by rintro (e | e);exact hne0 e;exact e (by have:=beq_iff_eq.1 h1;omega))])
        clear hst HS hne0
        go_wp2_with fail
        refine (CN.out).mono ?_
        rintro e w2 ⟨rfl,b2⟩
        have hb2:=hbr.trans (b2.mono hbr0)
        go_wp2
        go_roundw
        case rel=>exact ⟨k+1,acc ||| bw,by omega,by go_num,rfl,hor31,HN.out,hb2⟩
        case measure=>simp [intOf];omega
      | false=>
        have h1n:(((acc &&& bw:Nat):Int) != 0)=true:=by simp only [bne,h1];rfl
        have HV:=aa9 (show R=none by rw [hst,if_pos (.inr (fun e=>by rw [e] at h1;cases h1))])
        clear hst HS hne0
        go_wp2_with fail
        refine (CN.out).mono ?_
        rintro e w2 ⟨rfl,b2⟩
        have hb2:=hbr.trans (b2.mono hbr0)
        go_wp2
        go_ret2
        exact ⟨by rw [HV.out];rfl,hb2⟩
  · obtain rfl:k=l.length:=by omega
    have HV:=aa9 (show R=some acc by rw [←HS.out,List.drop_length];rfl)
    clear HS
    go_wp2
    go_ret2
    exact ⟨by rw [HV.out];rfl,hbr⟩
end Go.Proofs.YtmlgkoeacbeopaaGreatDoor
