/- Ut -/
import Derived.Lib.AppendIntMem
import Derived.Test.YtmlgkoeacbeopaaGreatDoorUs
set_option maxHeartbeats 6400000
namespace Go.Proofs.YtmlgkoeacbeopaaGreatDoor
open Go.RowKit
def oL17 : List (Nat × Bool) := [(0, true), (1, true), (2, true), (3, true), (4, true), (5, true), (6, true), (7, true), (8, true), (9, true), (10, true), (11, true), (12, true), (13, true), (14, true), (15, true), (16, true), (17, true), (18, true), (19, true), (20, true), (21, true), (22, true), (23, true)]
def oL16 : List (Nat × Bool) := [(1, true), (5, true), (6, true), (7, true), (8, true), (0, false), (2, true), (3, false), (4, false), (9, false), (10, true)]
def evW (j:Nat):List UInt8:=da.getD j []
def cu (w:List UInt8):Nat→Int
 | 0=> -1
 | j+1=>if an (evW j)=an w then (j:Int) else cu w j
def orB (b:Int) (k:Int):Int:=bits .or .i64 b (2 ^ k.toNat:Nat)
def dp:Int→Int→List (List UInt8)→Option Int
 | _,b,[]=>some b
 | last,b,w::r=>if cu w 4≤last then none else dp (cu w 4) (orB b (cu w 4)) r
def yV (o:Option Int):Value:=match o with | some b=> .tuple #[.int .i64 b,.bool true] | none=> .tuple #[.int .i64 0,.bool false]
theorem v7 (o:Option Int):yV o= .tuple #[.int .i64 (o.getD 0),.bool o.isSome]:=by cases o <;> rfl
theorem lj (w:List UInt8): ∀ k,-1≤cu w k∧cu w k < (k:Int)
 | 0=>by simp [cu]
 | k+1=>by
   have:=lj w k
   unfold cu
   split <;> omega
theorem tX (j:Nat):(evW j).length≤5:=by
 match j with
 | 0=>decide
 | 1=>decide
 | 2=>decide
 | 3=>decide
 | n+4=>simp [evW,da]
theorem jG {last b:Int} {l:List (List UInt8)} {k:Nat} {x:List UInt8} (h:l[k]? =some x):dp last b (l.drop k)=if cu x 4≤last then none else dp (cu x 4) (orB b (cu x 4)) (l.drop (k+1)):=by
 obtain ⟨h1,h2⟩:=List.getElem?_eq_some_iff.1 h
 rw [List.drop_eq_getElem_cons h1,h2]
 rfl
set_option maxRecDepth 20000 in
theorem r9 (v:Value) (l:List (List UInt8)) (w:World) (hr:Rd1 sv w v l) (hl:l.length≤140737488355328) (hx: ∀ x∈l,x.length≤9223372036854775807):
 Calls Tryz.prog 175 #[v] w fun e w'=>e= .returned (yV (dp (-1) 0 l))∧Below w.heap.size w w':=by
 obtain ⟨p,c,rfl,hp⟩:=hr.ex
 have HP:=aa9 hp
 have HX:=aa9 hx
 have h0:dp (-1) 0 (l.drop 0)=dp (-1) 0 l:=by rw [List.drop_zero]
 generalize dp (-1) 0 l=R at *
 have H0:=aa9 h0
 clear hp hr hx h0
 go_enter Tryz.func175,Tryz.ntmps175
 go_wp2
 go_loopg [4,5,6] l.length (fun gk b la i wr=> ∃ (k:Nat) (bi li:Int),k≤l.length∧gk=l.length - k∧i= .int .i64 k∧b= .int .i64 bi∧la= .int .i64 li∧ -1≤li∧li≤3∧dp li bi (l.drop k)=R∧Below w.heap.size w wr)
 case atStart=>exact ⟨0,0,-1,by omega,rfl,rfl,rfl,rfl,by omega,by omega,H0.out,Below.refl _ _⟩
 case round=>
  obtain ⟨k,bi,li,hk,rfl,rfl,rfl,rfl,hli1,hli3,hst,hbr⟩:=hrel
  have HS:=aa9 hst
  have hbr0:=hbr.size
  clear hst H0
  by_cases hlt:k < l.length
  · obtain ⟨b,off,rfl,hb1,hcell⟩:=HP.out.resolve_left (by intro h;subst h;simp at hlt)
    obtain ⟨x,hx⟩: ∃ x,l[k]? =some x:=⟨_,List.getElem?_eq_getElem hlt⟩
    have hxl:=HX.out x (List.mem_of_getElem? hx)
    have hxz:(ByteArray.mk x.toArray).size≤maxLen:=by unfold maxLen;show x.toArray.size≤_;simp;omega
    have HCX:=aa9 (show w.cell? ⟨b,off+k,none⟩=some (sv x) from hcell k x hx)
    have HST:=aa9 (HS.out ▸ (jG (last:=li) (b:=bi) hx))
    have CX:=aa9 (fun W=>bH ⟨x.toArray⟩ W hxz)
    rw [show (ByteArray.mk x.toArray).data.toList=x from rfl] at CX
    have hev:=lj x 4
    clear hcell HP hx hxz hxl HS
    go_wp2
    go_loopg [7,8] 4 (fun gi kt j wi=> ∃ (i:Nat),i≤4∧gi=4 - i∧j= .int .i64 i∧kt= .int .i64 (cu x i)∧Below w.heap.size w wi)
    case atStart=>exact ⟨0,by omega,rfl,rfl,rfl,hbr⟩
    case round=>
     obtain ⟨i,hi,rfl,rfl,rfl,hbi⟩:=hrel
     have hbi0:=hbi.size
     by_cases hlt4:i < 4
     · have f1:wr.drew.cell? ⟨b,off+k,none⟩=some (sv x):=(hbi.cell (p:=⟨b,off+k,none⟩) hb1).trans HCX.out
       have hbw:b < wr.heap.size:=Nat.lt_of_lt_of_le hb1 hbi0
       have hfl:=tX i
       have CF:=aa9 (fun W=>bH ⟨(evW i).toArray⟩ W (by unfold maxLen;show (evW i).toArray.size≤_;simp;omega))
       rw [show (ByteArray.mk (evW i).toArray).data.toList=evW i from rfl] at CF
       have hstep:cu x (i+1)=if an (evW i)=an x then (i:Int) else cu x i:=rfl
       have HE:=aa9 (show da[i]? =some (evW i) by unfold evW;rw [List.getD_eq_getElem?_getD,List.getElem?_eq_getElem (show i < da.length by simpa [da] using hlt4)];rfl)
       generalize hbw:cu x i=bw at *
       clear hbw
       cases hup:(an (evW i)==an x) with
       | true=>
         rw [if_pos (beq_iff_eq.1 hup)] at hstep
         have HN:=aa9 hstep
         clear hstep
         go_wp2
         refine ah oL16 (fun W=>W.cell? ⟨b,off+k,none⟩=some (sv x)) (by kernel_rfl) (by kernel_rfl) rfl (by kernel_rfl) ?_
         intro ops' hops
         clear hops
         simp only [oL16,List.map_cons,List.map_nil,ae,ag]
         iterate 5 (refine aa ?_ (fun _ _ _ h=>h) rfl ?_ f1 ?_;rotate_left;focus (intro _ _;go_simp;rfl))
         refine al rfl ?_
         go_simp
         refine (jX _).mono ?_
         rintro e w2 ⟨rfl,hw2,hz2,b2⟩
         have hb2:=hbi.drew.trans (b2.mono hbi0)
         have f2:w2.cell? ⟨b,off+k,none⟩=some (sv x):=(b2.cell (p:=⟨b,off+k,none⟩) (by show b < wr.heap.size;omega)).trans f1
         have q2:w2.cell? ⟨wr.heap.size,i,none⟩=some (sv (evW i)):=hw2 i _ HE.out
         have hbw2:b < w2.heap.size:=Nat.lt_of_lt_of_le hb1 hb2.size
         refine ⟨f2,?_⟩
         clear f1 b2 hw2
         refine aa (.pointer (some ⟨wr.heap.size,i,none⟩)) (fun _ _ _ h=>h) rfl ?_ f2 ?_
         · intro W hS
           go_simp
           try (intro h;omega)
         refine al rfl ?_
         go_simp
         refine al rfl ?_
         go_simp
         refine (CF.out _).mono ?_
         rintro e w3 ⟨rfl,b3⟩
         have hb3:=hb2.trans (b3.mono hb2.size)
         have f3:w3.cell? ⟨b,off+k,none⟩=some (sv x):=(b3.cell (p:=⟨b,off+k,none⟩) hbw2).trans f2
         have hbw3:b < w3.heap.size:=Nat.lt_of_lt_of_le hb1 hb3.size
         refine ⟨f3,?_⟩
         clear f2 b3 q2
         refine al rfl ?_
         go_simp
         refine (CX.out _).mono ?_
         rintro e w4 ⟨rfl,b4⟩
         have hb4:=hb3.trans (b4.mono hb3.size)
         have f4:w4.cell? ⟨b,off+k,none⟩=some (sv x):=(b4.cell (p:=⟨b,off+k,none⟩) hbw3).trans f3
         refine ⟨f4,?_⟩
         clear f3 b4
         iterate 1 (refine aa ?_ (fun _ _ _ h=>h) rfl ?_ f4 ?_;rotate_left;focus (intro _ _;go_simp;rfl))
         refine ai ?_
         go_simp
         go_wp2
         go_roundg (4 - (i+1))
         case measure=>omega
         case rel=>exact ⟨i+1,by omega,rfl,by go_num,by rw [HN.out],hb4⟩
       | false=>
         rw [if_neg (fun h=>by rw [h] at hup;simp at hup)] at hstep
         have HN:=aa9 hstep
         clear hstep
         go_wp2
         refine ah oL16 (fun W=>W.cell? ⟨b,off+k,none⟩=some (sv x)) (by kernel_rfl) (by kernel_rfl) rfl (by kernel_rfl) ?_
         intro ops' hops
         clear hops
         simp only [oL16,List.map_cons,List.map_nil,ae,ag]
         iterate 5 (refine aa ?_ (fun _ _ _ h=>h) rfl ?_ f1 ?_;rotate_left;focus (intro _ _;go_simp;rfl))
         refine al rfl ?_
         go_simp
         refine (jX _).mono ?_
         rintro e w2 ⟨rfl,hw2,hz2,b2⟩
         have hb2:=hbi.drew.trans (b2.mono hbi0)
         have f2:w2.cell? ⟨b,off+k,none⟩=some (sv x):=(b2.cell (p:=⟨b,off+k,none⟩) (by show b < wr.heap.size;omega)).trans f1
         have q2:w2.cell? ⟨wr.heap.size,i,none⟩=some (sv (evW i)):=hw2 i _ HE.out
         have hbw2:b < w2.heap.size:=Nat.lt_of_lt_of_le hb1 hb2.size
         refine ⟨f2,?_⟩
         clear f1 b2 hw2
         refine aa (.pointer (some ⟨wr.heap.size,i,none⟩)) (fun _ _ _ h=>h) rfl ?_ f2 ?_
         · intro W hS
           go_simp
           try (intro h;omega)
         refine al rfl ?_
         go_simp
         refine al rfl ?_
         go_simp
         refine (CF.out _).mono ?_
         rintro e w3 ⟨rfl,b3⟩
         have hb3:=hb2.trans (b3.mono hb2.size)
         have f3:w3.cell? ⟨b,off+k,none⟩=some (sv x):=(b3.cell (p:=⟨b,off+k,none⟩) hbw2).trans f2
         have hbw3:b < w3.heap.size:=Nat.lt_of_lt_of_le hb1 hb3.size
         refine ⟨f3,?_⟩
         clear f2 b3 q2
         refine al rfl ?_
         go_simp
         refine (CX.out _).mono ?_
         rintro e w4 ⟨rfl,b4⟩
         have hb4:=hb3.trans (b4.mono hb3.size)
         have f4:w4.cell? ⟨b,off+k,none⟩=some (sv x):=(b4.cell (p:=⟨b,off+k,none⟩) hbw3).trans f3
         refine ⟨f4,?_⟩
         clear f3 b4
         iterate 1 (refine aa ?_ (fun _ _ _ h=>h) rfl ?_ f4 ?_;rotate_left;focus (intro _ _;go_simp;rfl))
         refine ai ?_
         go_simp
         go_wp2
         go_roundg (4 - (i+1))
         case measure=>omega
         case rel=>exact ⟨i+1,by omega,rfl,by go_num,by rw [HN.out],hb4⟩
     · obtain rfl:i=4:=by omega
       clear CX HCX
       generalize cu x 4=ev at *
       by_cases hle:ev≤li
       · have HV:=aa9 (show R=none by rw [HST.out,if_pos hle])
         clear HST
         go_wp2
         go_ret2
         exact ⟨by rw [HV.out];rfl,hbi⟩
       · have HV:=aa9 (show dp ev (orB bi ev) (l.drop (k+1))=R by rw [HST.out,if_neg hle])
         clear HST
         have hev4:ev=0∨ev=1∨ev=2∨ev=3:=by omega
         rcases hev4 with rfl | rfl | rfl | rfl
         all_goals
          go_wp2
          go_roundg (l.length - (k+1))
          case measure=>omega
          case rel=>exact ⟨k+1,_,_,by omega,rfl,by go_num,rfl,rfl,by omega,by omega,HV.out,hbi⟩
  · obtain rfl:k=l.length:=by omega
    rw [List.drop_length] at HS
    have HV:=aa9 (show R=some bi from HS.out.symm)
    clear HS
    go_wp2
    go_ret2
    exact ⟨by rw [HV.out];rfl,hbr⟩
def aq (kind:Int):List Tok→Option (List UInt8×List Tok)
 | []=>none
 | t::r=>if t.kind=kind∧(kind=1∨t.text=[]) then some (t.text,r) else none
def fE (t:Tok):Bool:=t.kind==1
def bc (r:List Tok):Option (List (List UInt8)×List Tok):=
 (aq 3 r).bind fun q=>(aq 4 (q.2.dropWhile fE)).bind fun z=>some ((q.2.takeWhile fE).map (·.text),z.2)
structure aK {α:Type} (P:List Tok→Option (α×List Tok)) (l:List Tok) (at_:Nat) (bad:Bool) (x:α) (at':Nat) (bad':Bool):Prop where
 yes:bad'=false→bad=false∧P (l.drop at_)=some (x,l.drop at')
 no:bad=false→bad'=true→P (l.drop at_)=none
 le:at'≤l.length
theorem aK.bind {α β:Type} {P:List Tok→Option (α×List Tok)} {Q:α→List Tok→Option (β×List Tok)} {l:List Tok} {a0 a1 a2:Nat} {b0 b1 b2:Bool} {x:α} {y:β} (h:aK P l a0 b0 x a1 b1) (k:aK (Q x) l a1 b1 y a2 b2):
 aK (fun r=>(P r).bind fun q=>Q q.1 q.2) l a0 b0 y a2 b2 where
 yes hb:=by
  obtain ⟨h1,h2⟩:=k.yes hb
  obtain ⟨h3,h4⟩:=h.yes h1
  exact ⟨h3,by rw [h4];exact h2⟩
 no h0 hb:=by
  cases hb1:b1 with
  | true=>rw [h.no h0 hb1];rfl
  | false=>rw [(h.yes hb1).2];exact k.no hb1 hb
 le:=k.le
theorem jH (l:List Tok) (at_:Nat) (kind:Int):aq kind (l.drop at_)=(iM l at_ kind).map fun x=>(x,l.drop (at_+1)):=by
 unfold iM
 cases h:l[at_]? with
 | none=>
   rw [List.drop_of_length_le (by simpa using h)]
   rfl
 | some t=>
   obtain ⟨h1,h2⟩:=List.getElem?_eq_some_iff.1 h
   rw [List.drop_eq_getElem_cons h1,h2]
   simp only [aq]
   split <;> rfl
theorem tY {w w1 w2:World} {r1 r2:Option Nat} (h:w.grownBy w1 r1) (k:w1.grownBy w2 r2) (hr: ∀ j,r2=some j→w.heap.size≤j):w.grownBy w2 r1:=
 ⟨k.os.trans h.os,k.tape.trans h.tape,k.output.trans h.output,Nat.le_trans h.size k.size,fun j hj hne=>(k.block j (Nat.lt_of_lt_of_le hj h.size) (fun e=>by have:=hr j e.symm;omega)).trans (h.block j hj hne)⟩
theorem nH {w w':World} {B m n g:Nat} {e:TypeId} {v:Value} {xs:List Value} (h:w.ownsRow B e m v n xs) (hg:w.grownBy w' (some g)) (hB:g < B):w'.ownsRow B e m v n xs:=
 ig h (fun k hk=>hg.block k (h.lt k hk).2 (fun e=>by have:=(h.lt k hk).1;injection e with e;omega))
theorem In6.lt {W:World} {g cap at_:Nat} {p:Option Addr} {l:List Tok} {bad:Bool} (h:In6 W g p l cap at_ bad):g < W.heap.size:=(Array.getElem?_eq_some_iff.1 h.blk).1
theorem In6.keep {W W':World} {g cap at_:Nat} {p:Option Addr} {l:List Tok} {bad:Bool} (h:In6 W g p l cap at_ bad) (hb: ∀ k,k≤g→W'.heap[k]? =W.heap[k]?):In6 W' g p l cap at_ bad:=
 ⟨(hb g (Nat.le_refl _)).trans h.blk,h.rd.imp id fun ⟨b,off,hp,hlt,hc⟩=>⟨b,off,hp,hlt,fun i t ht=>by
   obtain ⟨h1,h2⟩:=hc i t ht
   have e:=hb b (Nat.le_of_lt hlt)
   exact ⟨(World.cell?_of_block (a:=⟨b,off+i * 2,none⟩) e).trans h1,(World.cell?_of_block (a:=⟨b,off+i * 2+1,none⟩) e).trans h2⟩⟩⟩
theorem In6.below {W W':World} {g cap at_:Nat} {p:Option Addr} {l:List Tok} {bad:Bool} (h:In6 W g p l cap at_ bad) (hb:Below W.heap.size W W'):In6 W' g p l cap at_ bad:=
 h.keep fun k hk=>hb.block k (by have:=h.lt;omega)
theorem In6.grown {W W':World} {g cap at_:Nat} {p:Option Addr} {l:List Tok} {bad:Bool} {row:Option Nat} (h:In6 W g p l cap at_ bad) (hg:W.grownBy W' row) (hr: ∀ k,row=some k→g < k):In6 W' g p l cap at_ bad:=
 h.keep fun k hk=>hg.block k (by have:=h.lt;omega) (fun e=>by have:=hr k e.symm;omega)
theorem bU (g cap at_:Nat) (p:Option Addr) (l:List Tok) (bad:Bool) (kind:Int) (W:World) (h:In6 W g p l cap at_ bad) (hl:l.length≤140737488355328) (ha:at_≤l.length):
 Calls Tryz.prog 59 #[.pointer (some ⟨g,0,none⟩),.int .i64 kind] W fun e w'=> ∃ x at' bad',e= .returned (sv x)∧In6 w' g p l cap at' bad'∧W.grownBy w' (some g)∧aK (aq kind) l at_ bad x at' bad'∧(x=[]∨ ∃ t∈l,x=t.text):=by
 refine (jy g cap at_ p l bad kind W h hl ha).mono ?_
 rintro e w' ⟨hg,⟨x,hx,rfl,hi⟩ | ⟨hx,rfl,hi⟩⟩
 · have hm:x=[]∨ ∃ t∈l,x=t.text:=by
    unfold iM at hx
    split at hx
    · rename_i t ht
      split at hx
      · injection hx with hx
        exact .inr ⟨t,List.mem_of_getElem? ht,hx.symm⟩
      · cases hx
    · cases hx
   have hlt:at_ < l.length:=by
    rcases Nat.lt_or_ge at_ l.length with h | h
    · exact h
    · unfold iM at hx;rw [List.getElem?_eq_none h] at hx;cases hx
   refine ⟨x,at_+1,bad,rfl,hi,hg,⟨fun hb=>⟨hb,?_⟩,fun h0 h1=> ?_,by omega⟩,hm⟩
   · rw [jH,hx];rfl
   · rw [h0] at h1;cases h1
 · refine ⟨[],at_,true,rfl,hi,hg,⟨fun hb=>(by cases hb),fun _ _=> ?_,ha⟩,.inl rfl⟩
   rw [jH,hx];rfl
theorem we {l:List Tok} {a:Nat} {t:Tok} (h:l[a]? =some t) (hk:t.kind=1):iM l a 1=some t.text:=by
 unfold iM
 rw [h]
 exact if_pos ⟨hk,.inl rfl⟩
theorem xC {l:List Tok} {a:Nat} {t:Tok} (h:l[a]? =some t) (hk:fE t=false):(l.drop a).takeWhile fE=[]∧(l.drop a).dropWhile fE=l.drop a:=by
 obtain ⟨h1,h2⟩:=List.getElem?_eq_some_iff.1 h
 rw [List.drop_eq_getElem_cons h1,h2,List.takeWhile_cons_of_neg (by rw [hk];simp),List.dropWhile_cons_of_neg (by rw [hk];simp)]
 exact ⟨rfl,rfl⟩
theorem tZ {l:List Tok} {a:Nat} {t:Tok} (h:l[a]? =some t) (hk:fE t=true):(l.drop a).takeWhile fE=t::(l.drop (a+1)).takeWhile fE∧(l.drop a).dropWhile fE=(l.drop (a+1)).dropWhile fE:=by
 obtain ⟨h1,h2⟩:=List.getElem?_eq_some_iff.1 h
 rw [List.drop_eq_getElem_cons h1,h2,List.takeWhile_cons_of_pos hk,List.dropWhile_cons_of_pos hk]
 exact ⟨rfl,rfl⟩
theorem mw {l:List Tok} {a0 a1 a a4:Nat} {b0 b1 b4:Bool} {x1 x4:List UInt8} {xs:List (List UInt8)} (h1:aK (aq 3) l a0 b0 x1 a1 b1) (h4:aK (aq 4) l a b1 x4 a4 b4) (htw:((l.drop a1).takeWhile fE).map (·.text)=xs) (hdw:(l.drop a1).dropWhile fE=l.drop a):aK bc l a0 b0 xs a4 b4 where
 yes hb:=by
  obtain ⟨e1,e2⟩:=h4.yes hb
  obtain ⟨e3,e4⟩:=h1.yes e1
  refine ⟨e3,?_⟩
  unfold bc
  rw [e4]
  simp only [Option.bind_some,hdw,htw,e2]
 no e0 hb:=by
  unfold bc
  cases hb1:b1 with
  | true=>rw [h1.no e0 hb1];rfl
  | false=>
    rw [(h1.yes hb1).2]
    simp only [Option.bind_some,hdw,h4.no hb1 hb,Option.bind_none]
 le:=h4.le
set_option maxRecDepth 20000 in
theorem gZ (g cap at_:Nat) (p:Option Addr) (l:List Tok) (bad:Bool) (W:World) (h:In6 W g p l cap at_ bad) (hl:l.length≤1000000000) (ha:at_≤l.length):
 Calls Tryz.prog 174 #[.pointer (some ⟨g,0,none⟩)] W fun e w'=> ∃ v xs at' bad',e= .returned v∧w'.ownsRow W.heap.size 9 1 v xs.length (xs.map sv)∧In6 w' g p l cap at' bad'∧W.grownBy w' (some g)∧aK bc l at_ bad xs at' bad'∧(∀ x∈xs,∃ t∈l,x=t.text)∧xs.length≤l.length:=by
 have hgl:=h.lt
 have hbA:Below W.heap.size W (W.alloc (.cells #[] 9)):=(Below.refl _ _).alloc (Nat.le_refl _) _
 have HIA:=aa9 (h.below hbA)
 have HO:=aa9 (World.ownsRow_made (base:=W.heap.size) (size:=1) (e:=9) W #[] 0 (Nat.le_refl _) (by unfold maxLen;omega) rfl)
 have HGA:=aa9 ((show W.grownBy _ (some g) from ⟨hbA.os,hbA.tape,hbA.output,hbA.size,fun k hk _=>hbA.block k hk⟩))
 have hzA:(W.alloc (.cells #[] 9)).heap.size=W.heap.size+1:=by simp
 go_enter Tryz.func174,Tryz.ntmps174
 go_wp2_with fail
 refine (bU g cap at_ p l bad 3 _ HIA.out (by omega) ha).mono ?_
 rintro e w1 ⟨x1,a1,bad1,rfl,i1,g1,st1,_⟩
 have HS1:=aa9 st1
 have HI1:=aa9 i1
 have HG1:=aa9 (d9 HGA.out g1)
 have HO1:=aa9 (nH HO.out g1 (by omega))
 have ha1:=st1.le
 have hz1:=g1.size
 clear st1 i1 g1 h hbA
 go_wp2
 go_loopg [3] (l.length - a1) (fun gk u wr=> ∃ (a:Nat) (xs:List (List UInt8)),a≤l.length∧gk=l.length - a∧wr.ownsRow W.heap.size 9 1 u xs.length (xs.map sv)∧In6 wr g p l cap a bad1∧W.grownBy wr (some g)∧((l.drop a1).takeWhile fE).map (·.text)=xs++((l.drop a).takeWhile fE).map (·.text)∧(l.drop a1).dropWhile fE=(l.drop a).dropWhile fE∧(∀ x∈xs,∃ t∈l,x=t.text)∧xs.length≤a)
 case atStart=>exact ⟨a1,[],ha1,rfl,HO1.out,HI1.out,HG1.out,rfl,rfl,by simp,by simp⟩
 case round=>
  obtain ⟨a,xs,hak,rfl,hown,hin,hgr,htw,hdw,hmem,hxl⟩:=hrel
  have HI:=aa9 hin
  have HTW:=aa9 htw
  have HDW:=aa9 hdw
  have HM:=aa9 hmem
  have hzr:=hgr.size
  have q0:wr.cell? ⟨g,0,none⟩=some (.slice p l.length cap):=(aa8 hin.blk 0).trans rfl
  have q1:wr.cell? ⟨g,1,none⟩=some (.int .i64 (a:Nat)):=(aa8 hin.blk 1).trans rfl
  have d0:wr.drew.cell? ⟨g,0,none⟩=some (.slice p l.length cap):=q0
  have d1:wr.drew.cell? ⟨g,1,none⟩=some (.int .i64 (a:Nat)):=q1
  clear htw hdw hmem HO1 HI1 HG1
  by_cases hlt:a < l.length
  · obtain ⟨b,off,rfl,hb,hcell⟩:=hin.rd.resolve_left (by intro h;subst h;simp at hlt)
    obtain ⟨t,ht⟩: ∃ t,l[a]? =some t:=⟨_,List.getElem?_eq_getElem hlt⟩
    obtain ⟨e0,_⟩:=hcell a t ht
    have f0:wr.drew.cell? ⟨b,off+a * 2,none⟩=some (.int .i64 t.kind):=e0
    have hge:(a:Int) < (l.length:Int):=by omega
    have hge3:decide ((a:Int) < (l.length:Int))=true:=decide_eq_true hge
    have hwr:IntKind.i64.wrap (a:Int)=(a:Int):=IntWalk.i64_in _ (by omega)
    have HT:=aa9 ht
    clear hcell hin ht
    cases hk:fE t with
    | true=>
      have hk1:(t.kind==1)=true:=hk
      obtain ⟨s1,s2⟩:=tZ HT.out hk
      have HT1:=aa9 (HTW.out.trans (by rw [s1,List.map_cons];simp:_=(xs++[t.text])++((l.drop (a+1)).takeWhile fE).map (·.text)))
      have HD1:=aa9 (HDW.out.trans s2)
      have HKK:=aa9 (we HT.out (beq_iff_eq.1 hk1))
      clear s1 s2 hk
      go_wp2
      refine ah oL17 (fun W=>W.cell? ⟨g,0,none⟩=some (.slice (some ⟨b,off,none⟩) l.length cap)∧W.cell? ⟨g,1,none⟩=some (.int .i64 (a:Nat))∧W.cell? ⟨b,off+a * 2,none⟩=some (.int .i64 t.kind)) (by kernel_rfl) (by kernel_rfl) rfl (by kernel_rfl) ?_
      intro ops' hops
      simp only [oL17,List.map_cons,List.map_nil,ae,ag]
      iterate 11 (refine aa ?_ (fun _ _ _ h=>h) rfl ?_ ⟨d0,d1,f0⟩ ?_;rotate_left;focus (intro W hS;obtain ⟨s0,s1,s2⟩:=hS;go_simp;rfl))
      iterate 12 (refine aa ?_ (fun _ _ _ h=>h) (by rw [hops.out];kernel_rfl) ?_ ⟨d0,d1,f0⟩ ?_;rotate_left;focus (intro W hS;obtain ⟨s0,s1,s2⟩:=hS;go_simp;rfl))
      iterate 1 (refine aa ?_ (fun _ _ _ h=>h) rfl ?_ ⟨d0,d1,f0⟩ ?_;rotate_left;focus (intro W hS;obtain ⟨s0,s1,s2⟩:=hS;go_simp;rfl))
      refine ai ?_
      go_simp
      go_wp2_with fail
      refine (jy g cap a (some ⟨b,off,none⟩) l bad1 1 _ HI.out.drew (by omega) (by omega)).mono ?_
      rintro e w2 ⟨g2,⟨x,hx,rfl,i2⟩ | ⟨hx,_,_⟩⟩
      case inr=>rw [HKK.out] at hx;cases hx
      have hxe:x=t.text:=by rw [HKK.out] at hx;injection hx with hx;exact hx.symm
      subst hxe
      have o2:=nH hown.drew g2 (by omega)
      have gg2:=d9 (w1:=wr.drew) ⟨hgr.os,hgr.tape,hgr.output,hgr.size,hgr.block⟩ g2
      have I2:=aa9 i2
      have hb2:W.heap.size≤w2.heap.size:=gg2.size
      have hbX:Below W.heap.size w2 w2:=Below.refl _ _
      clear g2 hx i2 d0 d1 f0 q0 q1 e0 hown hgr
      go_wp2_with (at_builtin;refine aE Tryz.el_string rfl (.tmp 31) (.tmp 34) rfl w2 w2 u3 xs.length _ rfl o2 hbX hb2 #[sv t.text] (.inr rfl) 1 1 rfl rfl (by simp [Value.oneCell']) (by omega) (by omega) (by omega) ?_)
      intro gn capn w3 o3 _ g3 hor _
      have i3:=I2.out.grown g3 (fun k hk=>by have:=(o2.lt k hk).1;omega)
      have gg3:=tY gg2 g3 (fun k hk=>(o2.lt k hk).1)
      clear o2 g3
      go_wp2
      go_roundg (l.length - (a+1))
      case measure=>omega
      case rel=>exact ⟨a+1,xs++[t.text],by omega,rfl,by simpa using o3,i3,gg3,HT1.out,HD1.out,fun y hy=>(List.mem_append.1 hy).elim (HM.out y) (fun h=>⟨t,List.mem_of_getElem? HT.out,List.mem_singleton.1 h⟩),by simp;omega⟩
    | false=>
      have hk1:(t.kind==1)=false:=hk
      obtain ⟨s1,s2⟩:=xC HT.out hk
      have HT1:=aa9 (show ((l.drop a1).takeWhile fE).map (·.text)=xs by rw [HTW.out,s1];simp)
      have HD1:=aa9 (HDW.out.trans s2)
      clear s1 s2 hk
      go_wp2
      refine ah oL17 (fun W=>W.cell? ⟨g,0,none⟩=some (.slice (some ⟨b,off,none⟩) l.length cap)∧W.cell? ⟨g,1,none⟩=some (.int .i64 (a:Nat))∧W.cell? ⟨b,off+a * 2,none⟩=some (.int .i64 t.kind)) (by kernel_rfl) (by kernel_rfl) rfl (by kernel_rfl) ?_
      intro ops' hops
      simp only [oL17,List.map_cons,List.map_nil,ae,ag]
      iterate 11 (refine aa ?_ (fun _ _ _ h=>h) rfl ?_ ⟨d0,d1,f0⟩ ?_;rotate_left;focus (intro W hS;obtain ⟨s0,s1,s2⟩:=hS;go_simp;rfl))
      iterate 12 (refine aa ?_ (fun _ _ _ h=>h) (by rw [hops.out];kernel_rfl) ?_ ⟨d0,d1,f0⟩ ?_;rotate_left;focus (intro W hS;obtain ⟨s0,s1,s2⟩:=hS;go_simp;rfl))
      iterate 1 (refine aa ?_ (fun _ _ _ h=>h) rfl ?_ ⟨d0,d1,f0⟩ ?_;rotate_left;focus (intro W hS;obtain ⟨s0,s1,s2⟩:=hS;go_simp;rfl))
      refine ai ?_
      go_simp
      clear q0 q1 d0 d1 f0 e0
      go_wp2_with fail
      refine (bU g cap a (some ⟨b,off,none⟩) l bad1 4 _ HI.out.drew (by omega) hak).mono ?_
      rintro e w4 ⟨x4,a4,bad4,rfl,i4,g4,st4,_⟩
      have o4:=nH hown.drew g4 (by omega)
      have gg4:=d9 (w1:=wr.drew) ⟨hgr.os,hgr.tape,hgr.output,hgr.size,hgr.block⟩ g4
      have HST:=aa9 (mw HS1.out st4 HT1.out HD1.out)
      clear st4 g4 hgr hown
      go_wp2
      go_ret
      exact ⟨_,xs,a4,bad4,rfl,o4,i4,gg4,HST.out,HM.out,by omega⟩
  · obtain rfl:a=l.length:=by omega
    have HT1:=aa9 (show ((l.drop a1).takeWhile fE).map (·.text)=xs by rw [HTW.out,List.drop_length];simp)
    have HD1:=aa9 (show (l.drop a1).dropWhile fE=l.drop l.length by rw [HDW.out,List.drop_length];rfl)
    have hge3:decide (((l.length:Nat):Int) < (l.length:Int))=false:=by simp
    clear hin
    go_wp2
    refine ah oL17 (fun W=>W.cell? ⟨g,0,none⟩=some (.slice p l.length cap)∧W.cell? ⟨g,1,none⟩=some (.int .i64 (l.length:Nat))) (by kernel_rfl) (by kernel_rfl) rfl (by kernel_rfl) ?_
    intro ops' hops
    simp only [oL17,List.map_cons,List.map_nil,ae,ag]
    iterate 11 (refine aa ?_ (fun _ _ _ h=>h) rfl ?_ ⟨d0,d1⟩ ?_;rotate_left;focus (intro W hS;obtain ⟨s0,s1⟩:=hS;go_simp;rfl))
    iterate 12 (refine aJ (fun _ _ _ h=>h) (by rw [hops.out];kernel_rfl) ⟨d0,d1⟩ ?_)
    iterate 1 (refine aa ?_ (fun _ _ _ h=>h) rfl ?_ ⟨d0,d1⟩ ?_;rotate_left;focus (intro W hS;obtain ⟨s0,s1⟩:=hS;go_simp;rfl))
    refine ai ?_
    go_simp
    clear q0 q1 d0 d1
    go_wp2_with fail
    refine (bU g cap l.length p l bad1 4 _ HI.out.drew (by omega) hak).mono ?_
    rintro e w4 ⟨x4,a4,bad4,rfl,i4,g4,st4,_⟩
    have o4:=nH hown.drew g4 (by omega)
    have gg4:=d9 (w1:=wr.drew) ⟨hgr.os,hgr.tape,hgr.output,hgr.size,hgr.block⟩ g4
    have HST:=aa9 (mw HS1.out st4 HT1.out HD1.out)
    clear st4 g4 hgr hown
    go_wp2
    go_ret
    exact ⟨_,xs,a4,bad4,rfl,o4,i4,gg4,HST.out,HM.out,by omega⟩
def scW (k:Nat):List UInt8:=eg.getD k []
def bJ (u:List UInt8):Nat→Int
 | 0=>0
 | k+1=>if an (scW (k+1))=u then ((k+1:Nat):Int) else bJ u k
def nmP (kd:Int) (r:List Tok):Option (List (List UInt8)×List Tok):=if 3≤kd then bc r else some ([],r)
def sa (ws:List (List UInt8)) (r:List Tok):Option (Int×List Tok):=(dp (-1) 0 ws).map fun b=>(b,r)
def fV (r:List Tok):Option (Scp×List Tok):=
 (aq 3 r).bind fun q0=>(aq 1 q0.2).bind fun q1=>(nmP (bJ (an q1.1) 4) q1.2).bind fun q2=>(bc q2.2).bind fun q3=>(aq 4 q3.2).bind fun q4=>(sa q3.1 q4.2).bind fun q5=>some (⟨bJ (an q1.1) 4,q2.1,q5.1⟩,q5.2)
def cF:Nat→List Tok→Option (List Scp)
 | 0,_=>none
 | n+1,r=>if r=[] then some [] else (fV r).bind fun q=>(cF n q.2).map (q.1:: ·)
def nQ (f:Flt):Option Flt:=if aN f=true then some f else none
def wg:List UInt8:=[83,69,84]
def lk:List UInt8:=[78,79,78,69]
def bL (l:List Tok):Option Flt:=
 (aq 1 l).bind fun q=>if an q.1=wg then (cF (l.length+1) q.2).bind fun ss=>nQ ⟨true,ss⟩ else if an q.1=lk then (if q.2=[] then nQ ⟨false,[]⟩ else none) else none
theorem dT {kind:Int} {r r':List Tok} {x:List UInt8} (h:aq kind r=some (x,r')):r'.length < r.length:=by
 cases r with
 | nil=>simp [aq] at h
 | cons t r=>
   simp only [aq] at h
   split at h
   · injection h with h;injection h with _ h;rw [←h];simp
   · cases h
theorem fW {r r':List Tok} {x:List (List UInt8)} (h:bc r=some (x,r')):r'.length < r.length:=by
 unfold bc at h
 obtain ⟨q,h1,h2⟩:=Option.bind_eq_some_iff.1 h
 obtain ⟨z,h3,h4⟩:=Option.bind_eq_some_iff.1 h2
 injection h4 with h4
 injection h4 with _ h4
 have e1:=dT h1
 have e2:=dT h3
 have e3:=(List.dropWhile_sublist (l:=q.2) (p:=fE)).length_le
 rw [←h4]
 omega
theorem wW {kd:Int} {r r':List Tok} {x:List (List UInt8)} (h:nmP kd r=some (x,r')):r'.length≤r.length:=by
 unfold nmP at h
 split at h
 · exact Nat.le_of_lt (fW h)
 · injection h with h;injection h with _ h;rw [h];exact Nat.le_refl _
theorem ua {r r':List Tok} {s:Scp} (h:fV r=some (s,r')):r'.length < r.length:=by
 unfold fV at h
 obtain ⟨q0,h0,h⟩:=Option.bind_eq_some_iff.1 h
 obtain ⟨q1,h1,h⟩:=Option.bind_eq_some_iff.1 h
 obtain ⟨q2,h2,h⟩:=Option.bind_eq_some_iff.1 h
 obtain ⟨q3,h3,h⟩:=Option.bind_eq_some_iff.1 h
 obtain ⟨q4,h4,h⟩:=Option.bind_eq_some_iff.1 h
 obtain ⟨q5,h5,h⟩:=Option.bind_eq_some_iff.1 h
 injection h with h
 injection h with _ h
 have e0:=dT h0
 have e1:=dT h1
 have e2:=wW h2
 have e3:=fW h3
 have e4:=dT h4
 have e5:q5.2=q4.2:=by
  unfold sa at h5
  obtain ⟨b,_,hb⟩:=Option.map_eq_some_iff.1 h5
  rw [←hb]
 rw [←h,e5]
 omega
theorem sb {l:List Tok} {a0 a1 a2 a3 a4 a5:Nat} {b0 b1 b2 b3 b4 b5 b6:Bool} {x0 x1 x4:List UInt8} {nm ws:List (List UInt8)} {ev:Int}
 (h0:aK (aq 3) l a0 b0 x0 a1 b1) (h1:aK (aq 1) l a1 b1 x1 a2 b2) (h2:aK (nmP (bJ (an x1) 4)) l a2 b2 nm a3 b3) (h3:aK bc l a3 b3 ws a4 b4) (h4:aK (aq 4) l a4 b4 x4 a5 b5) (h5:aK (sa ws) l a5 b5 ev a5 b6):
 aK fV l a0 b0 ⟨bJ (an x1) 4,nm,ev⟩ a5 b6:=by
 have h6:aK (fun r=>some ((⟨bJ (an x1) 4,nm,ev⟩:Scp),r)) l a5 b6 ⟨bJ (an x1) 4,nm,ev⟩ a5 b6:=⟨fun hb=>⟨hb,rfl⟩,fun e0 e1=>(by rw [e0] at e1;cases e1),h5.le⟩
 exact h0.bind (Q:=fun _ r=>(aq 1 r).bind fun q1=>(nmP (bJ (an q1.1) 4) q1.2).bind fun q2=>(bc q2.2).bind fun q3=>(aq 4 q3.2).bind fun q4=>(sa q3.1 q4.2).bind fun q5=>some ((⟨bJ (an q1.1) 4,q2.1,q5.1⟩:Scp),q5.2))
  (h1.bind (Q:=fun x r=>(nmP (bJ (an x) 4) r).bind fun q2=>(bc q2.2).bind fun q3=>(aq 4 q3.2).bind fun q4=>(sa q3.1 q4.2).bind fun q5=>some ((⟨bJ (an x) 4,q2.1,q5.1⟩:Scp),q5.2))
   (h2.bind (Q:=fun n r=>(bc r).bind fun q3=>(aq 4 q3.2).bind fun q4=>(sa q3.1 q4.2).bind fun q5=>some ((⟨bJ (an x1) 4,n,q5.1⟩:Scp),q5.2))
    (h3.bind (Q:=fun u r=>(aq 4 r).bind fun q4=>(sa u q4.2).bind fun q5=>some ((⟨bJ (an x1) 4,nm,q5.1⟩:Scp),q5.2))
     (h4.bind (Q:=fun _ r=>(sa ws r).bind fun q5=>some ((⟨bJ (an x1) 4,nm,q5.1⟩:Scp),q5.2))
      (h5.bind (Q:=fun b r=>some ((⟨bJ (an x1) 4,nm,b⟩:Scp),r)) h6)))))
theorem wh {l:List Tok} {a:Nat} {b:Bool} {ws:List (List UInt8)} (ha:a≤l.length):aK (sa ws) l a b ((dp (-1) 0 ws).getD 0) a (b || (dp (-1) 0 ws).isNone) where
 yes h:=by
  rw [Bool.or_eq_false_iff] at h
  refine ⟨h.1,?_⟩
  unfold sa
  cases hb:dp (-1) 0 ws with
  | none=>rw [hb] at h;simp at h
  | some v=>rfl
 no h0 h1:=by
  rw [h0,Bool.false_or] at h1
  unfold sa
  cases hb:dp (-1) 0 ws with
  | none=>rfl
  | some v=>rw [hb] at h1;simp at h1
 le:=ha
theorem xD {l:List Tok} {a:Nat} {b:Bool} {kd:Int} (ha:a≤l.length) (h: ¬3≤kd):aK (nmP kd) l a b [] a b:=
 ⟨fun hb=>⟨hb,by unfold nmP;rw [if_neg h]⟩,fun h0 h1=>(by rw [h0] at h1;cases h1),ha⟩
theorem xE {l:List Tok} {a a':Nat} {b b':Bool} {kd:Int} {xs:List (List UInt8)} (h:3≤kd) (hs:aK bc l a b xs a' b'):aK (nmP kd) l a b xs a' b':=
 ⟨fun hb=>⟨(hs.yes hb).1,by unfold nmP;rw [if_pos h];exact (hs.yes hb).2⟩,fun h0 h1=>(by unfold nmP;rw [if_pos h];exact hs.no h0 h1),hs.le⟩
structure Far (l:List Tok) (at_:Nat) (bad:Bool) (scs:List Scp):Prop where
 yes:bad=false→cF (l.length+1) (l.drop 1)=(cF (l.length+1 - scs.length) (l.drop at_)).map (scs++ ·)
 no:bad=true→cF (l.length+1) (l.drop 1)=none
 le:at_≤l.length
 num:bad=false→scs.length < at_
theorem Far.start {l:List Tok} (h:1≤l.length):Far l 1 false []:=⟨fun _=>by simp,fun h=>(by cases h),h,fun _=>by simp⟩
theorem Far.step {l:List Tok} {at_ at':Nat} {bad':Bool} {scs:List Scp} {s:Scp} (h:Far l at_ false scs) (hlt:at_ < l.length) (hs:aK fV l at_ false s at' bad'):Far l at' bad' (scs++[s])∧(bad'=false→at_ < at'):=by
 have hn:=h.num rfl
 have hne: ¬l.drop at_=[]:=by
  intro e
  have:=congrArg List.length e
  simp at this
  omega
 have hgt:bad'=false→at_ < at':=by
  intro hb
  have h1:=ua (hs.yes hb).2
  simp only [List.length_drop] at h1
  have:=hs.le
  omega
 refine ⟨⟨fun hb=> ?_,fun hb=> ?_,hs.le,fun hb=> ?_⟩,hgt⟩
 · rw [h.yes rfl,show l.length+1 - scs.length=(l.length+1 - (scs++[s]).length)+1 by simp;omega]
   simp only [cF,if_neg hne,(hs.yes hb).2,Option.bind_some,Option.map_map]
   congr 1
   funext y
   simp
 · rw [h.yes rfl,show l.length+1 - scs.length=(l.length+1 - (scs++[s]).length)+1 by simp;omega]
   simp only [cF,if_neg hne,hs.no rfl hb,Option.bind_none,Option.map_none]
 · have:=hgt hb
   simp
   omega
theorem Far.done {l:List Tok} {scs:List Scp} (h:Far l l.length false scs):cF (l.length+1) (l.drop 1)=some scs:=by
 have hn:=h.num rfl
 rw [h.yes rfl,List.drop_length,show l.length+1 - scs.length=(l.length - scs.length)+1 by omega]
 simp [cF]
theorem cI {w:World} {b:Nat} {x0 x1:Value} {e:TypeId} (h:w.heap[b]? =some (.cells #[x0,x1] e (0,0))):
 w.cell? ⟨b,0,none⟩=some x0∧w.cell? ⟨b,1,none⟩=some x1∧w.frozen? ⟨b,0,none⟩=false∧w.frozen? ⟨b,1,none⟩=false∧
 (∀ v,(w.setCell ⟨b,0,none⟩ v).cell? ⟨b,0,none⟩=some v)∧(∀ v v',((w.setCell ⟨b,0,none⟩ v).setCell ⟨b,1,none⟩ v').cell? ⟨b,1,none⟩=some v'):=by
 have h0:w.cell? ⟨b,0,none⟩=some x0:=(aa8 h 0).trans rfl
 have h1:w.cell? ⟨b,1,none⟩=some x1:=(aa8 h 1).trans rfl
 refine ⟨h0,h1,Lib.frozen_of_heap h 0,Lib.frozen_of_heap h 1,fun v=>World.cell?_setCell_same w _ _ h0,fun v v'=>World.cell?_setCell_same _ _ _ (u:=x1) ?_⟩
 rw [World.cell?_setCell_other w _ _ _ (by intro hh;injection hh with _ h2;cases h2)]
 exact h1
structure RfS (w:World) (g:Nat) (p:Option Addr) (l:List Tok) (cap cf:Nat) (on:Bool) (lo at_:Nat) (bad:Bool) (vsc:Value) (scs:List Scp) (fp:List Nat) (W:World):Prop where
 in6:In6 W g p l cap at_ bad
 blkf:W.heap[cf]? =some (.cells #[.bool on,vsc] 27 (0,0))
 blk2:W.heap[w.heap.size]? =some (.cells #[.bool false,.slice none 0 0] 27 (0,0))
 tree:cx W lo (aj scs) vsc fp
 below:Below w.heap.size w W
 o1:w.heap.size < g
 o2:g < cf
 o3:cf < lo
 o4:lo≤W.heap.size
theorem RfS.go {w W W':World} {g cap cf lo at_ at':Nat} {p:Option Addr} {l:List Tok} {on bad bad':Bool} {vsc:Value} {scs:List Scp} {fp T:List Nat} (h:RfS w g p l cap cf on lo at_ bad vsc scs fp W) (hg:ac W W' T) (hT: ∀ k∈T,k=g∨lo≤k∧k ∉ fp) (hi:In6 W' g p l cap at' bad'):RfS w g p l cap cf on lo at' bad' vsc scs fp W' where
 in6:=hi
 blkf:=(hg.block cf (by have:=h.o3;have:=h.o4;omega) (fun hm=>by have h3:=h.o3;have h2:=h.o2;rcases hT _ hm with h | ⟨h,_⟩ <;> omega)).trans h.blkf
 blk2:=(hg.block w.heap.size (by have:=h.o1;have:=h.o2;have:=h.o3;have:=h.o4;omega) (fun hm=>by have h1:=h.o1;have h3:=h.o3;have h2:=h.o2;rcases hT _ hm with h | ⟨h,_⟩ <;> omega)).trans h.blk2
 tree:=h.tree.apart hg (fun k hk hm=>by
  have h1:=h.tree.low k hk
  have h2:=h.o2
  have h3:=h.o3
  rcases hT _ hm with h | ⟨_,h⟩
  · omega
  · exact h hk)
 below:=ac.below h.below hg h.below.size (fun k hk=>by
  have h1:=h.o1
  have h2:=h.o2
  have h3:=h.o3
  rcases hT _ hk with h | ⟨h,_⟩ <;> omega)
 o1:=h.o1
 o2:=h.o2
 o3:=h.o3
 o4:=Nat.le_trans h.o4 hg.size
theorem RfS.take {w W W':World} {g cap cf lo at_ at':Nat} {p:Option Addr} {l:List Tok} {on bad bad':Bool} {vsc:Value} {scs:List Scp} {fp:List Nat} (h:RfS w g p l cap cf on lo at_ bad vsc scs fp W) (hg:W.grownBy W' (some g)) (hi:In6 W' g p l cap at' bad'):RfS w g p l cap cf on lo at' bad' vsc scs fp W':=
 h.go (T:=[g]) (by have:=ac.of_row hg;simpa using this) (fun k hk=> .inl (by simpa using hk)) hi
theorem RfS.call {w W W':World} {g cap cf lo at_:Nat} {p:Option Addr} {l:List Tok} {on bad:Bool} {vsc:Value} {scs:List Scp} {fp:List Nat} (h:RfS w g p l cap cf on lo at_ bad vsc scs fp W) (hb:Below W.heap.size W W'):RfS w g p l cap cf on lo at_ bad vsc scs fp W':=
 h.go (T:=[]) (ac.of_below hb) (fun k hk=>(by cases hk)) (h.in6.below hb)
theorem RfS.drew {w W:World} {g cap cf lo at_:Nat} {p:Option Addr} {l:List Tok} {on bad:Bool} {vsc:Value} {scs:List Scp} {fp:List Nat} (h:RfS w g p l cap cf on lo at_ bad vsc scs fp W):RfS w g p l cap cf on lo at_ bad vsc scs fp W.drew:=
 h.call ((Below.refl _ _).drew)
structure RfB (w:World) (g:Nat) (p:Option Addr) (l:List Tok) (cap cf:Nat) (on:Bool) (lo at_:Nat) (bad:Bool) (vsc:Value) (scs:List Scp) (fp:List Nat) (cs:Nat) (kd:Int) (vn:Value) (nm:List (List UInt8)) (ev:Int) (W:World):Prop where
 base:RfS w g p l cap cf on lo at_ bad vsc scs fp W
 blks:W.heap[cs]? =some (.cells #[.int .i64 kd,vn,.int .i64 ev] 123 (0,0))
 nam:W.ownsRow 0 9 1 vn nm.length (nm.map sv)
 c1:lo≤cs
 c2:cs ∉ fp
 c3: ∀ k,vn.ownBlock=some k→lo≤k∧k ∉ fp∧k ≠ cs
section
variable {w W W':World} {g cap cf lo at_ at' cs:Nat} {p:Option Addr} {l:List Tok} {on bad bad':Bool} {vsc vn:Value} {scs:List Scp} {fp:List Nat} {kd ev:Int} {nm:List (List UInt8)}
theorem RfB.slt (h:RfB w g p l cap cf on lo at_ bad vsc scs fp cs kd vn nm ev W):cs < W.heap.size:=(Array.getElem?_eq_some_iff.1 h.blks).1
theorem RfB.glo (h:RfB w g p l cap cf on lo at_ bad vsc scs fp cs kd vn nm ev W):g < lo:=Nat.lt_trans h.base.o2 h.base.o3
theorem RfB.go (h:RfB w g p l cap cf on lo at_ bad vsc scs fp cs kd vn nm ev W) (hg:ac W W' [g]) (hi:In6 W' g p l cap at' bad'):RfB w g p l cap cf on lo at' bad' vsc scs fp cs kd vn nm ev W' where
 base:=h.base.go hg (fun k hk=> .inl (by simpa using hk)) hi
 blks:=(hg.block cs h.slt (fun hm=>by have h1:=h.c1;have h2:=h.glo;have h3:cs=g:=(by simpa using hm);omega)).trans h.blks
 nam:=iz h.nam hg (fun k hk hm=>by have h1:=(h.c3 k hk).1;have h2:=h.glo;have h3:k=g:=(by simpa using hm);omega)
 c1:=h.c1
 c2:=h.c2
 c3:=h.c3
theorem RfB.take (h:RfB w g p l cap cf on lo at_ bad vsc scs fp cs kd vn nm ev W) (hg:W.grownBy W' (some g)) (hi:In6 W' g p l cap at' bad'):RfB w g p l cap cf on lo at' bad' vsc scs fp cs kd vn nm ev W':=
 h.go (by have:=ac.of_row hg;simpa using this) hi
theorem RfB.call (h:RfB w g p l cap cf on lo at_ bad vsc scs fp cs kd vn nm ev W) (hb:Below W.heap.size W W'):RfB w g p l cap cf on lo at_ bad vsc scs fp cs kd vn nm ev W':=
 h.go (ac.of_below hb) (h.base.in6.below hb)
theorem RfB.drew (h:RfB w g p l cap cf on lo at_ bad vsc scs fp cs kd vn nm ev W):RfB w g p l cap cf on lo at_ bad vsc scs fp cs kd vn nm ev W.drew:=h.call ((Below.refl _ _).drew)
theorem RfB.scell (h:RfB w g p l cap cf on lo at_ bad vsc scs fp cs kd vn nm ev W):W.cell? ⟨cs,0,none⟩=some (.int .i64 kd)∧W.cell? ⟨cs,1,none⟩=some vn∧W.cell? ⟨cs,2,none⟩=some (.int .i64 ev)∧W.frozen? ⟨cs,0,none⟩=false∧W.frozen? ⟨cs,1,none⟩=false∧W.frozen? ⟨cs,2,none⟩=false:=
 ⟨(aa8 h.blks 0).trans rfl,(aa8 h.blks 1).trans rfl,(aa8 h.blks 2).trans rfl,Lib.frozen_of_heap h.blks 0,Lib.frozen_of_heap h.blks 1,Lib.frozen_of_heap h.blks 2⟩
theorem RfB.start (h:RfS w g p l cap cf on lo at_ bad vsc scs fp W):RfB w g p l cap cf on lo at_ bad vsc scs fp W.heap.size 0 (.slice none 0 0) [] 0 (W.alloc (.cells #[.int .i64 0,.slice none 0 0,.int .i64 0] 123)) where
 base:=h.call ((Below.refl _ _).alloc (Nat.le_refl _) _)
 blks:=heap_alloc_new W _
 nam:=World.ownsRow_nil _ _ _ _
 c1:=h.o4
 c2:=fun hm=>by have:=h.tree.lt _ hm;omega
 c3:=fun k hk=>(by simp [Value.ownBlock] at hk)
theorem RfB.set (h:RfB w g p l cap cf on lo at_ bad vsc scs fp cs kd vn nm ev W) (j:Nat) (u:Value) {kd' ev':Int} {vn':Value} {nm':List (List UInt8)} (hu:(#[.int .i64 kd,vn,.int .i64 ev]:Array Value).setIfInBounds j u= #[.int .i64 kd',vn',.int .i64 ev']) (hn:W.ownsRow 0 9 1 vn' nm'.length (nm'.map sv)) (hc: ∀ k,vn'.ownBlock=some k→lo≤k∧k ∉ fp∧k ≠ cs):RfB w g p l cap cf on lo at_ bad vsc scs fp cs kd' vn' nm' ev' (W.setCell ⟨cs,j,none⟩ u) where
 base:=h.base.go (T:=[cs]) (ac.set (by simp)) (fun k hk=> .inr (by have e:k=cs:=(by simpa using hk);rw [e];exact ⟨h.c1,h.c2⟩)) (h.base.in6.keep fun k hk=>aD (by have h1:=h.c1;have h2:=h.glo;omega))
 blks:=by rw [bz h.blks,hu]
 nam:=dR hn (fun k hk=>(hc k hk).2.2)
 c1:=h.c1
 c2:=h.c2
 c3:=hc
theorem RfB.setK (h:RfB w g p l cap cf on lo at_ bad vsc scs fp cs kd vn nm ev W) (kd':Int):RfB w g p l cap cf on lo at_ bad vsc scs fp cs kd' vn nm ev (W.setCell ⟨cs,0,none⟩ (.int .i64 kd')):=h.set 0 _ rfl h.nam h.c3
theorem RfB.setE (h:RfB w g p l cap cf on lo at_ bad vsc scs fp cs kd vn nm ev W) (ev':Int):RfB w g p l cap cf on lo at_ bad vsc scs fp cs kd vn nm ev' (W.setCell ⟨cs,2,none⟩ (.int .i64 ev')):=h.set 2 _ rfl h.nam h.c3
theorem RfB.setN (h:RfB w g p l cap cf on lo at_ bad vsc scs fp cs kd vn nm ev W) {vn':Value} {nm':List (List UInt8)} {B:Nat} (hn:W.ownsRow B 9 1 vn' nm'.length (nm'.map sv)) (hlo:lo≤B) (hfp: ∀ k∈fp,k < B) (hcs:cs < B):RfB w g p l cap cf on lo at_ bad vsc scs fp cs kd vn' nm' ev (W.setCell ⟨cs,1,none⟩ vn'):=
 h.set 1 _ rfl (dz hn) (fun k hk=>⟨by have:=(hn.lt k hk).1;omega,fun hm=>by have h1:=(hn.lt k hk).1;have h2:=hfp k hm;omega,by have:=(hn.lt k hk).1;omega⟩)
theorem RfB.setB (h:RfB w g p l cap cf on lo at_ bad vsc scs fp cs kd vn nm ev W) (b:Bool):RfB w g p l cap cf on lo at_ b vsc scs fp cs kd vn nm ev (W.setCell ⟨g,2,none⟩ (.bool b)):=
 h.go (ac.set (by simp)) (h.base.in6.set (j:=2) rfl)
theorem RfS.row (h:RfS w g p l cap cf on lo at_ bad vsc scs fp W): ∃ xs fq,W.ownsRow lo 123 3 vsc scs.length xs∧bS W (scs.flatMap Scp.lf) xs fq∧fp=vsc.ownBlock.toList++fq:=by
 obtain ⟨_,xs,fq,ho,hx,hf⟩:=h.tree.is
 exact ⟨xs,fq,mn ho (fun k hk=>h.tree.low k (by rw [hf,hk];simp)),hx,hf⟩
theorem RfB.app (h:RfB w g p l cap cf on lo at_ bad vsc scs fp cs kd vn nm ev W) {xs:List Value} {fq:List Nat} (hx:bS W (scs.flatMap Scp.lf) xs fq) (hf:fp=vsc.ownBlock.toList++fq) {gn capn:Nat}
 (ho:W'.ownsRow lo 123 3 (.slice (some ⟨gn,0,none⟩) (scs.length+1) capn) (scs.length+1) (xs++[.int .i64 kd,vn,.int .i64 ev])) (hg:W.grownBy W' vsc.ownBlock) (hor:vsc.ownBlock=some gn∨W.heap.size≤gn):
 ∃ fp',RfS w g p l cap cf on lo at_ bad (.slice (some ⟨gn,0,none⟩) (scs.length+1) capn) (scs++[⟨kd,nm,ev⟩]) fp' (W'.setCell ⟨cf,1,none⟩ (.slice (some ⟨gn,0,none⟩) (scs.length+1) capn))∧W'.heap[cf]? =some (.cells #[.bool on,vsc] 27 (0,0)):=by
 have hgi:ac W W' vsc.ownBlock.toList:=ac.of_row hg
 have hvl: ∀ k∈vsc.ownBlock.toList,lo≤k:=fun k hk=>h.base.tree.low k (by rw [hf];exact List.mem_append_left _ hk)
 have hfql: ∀ k∈fq,lo≤k∧k < W.heap.size:=fun k hk=>⟨h.base.tree.low k (by rw [hf];exact List.mem_append_right _ hk),bS.lt _ _ _ hx k hk⟩
 have hnd:=h.base.tree.nodup
 rw [hf] at hnd
 have hfqv: ∀ k∈fq,k ∉ vsc.ownBlock.toList:=fun k hk hm=>(List.nodup_append.1 hnd).2.2 k hm k hk rfl
 have o2:=h.base.o2
 have o3:=h.base.o3
 have o4:=h.base.o4
 have o1:=h.base.o1
 have hcfl:cf ∉ vsc.ownBlock.toList:=fun hm=>by have:=hvl _ hm;omega
 have hblkf:W'.heap[cf]? =some (.cells #[.bool on,vsc] 27 (0,0)):=(hgi.block cf (by omega) hcfl).trans h.base.blkf
 have hnam:W'.ownsRow 0 9 1 vn nm.length (nm.map sv):=iz h.nam hgi (fun k hk hm=>by
  have:=(h.c3 k hk).2.1
  rw [hf] at this
  exact this (List.mem_append_left _ hm))
 have hgn:lo≤gn:=(ho.lt gn rfl).1
 have hgnfq:gn ∉ fq:=fun hm=>by
  rcases hor with e | e
  · exact hfqv gn hm (by rw [e];simp)
  · have:=(hfql gn hm).2;omega
 have hgnv: ∀ k,vn.ownBlock=some k→k ≠ gn∧k ∉ fq∧lo≤k:=fun k hk=>by
  obtain ⟨c1,c2,_⟩:=h.c3 k hk
  rw [hf] at c2
  refine ⟨fun e=> ?_,fun hm=>c2 (List.mem_append_right _ hm),c1⟩
  subst e
  rcases hor with e | e
  · exact c2 (List.mem_append_left _ (by rw [e];simp))
  · have:=(h.nam.lt k hk).2;omega
 have hls:bS W' ((scs++[(⟨kd,nm,ev⟩:Scp)]).flatMap Scp.lf) (xs++[.int .i64 kd,vn,.int .i64 ev]) (fq++vn.ownBlock.toList):=by
  rw [List.flatMap_append]
  refine bS.append.2 ⟨xs,_,fq,vn.ownBlock.toList,rfl,bS.apart hx hgi hfqv,?_,rfl⟩
  simpa using wO (s:=⟨kd,nm,ev⟩) hnam rfl
 refine ⟨gn::(fq++vn.ownBlock.toList),⟨?_,?_,?_,⟨?_,?_,?_⟩,?_,o1,o2,o3,?_⟩,hblkf⟩
 · refine (h.base.in6.keep (W':=W') fun k hk=>hg.block k (by omega) (fun e=>by have:=hvl k (by rw [←e];simp);omega)).keep fun k hk=>aD (by omega)
 · rw [bz hblkf];rfl
 · exact (aD (by omega)).trans ((hgi.block w.heap.size (by omega) (fun hm=>by have:=hvl _ hm;omega)).trans h.base.blk2)
 · have hsc: ∀ k∈gn::(fq++vn.ownBlock.toList),k ≠ cf:=by
    intro k hk
    have:lo≤k:=by
     rcases List.mem_cons.1 hk with rfl | hk
     · exact hgn
     · rcases List.mem_append.1 hk with hk | hk
       · exact (hfql k hk).1
       · exact (hgnv k (by simpa using hk)).2.2
    omega
   refine au.frame (W:=W') _ _ _ (fun k hk=>aD (hsc k hk)) ?_
   refine ⟨ce pW _,_,fq++vn.ownBlock.toList,?_,hls,rfl⟩
   rw [List.length_append]
   exact dz ho
 · rw [List.nodup_cons]
   refine ⟨fun hm=> ?_,?_⟩
   · rcases List.mem_append.1 hm with hm | hm
     · exact hgnfq hm
     · exact (hgnv gn (by simpa using hm)).1 rfl
   · rw [List.nodup_append]
     refine ⟨(List.nodup_append.1 hnd).2.1,by cases vn.ownBlock <;> simp,fun a ha b hb e=> ?_⟩
     subst e
     exact (hgnv a (by simpa using hb)).2.1 ha
 · intro k hk
   rcases List.mem_cons.1 hk with rfl | hk
   · exact hgn
   · rcases List.mem_append.1 hk with hk | hk
     · exact (hfql k hk).1
     · exact (hgnv k (by simpa using hk)).2.2
 · exact (ac.below h.base.below hgi h.base.below.size (fun k hk=>by have:=hvl k hk;omega)).setCell (p:=⟨cf,1,none⟩) (by show w.heap.size≤cf;omega) _
 · have:=hg.size
   simp
   omega
end
theorem gEw:Tryz.prog.globalNamed "loop.example/g00501/impl.eventWords" =some 5:=by kernel_rfl
theorem ub:(Tryz.prog.globals[5]?).map (·.type)=some 223:=by kernel_rfl
theorem nI:Tryz.prog.underlying 223=some (.array 4 9):=by kernel_rfl
theorem uc:Tryz.prog.cellsOf 9=1:=by kernel_rfl
theorem rp:Tryz.prog.cellsOf 223=4:=by kernel_rfl
structure Ew (w:World):Prop where
 tab:jW Tryz.prog w "loop.example/g00501/impl.eventWords" da
 lt:5 < w.heap.size
theorem Ew.of_laid {w:World} (h:jW Tryz.prog w "loop.example/g00501/impl.eventWords" da):Ew w:=
 ⟨h,World.block_lt_of_cell? w _ (h.cell gEw 0 (by decide))⟩
theorem Ew.below {w w':World} (h:Ew w) (hb:Below w.heap.size w w'):Ew w':=
 ⟨var?_below hb gEw h.lt h.tab,Nat.lt_of_lt_of_le h.lt hb.size⟩
theorem wj (k:Nat) (hk:k < 4) (W:World):(Instr.index 223 (.agg #[sv (evW 0),sv (evW 1),sv (evW 2),sv (evW 3)]) (.int .i64 (k:Int))).run Tryz.prog W= .ok (sv (evW k)) W:=
 gN W nI Tryz.underlying9 uc (by kernel_rfl) (by omega) (by omega) (by
  have h5:k=0∨k=1∨k=2∨k=3:=by omega
  rcases h5 with rfl | rfl | rfl | rfl <;> rfl)
abbrev ewV:Value:= .agg #[sv (evW 0),sv (evW 1),sv (evW 2),sv (evW 3)]
theorem yW:(∀ W,(Instr.index 223 ewV (.int .i64 0)).run Tryz.prog W= .ok (sv (evW 0)) W)∧(∀ W,(Instr.index 223 ewV (.int .i64 1)).run Tryz.prog W= .ok (sv (evW 1)) W)∧(∀ W,(Instr.index 223 ewV (.int .i64 2)).run Tryz.prog W= .ok (sv (evW 2)) W)∧(∀ W,(Instr.index 223 ewV (.int .i64 3)).run Tryz.prog W= .ok (sv (evW 3)) W):=
 ⟨fun W=>wj 0 (by omega) W,fun W=>wj 1 (by omega) W,fun W=>wj 2 (by omega) W,fun W=>wj 3 (by omega) W⟩
theorem Ew.cells {w:World} (h:Ew w):w.cell? ⟨5,0,none⟩=some (sv (evW 0))∧w.cell? ⟨5,1,none⟩=some (sv (evW 1))∧w.cell? ⟨5,2,none⟩=some (sv (evW 2))∧w.cell? ⟨5,3,none⟩=some (sv (evW 3)):=
 ⟨h.tab.cell gEw 0 (by decide),h.tab.cell gEw 1 (by decide),h.tab.cell gEw 2 (by decide),h.tab.cell gEw 3 (by decide)⟩
section
variable {P:Program}
theorem qs {α:Type} {w:World} {ops:Array Oper} {rest:List Oper} {o:Oper} {a:Act} {t e:TypeId} {size bytes B:Nat} {Q:Exit→Act→World→Prop} {enc:α→List Value} (hgd:o.guard=none) (E:lP P t e size bytes) (hm: ∀ x,(enc x).length=size) (h1: ∀ x,∀ u∈enc x,u.oneCell'=true) (s x:Operand) (ho:o.op= .call { callee:= .builtin .append,args:= #[s,x],argTypes:= #[t,t] })
 (W:World) (v:Value) (n:Nat) (xs:List Value) (hs:a.eval s=v) (hown:w.ownsRow B e size v n xs) (hb:Below B W w) (hB:B≤w.heap.size)
 (u:Value) (l:List α) (hx:a.eval x=u) (hu:Rd size enc w u l) (hbytes:(n+l.length) * bytes≤140737488355328) (h63:n+l.length≤140737488355328)
 (h: ∀ v' w',w'.ownsRow B e size v' (n+l.length) (xs++l.flatMap enc)→Below B W w'→w.grownBy w' v.ownBlock→wpList P ops Q rest (a.put o.dst v') w'):wpList P ops Q (o::rest) a w:=
 wpList_plain hgd fun _ hK=>xa E hm h1 s x ho W v n xs hs hown hb hB u l hx hu hbytes h63 fun v' w' k1 k2 k3=>hK _ _ (h v' w' k1 k2 k3)
end
section
variable {w w0 W0:World} {ops:Array Oper} {rest:List Oper} {o:Oper} {a:Act} {c:Nat} {cs:Array Value} {u:Value} {toks:List Tok}
theorem xF: ∀ x:Tok,∀ u∈dh x,u.oneCell'=true:=by intro x u hu;simp [dh] at hu;rcases hu with rfl | rfl <;> rfl
theorem xG {Q:Exit→Act→World→Prop} (hgd:o.guard=none) (h:TkB W0 c cs u toks w) (l:List Tok) (s x:Operand) (ho:o.op= .call { callee:= .builtin .append,args:= #[s,x],argTypes:= #[43,43] })
 (hs:a.eval s=u) (v:Value) (hx:a.eval x=v) (hv:Rd 2 dh w v l) (hl:toks.length+l.length≤1000000)
 (hK: ∀ u' w',TkB W0 c cs u' (toks++l) w'→wpList Tryz.prog ops Q rest (a.put o.dst u') w'):wpList Tryz.prog ops Q (o::rest) a w:=by
 refine qs hgd Tryz.el_tok (enc:=dh) (fun _=>rfl) xF s x ho W0 u toks.length _ hs h.own h.below h.below.size v l hx hv (by omega) (by omega) ?_
 intro v' w' h1 h2 h3
 refine hK _ _ ⟨?_,h2,?_⟩
 · rw [List.length_append,List.flatMap_append];exact h1
 · refine (h3.block c h.lt ?_).trans h.blk
   intro e
   obtain ⟨cz,fz,hk⟩:=Lib.ownsRow_kind h.own c e.symm
   rw [h.blk] at hk
   injection hk with hk
   injection hk with _ hk _
   exact absurd hk (by decide)
end
theorem ud (w:World):Calls Tryz.prog 284 #[.agg #[]] w fun e w'=>e= .returned (sv [115,101,108,101,99,116,101,100])∧Below w.heap.size w w':=by
 go_enter Tryz.func284,Tryz.ntmps284
 go_wp2
 go_ret
 exact ⟨rfl,(Below.refl _ _).alloc (Nat.le_refl _) _⟩
theorem wk (v:Value) (w:World):(method 386 221 v "loop.example/g00501/impl.keyword").run Tryz.prog w= .ok (284,v) w:=by kernel_rfl
theorem ue (w:World):Calls Tryz.prog 285 #[.agg #[]] w fun e w'=>e= .returned (sv [112,101,114,115,111,110,97,108])∧Below w.heap.size w w':=by
 go_enter Tryz.func285,Tryz.ntmps285
 go_wp2
 go_ret
 exact ⟨rfl,(Below.refl _ _).alloc (Nat.le_refl _) _⟩
theorem wl (v:Value) (w:World):(method 386 222 v "loop.example/g00501/impl.keyword").run Tryz.prog w= .ok (285,v) w:=by kernel_rfl
theorem uf (p:Option Addr) (n c:Nat) (w:World):Calls Tryz.prog 282 #[.agg #[.slice p n c]] w fun e w'=>e= .returned (sv [115,117,98,116,114,101,101])∧Below w.heap.size w w':=by
 go_enter Tryz.func282,Tryz.ntmps282
 go_wp2
 go_ret
 exact ⟨rfl,(Below.refl _ _).alloc (Nat.le_refl _) _⟩
theorem wm (v:Value) (w:World):(method 386 204 v "loop.example/g00501/impl.keyword").run Tryz.prog w= .ok (282,v) w:=by kernel_rfl
theorem ug (p:Option Addr) (n c:Nat) (w:World):Calls Tryz.prog 283 #[.agg #[.slice p n c]] w fun e w'=>e= .returned (sv [98,111,120,101,115])∧Below w.heap.size w w':=by
 go_enter Tryz.func283,Tryz.ntmps283
 go_wp2
 go_ret
 exact ⟨rfl,(Below.refl _ _).alloc (Nat.le_refl _) _⟩
theorem wn (v:Value) (w:World):(method 386 206 v "loop.example/g00501/impl.keyword").run Tryz.prog w= .ok (283,v) w:=by kernel_rfl
end Go.Proofs.YtmlgkoeacbeopaaGreatDoor
namespace Go.Proofs.YtmlgkoeacbeopaaGreatDoor
open Go.RowKit
open Go.Lib (decDigits itoa)
theorem zI:Tryz.prog.globalNamed "internal/strconv.uint64pow10" =some 6:=by kernel_rfl
theorem rq:(Tryz.prog.globals[6]?).map (·.type)=some 255:=by kernel_rfl
theorem oU:Tryz.prog.underlying 255=some (.array 20 249):=by kernel_rfl
theorem uh:Tryz.prog.cellsOf 249=1:=by kernel_rfl
theorem oV:Tryz.prog.cellsOf 255=20:=by kernel_rfl
structure Tab (w:World):Prop where
 tab:Lib.TabIs Tryz.prog w "internal/strconv.uint64pow10" .u64 Lib.pow10Tab
 lt:6 < w.heap.size
theorem Tab.of_laid {w:World} (h:Lib.TabIs Tryz.prog w "internal/strconv.uint64pow10" .u64 Lib.pow10Tab):Tab w:=
 ⟨h,World.block_lt_of_cell? w _ (h.cell zI 0 (by decide))⟩
theorem Tab.below {w w':World} (h:Tab w) (hb:Below w.heap.size w w'):Tab w':=
 ⟨var?_below hb zI h.lt h.tab,Nat.lt_of_lt_of_le h.lt hb.size⟩
theorem ma (n:Int) (w:World) (hT:Tab w) (h0: -9223372036854775808≤n) (h1:n≤9223372036854775807):
 Calls Tryz.prog 198 #[.int .i64 n] w fun e w'=>e= .returned (sv (itoa n))∧Below w.heap.size w w':=by
 have HT:=aa9 hT
 clear hT
 go_enter Tryz.func198,Tryz.ntmps198
 go_wp2_with fail
 refine (Tryz.strconv_Itoa n h0 h1 _ HT.out.tab).mono ?_
 rintro e w1 ⟨rfl,k,os,hw⟩
 have hb:Below w.heap.size w w1:=by rw [hw];exact Lib.below_grow _ w (Nat.le_refl _) k os
 clear hw
 go_wp2
 go_ret
 exact ⟨rfl,hb⟩
end Go.Proofs.YtmlgkoeacbeopaaGreatDoor
