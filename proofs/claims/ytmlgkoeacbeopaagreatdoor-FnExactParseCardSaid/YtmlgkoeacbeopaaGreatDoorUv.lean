/- Uv -/
import Derived.Test.YtmlgkoeacbeopaaGreatDoorUi
import Derived.Test.YtmlgkoeacbeopaaGreatDoorUt
set_option maxHeartbeats 12800000
namespace Go.Proofs.YtmlgkoeacbeopaaGreatDoor
open Go.RowKit
def qx (U:Option Flt) (w:World) (e:Ending) (w':World):Prop:=
 ∃ v fp,e= .returned (.tuple #[.agg #[.bool (U.getD ⟨false,[]⟩).on,v],.bool U.isSome])∧cx w' w.heap.size (aj (U.getD ⟨false,[]⟩).scopes) v fp∧Below w.heap.size w w'
theorem aC (W:World) (lo:Nat):cx W lo (aj []) (.slice none 0 0) []:=
 ⟨⟨rfl,[],[],World.ownsRow_nil _ _ _ _,⟨rfl,rfl⟩,rfl⟩,List.nodup_nil,fun _ h=>(by cases h)⟩
set_option maxRecDepth 20000 in
theorem iQ (v:Value) (l:List Tok) (w:World) (hr:Rd 2 dh w v l) (hl:l.length≤100000000) (hx: ∀ t∈l,t.text.length≤1048576):
 Calls Tryz.prog 119 #[v] w fun e w'=>qx (bL l) w e w':=by
 obtain ⟨p,cap,rfl,hp⟩:=hr.ex
 have HX:=aa9 hx
 have hb1:Below w.heap.size w ((w.alloc (.cells #[.bool false,.slice none 0 0] 27)).alloc (.cells #[.slice p l.length cap,.int .i64 0,.bool false] 76)):=((Below.refl _ _).alloc (Nat.le_refl _) _).alloc (by simp) _
 have hz1:((w.alloc (.cells #[.bool false,.slice none 0 0] 27)).alloc (.cells #[.slice p l.length cap,.int .i64 0,.bool false] 76)).heap.size=w.heap.size+2:=by simp
 have h2:((w.alloc (.cells #[.bool false,.slice none 0 0] 27)).alloc (.cells #[.slice p l.length cap,.int .i64 0,.bool false] 76)).heap[w.heap.size]? =some (.cells #[.bool false,.slice none 0 0] 27 (0,0)):=(Below.heap_alloc _ _ _ (by simp)).trans (heap_alloc_new w _)
 have hi:In6 ((w.alloc (.cells #[.bool false,.slice none 0 0] 27)).alloc (.cells #[.slice p l.length cap,.int .i64 0,.bool false] 76)) (w.heap.size+1) p l cap 0 false:=by
  refine ⟨?_,hp.imp id fun ⟨b,off,hpp,hlt,hc⟩=>⟨b,off,hpp,by omega,fun i t ht=>⟨?_,?_⟩⟩⟩
  · have:=heap_alloc_new (w.alloc (.cells #[.bool false,.slice none 0 0] 27)) (.cells #[.slice p l.length cap,.int .i64 0,.bool false] 76)
    rwa [World.size_alloc] at this
  · exact (hb1.cell (p:=⟨b,off+i * 2,none⟩) hlt).trans (hc i t ht 0 _ rfl)
  · exact (hb1.cell (p:=⟨b,off+i * 2+1,none⟩) hlt).trans (hc i t ht 1 _ rfl)
 have HB1:=aa9 hb1
 have HZ1:=aa9 hz1
 have H2:=aa9 h2
 have HI:=aa9 hi
 clear hx hb1 hz1 h2 hi hp hr
 go_enter Tryz.func119,Tryz.ntmps119
 go_wp2_with fail
 generalize ((w.alloc (.cells #[.bool false,.slice none 0 0] 27)).alloc (.cells #[.slice p l.length cap,.int .i64 0,.bool false] 76))=W1 at *
 refine (jy (w.heap.size+1) cap 0 p l false 1 _ HI.out (by omega) (by omega)).mono ?_
 rintro e w1 ⟨g1,hcase⟩
 have hT: ∃ (x:List UInt8) (a:Nat) (bd:Bool),e= .returned (sv x)∧In6 w1 (w.heap.size+1) p l cap a bd∧x.length≤1048576∧((aq 1 l=some (x,l.drop 1)∧a=1∧bd=false∧1≤l.length)∨(aq 1 l=none∧x=[])):=by
  have hd:=jH l 0 1
  rw [List.drop_zero] at hd
  rcases hcase with ⟨x,hx,rfl,hi⟩ | ⟨hx,rfl,hi⟩
  · refine ⟨x,1,false,rfl,hi,?_,.inl ⟨by rw [hd,hx];rfl,rfl,rfl,?_⟩⟩
    · unfold iM at hx
      split at hx
      · rename_i t ht
        split at hx
        · injection hx with hx;rw [←hx];exact HX.out t (List.mem_of_getElem? ht)
        · cases hx
      · cases hx
    · unfold iM at hx
      cases l with
      | nil=>simp at hx
      | cons _ _=>simp
  · exact ⟨[],0,true,rfl,hi,by simp,.inr ⟨by rw [hd,hx];rfl,rfl⟩⟩
 obtain ⟨x,a1,bd1,rfl,i1,hxl,hT⟩:=hT
 have HT:=aa9 hT
 have I1:=aa9 i1
 have B1:=aa9 (HB1.out.grown g1 (by rw [HZ1.out];omega) (fun k hk=>by injection hk with hk;omega))
 have H21:=aa9 ((g1.block w.heap.size (by rw [HZ1.out];omega) (fun e=>by injection e with e;omega)).trans H2.out)
 have Z1:=aa9 (show w.heap.size+2≤w1.heap.size by have:=g1.size;rw [HZ1.out] at this;exact this)
 have CU:=aa9 (fun W=>bH ⟨x.toArray⟩ W (by unfold maxLen;show x.toArray.size≤_;simp;omega))
 rw [show (ByteArray.mk x.toArray).data.toList=x from rfl] at CU
 clear hT hcase i1 g1
 go_wp2_with fail
 refine (CU.out _).mono ?_
 rintro e w2 ⟨rfl,b2⟩
 have I2:=aa9 (I1.out.below b2)
 have B2:=aa9 (B1.out.trans (b2.mono (by have:=Z1.out;omega)))
 have H22:=aa9 ((b2.block w.heap.size (by have:=Z1.out;omega)).trans H21.out)
 have Z2:=aa9 (Nat.le_trans Z1.out b2.size)
 clear b2 CU
 clear I1 B1 H21 Z1
 cases hs:(an x==wg) with
 | true=>
   have hs':(an x==[83,69,84])=true:=hs
   have IX:=aa9 (I2.out.below (W':=(w2.alloc (.cells #[.bool true,.slice none 0 0] 27))) ((Below.refl _ _).alloc (Nat.le_refl _) _))
   have BX:=aa9 (B2.out.alloc (by have:=Z2.out;omega) (.cells #[.bool true,.slice none 0 0] 27))
   have H2X:=aa9 ((Below.heap_alloc w2 (.cells #[.bool true,.slice none 0 0] 27) w.heap.size (by have:=Z2.out;omega)).trans H22.out)
   have HFX:=aa9 (heap_alloc_new w2 (.cells #[.bool true,.slice none 0 0] 27))
   have HZX:=aa9 (show (w2.alloc (.cells #[.bool true,.slice none 0 0] 27)).heap.size=w2.heap.size+1 by simp)
   go_upto_if 26 with fail
   generalize (w2.alloc (.cells #[.bool true,.slice none 0 0] 27))=X at *
   have hx0: ¬x=[]:=by rintro rfl;simp [an,wg] at hs
   obtain ⟨hT1,rfl,rfl,hl1⟩:=HT.out.resolve_right (fun h=>hx0 h.2)
   have HU:=aa9 (show bL l=(cF (l.length+1) (l.drop 1)).bind fun ss=>nQ ⟨true,ss⟩ by
    unfold bL
    rw [hT1]
    simp only [Option.bind_some]
    rw [if_pos (beq_iff_eq.1 hs)])
   obtain ⟨cf,hcf⟩: ∃ cf,w2.heap.size=cf:=⟨_,rfl⟩
   obtain ⟨lo,hlo⟩: ∃ lo,X.heap.size=lo:=⟨_,rfl⟩
   have RF0:=aa9 (show RfS w (w.heap.size+1) p l cap cf true lo 1 false (.slice none 0 0) [] [] X from
    ⟨IX.out,hcf ▸ HFX.out,H2X.out,aC _ _,BX.out,by omega,by have:=Z2.out;omega,by have:=HZX.out;omega,by omega⟩)
   have FA0:=aa9 (Far.start hl1)
   rw [hcf]
   obtain ⟨g,hg⟩: ∃ g,w.heap.size+1=g:=⟨_,rfl⟩
   rw [hg] at RF0 ⊢
   clear hT1 hx0 HT IX BX H2X HFX HZX Z2 H22 B2 I2 hcf hlo hs HI H2 HZ1 HB1
   have q0:X.cell? ⟨w.heap.size,0,none⟩=some (.bool false):=(aa8 RF0.out.blk2 0).trans rfl
   go_wp2
   clear q0
   go_loopg [] (l.length - 1+1) (fun gk wx=> ∃ (a:Nat) (bd:Bool) (scs:List Scp) (vsc:Value) (fp:List Nat),gk=(if bd=true then 0 else l.length - a+1)∧RfS w g p l cap cf true lo a bd vsc scs fp wx∧Far l a bd scs∧ ∀ s∈scs,s.names.length≤100000000∧ ∀ y∈s.names,y.length≤1048576)
   case atStart=>exact ⟨1,false,[],_,[],rfl,RF0.out,FA0.out,by simp⟩
   case round=>
    obtain ⟨a,bd,scs,vsc,fp,hgk,rf,far,hsb⟩:=hrel
    obtain ⟨psc,csc,rfl,_⟩:=cq rf.tree.rd
    have HSB:=aa9 hsb
    have hnum:=far.num
    have RF:=aa9 rf
    have FA:=aa9 far
    have hal:=far.le
    have q1:wr.cell? ⟨g,1,none⟩=some (.int .i64 (a:Nat)):=(aa8 rf.in6.blk 1).trans rfl
    have q2:wr.cell? ⟨g,2,none⟩=some (.bool bd):=(aa8 rf.in6.blk 2).trans rfl
    have q3:wr.cell? ⟨cf,0,none⟩=some (.bool true):=(aa8 rf.blkf 0).trans rfl
    have q4:wr.cell? ⟨cf,1,none⟩=some (.slice psc scs.length csc):=(aa8 rf.blkf 1).trans rfl
    obtain ⟨c0,c1,f0,f1,s0,s1⟩:=cI rf.blk2
    clear rf far RF0 FA0 hsb
    cases bd with
    | true=>
      have HV:=aa9 (show bL l=none by rw [HU.out,FA.out.no rfl];rfl)
      clear hgk
      clear hnum
      by_cases hlt:a < l.length
      · go_wp2
        exact bodyPost_ret (v:= .tuple #[.agg #[.bool false,.slice none 0 0],.bool false]) (by simp [results,Tryz.results119,go_sem,s0,s1]) rfl ⟨.slice none 0 0,[],by rw [HV.out];rfl,by rw [HV.out];exact aC _ _,(RF.out.below.setCell (Nat.le_refl _) _).setCell (Nat.le_refl _) _⟩
      · have hge: ¬(a:Int) < (l.length:Int):=by omega
        go_wp2
        exact bodyPost_ret (v:= .tuple #[.agg #[.bool false,.slice none 0 0],.bool false]) (by simp [results,Tryz.results119,go_sem,s0,s1]) rfl ⟨.slice none 0 0,[],by rw [HV.out];rfl,by rw [HV.out];exact aC _ _,(RF.out.below.setCell (Nat.le_refl _) _).setCell (Nat.le_refl _) _⟩
    | false=>
      replace hnum:=hnum rfl
      by_cases hlt:a < l.length
      · have hlt2:(a:Int) < (l.length:Int):=by omega
        have hgk2:gk=l.length - a+1:=by rw [hgk];rfl
        clear c0 c1 f0 f1 s0 s1 hgk
        have RB0:=aa9 (RfB.start RF.out)
        obtain ⟨cs,hcs⟩: ∃ cs,wr.heap.size=cs:=⟨_,rfl⟩
        rw [hcs] at RB0
        go_wp2_with fail
        generalize (wr.alloc (.cells #[.int .i64 0,.slice none 0 0,.int .i64 0] 123))=W3 at *
        clear q1 q2 q3 q4 hcs
        refine (bU g cap a p l false 3 _ RB0.out.base.in6 (by omega) (by omega)).mono ?_
        rintro e w4 ⟨x0,a2,b2,rfl,i4,g4,st4,_⟩
        have RB4:=aa9 (RB0.out.take g4 i4)
        have ST4:=aa9 st4
        have ha2:=st4.le
        clear g4 i4 st4
        go_wp2_with fail
        refine (bU g cap a2 p l b2 1 _ RB4.out.base.in6 (by omega) (by omega)).mono ?_
        rintro e w5 ⟨x1,a3,b3,rfl,i5,g5,st5,hx1⟩
        have RB5:=aa9 (RB4.out.take g5 i5)
        have ST5:=aa9 st5
        have ha3:=st5.le
        have hx1l:x1.length≤1048576:=by
         rcases hx1 with rfl | ⟨t,ht,rfl⟩
         · simp
         · exact HX.out t ht
        have CU:=aa9 (fun W=>bH ⟨x1.toArray⟩ W (by unfold maxLen;show x1.toArray.size≤_;simp;omega))
        rw [show (ByteArray.mk x1.toArray).data.toList=x1 from rfl] at CU
        clear g5 i5 st5 hx1 RB4
        go_wp2_with fail
        refine (CU.out _).mono ?_
        rintro e w6 ⟨rfl,b6⟩
        have RB6:=aa9 (RB5.out.call b6)
        clear b6 CU RB5
        obtain ⟨u,hu⟩: ∃ u,an x1=u:=⟨_,rfl⟩
        rw [hu]
        have HUU:=aa9 hu
        clear hu
        go_wp2
        go_loopg [9] 4 (fun gi i wi=> ∃ k:Nat,k≤4∧gi=4 - k∧i= .int .i64 ((k:Int)+1)∧RfB w g p l cap cf true lo a3 b3 (.slice psc scs.length csc) scs fp cs (bJ u k) (.slice none 0 0) [] 0 wi)
        case atStart=>exact ⟨0,by omega,rfl,rfl,RB6.out⟩
        case round=>
         obtain ⟨k,hk,rfl,rfl,rb⟩:=hrel
         have RB:=aa9 rb
         clear rb RB6
         by_cases hk4:k < 4
         · have hki:(k:Int)+1≤4:=by omega
           have hki2:(k:Int)+1 < 5:=by omega
           have HE:=aa9 (show eg[k+1]? =some (scW (k+1)) by unfold scW;rw [List.getD_eq_getElem?_getD,List.getElem?_eq_getElem (show k+1 < eg.length by show k+1 < 5;omega)];rfl)
           have hwl:(scW (k+1)).length≤10:=by
            have h5:k=0∨k=1∨k=2∨k=3:=by omega
            rcases h5 with rfl | rfl | rfl | rfl <;> decide
           have CF:=aa9 (fun W=>bH ⟨(scW (k+1)).toArray⟩ W (by unfold maxLen;show (scW (k+1)).toArray.size≤_;simp;omega))
           rw [show (ByteArray.mk (scW (k+1)).toArray).data.toList=scW (k+1) from rfl] at CF
           have hstep:bJ u (k+1)=if an (scW (k+1))=u then ((k+1:Nat):Int) else bJ u k:=rfl
           go_wp2_with fail
           refine (qn _).mono ?_
           rintro e w7 ⟨rfl,hw7,hz7,b7⟩
           have RB7:=aa9 (RB.out.call b7)
           have r7:w7.cell? ⟨wr.heap.size,k+1,none⟩=some (sv (scW (k+1))):=hw7 (k+1) _ HE.out
           clear b7 hw7 RB
           go_wp2_with fail
           refine (CF.out _).mono ?_
           rintro e w8 ⟨rfl,b8⟩
           have RB8:=aa9 (RB7.out.call b8)
           clear b8 r7 CF RB7
           obtain ⟨y0,_,_,z0,_,_⟩:=RB8.out.scell
           cases hup:(an (scW (k+1))==u) with
           | true=>
             have HN:=aa9 (show bJ u (k+1)=(k:Int)+1 by rw [hstep,if_pos (beq_iff_eq.1 hup)];rfl)
             clear hstep
             go_wp2
             go_roundg (4 - (k+1))
             case measure=>omega
             case rel=>exact ⟨k+1,by omega,rfl,by go_num,by rw [HN.out];exact RB8.out.setK _⟩
           | false=>
             have HN:=aa9 (show bJ u (k+1)=bJ u k by rw [hstep,if_neg (fun h=>by rw [h] at hup;simp at hup)])
             clear hstep
             go_wp2
             go_roundg (4 - (k+1))
             case measure=>omega
             case rel=>exact ⟨k+1,by omega,rfl,by go_num,by rw [HN.out];exact RB8.out⟩
         · obtain rfl:k=4:=by omega
           obtain ⟨kd,hkd⟩: ∃ kd,bJ u 4=kd:=⟨_,rfl⟩
           rw [hkd] at RB
           have HKD:=aa9 (show bJ (an x1) 4=kd by rw [HUU.out];exact hkd)
           clear hkd hk4
           obtain ⟨y0,y1,y2,z0,z1,z2⟩:=RB.out.scell
           have hzw:lo≤wr.heap.size:=RB.out.base.o4
           have hcsw:cs < wr.heap.size:=RB.out.slt
           go_upto_if 67 with fail
           go_cut [] (fun wx=> ∃ (a4:Nat) (b4:Bool) (vn:Value) (nm:List (List UInt8)),RfB w g p l cap cf true lo a4 b4 (.slice psc scs.length csc) scs fp cs kd vn nm 0 wx∧aK (nmP kd) l a3 b3 nm a4 b4∧(∀ y∈nm,∃ t∈l,y=t.text)∧nm.length≤l.length)
           case first=>
            by_cases h3:(3:Int)≤kd
            · go_wp2_with fail
              refine (gZ g cap a3 p l b3 _ RB.out.base.in6 (by omega) ha3).mono ?_
              rintro e w8 ⟨v8,nm,a4,b4,rfl,o8,i8,g8,st8,hm8,hl8⟩
              obtain ⟨p8,c8,rfl,_⟩:=(Rd1.of_own (enc:=sv) o8).ex
              have RB8:=aa9 (RB.out.take g8 i8)
              have RBN:=aa9 (RB8.out.setN o8 hzw (fun k hk=>RB.out.base.tree.lt k hk) hcsw)
              have HF:=aa9 (show aK (nmP kd) l a3 b3 nm a4 b4∧(∀ y∈nm,∃ t∈l,y=t.text)∧nm.length≤l.length from ⟨xE h3 st8,hm8,hl8⟩)
              clear y0 y1 y2 z0 z1 z2 o8 i8 g8 st8 hm8
              obtain ⟨_,y1,_,_,z1,_⟩:=RB8.out.scell
              go_wp2_with fail
              go_meet
              exact ⟨a4,b4,_,nm,RBN.out,HF.out⟩
            · have HF:=aa9 (show aK (nmP kd) l a3 b3 [] a3 b3 from xD ha3 h3)
              go_wp2_with fail
              go_meet
              exact ⟨a3,b3,_,[],RB.out,HF.out,by simp,by simp⟩
           case rest=>
            obtain ⟨a4,b4,vn,nm,rb9,st9,hm9,hl9⟩:=hcut
            have RB9:=aa9 rb9
            have ST9:=aa9 st9
            have HM9:=aa9 hm9
            have ha4:=st9.le
            obtain ⟨pv,cv,rfl,_⟩:=(Rd1.of_own (enc:=sv) rb9.nam).ex
            clear y0 y1 y2 z0 z1 z2 rb9 st9 hm9 RB hzw hcsw
            go_wp2_with fail
            refine (gZ g cap a4 p l b4 _ RB9.out.base.in6 (by omega) ha4).mono ?_
            rintro e w10 ⟨v10,ws,a5,b5,rfl,o10,i10,g10,st10,hm10,hl10⟩
            have RB10:=aa9 (RB9.out.take g10 i10)
            have ST10:=aa9 st10
            have ha5:=st10.le
            have CB:=aa9 (r9 v10 ws w10 (Rd1.of_own (enc:=sv) o10) (by omega) (fun y hy=>by obtain ⟨t,ht,rfl⟩:=hm10 y hy;have:=HX.out t ht;omega))
            rw [v7] at CB
            have STB:=aa9 (fun a b (h:a≤l.length)=>wh (l:=l) (a:=a) (b:=b) (ws:=ws) h)
            clear o10 i10 g10 st10 hm10 RB9
            have hio:(dp (-1) 0 ws).isNone= !(dp (-1) 0 ws).isSome:=by cases dp (-1) 0 ws <;> rfl
            rw [hio] at STB
            generalize (dp (-1) 0 ws).getD 0=bv at *
            generalize (dp (-1) 0 ws).isSome=bok at *
            clear hio
            go_wp2_with fail
            refine (CB.out).mono ?_
            rintro e w11 ⟨rfl,b11⟩
            have RB11:=aa9 (RB10.out.call b11)
            clear b11 CB RB10
            obtain ⟨_,_,y2,_,_,z2⟩:=RB11.out.scell
            have RB12:=aa9 (RB11.out.setE bv)
            go_wp2_with fail
            refine (bU g cap a5 p l b5 4 _ RB12.out.base.in6 (by omega) ha5).mono ?_
            rintro e w13 ⟨x4,a6,b6,rfl,i13,g13,st13,_⟩
            have RB13:=aa9 (RB12.out.take g13 i13)
            have ST13:=aa9 st13
            have ha6:=st13.le
            clear i13 g13 st13 y2 z2 RB12 RB11
            have r2:w13.cell? ⟨g,2,none⟩=some (.bool b6):=(aa8 RB13.out.base.in6.blk 2).trans rfl
            have z2:w13.frozen? ⟨g,2,none⟩=false:=Lib.frozen_of_heap RB13.out.base.in6.blk 2
            go_upto_region 20 with fail
            go_cut [] (fun wx=>RfB w g p l cap cf true lo a6 (b6 || !bok) (.slice psc scs.length csc) scs fp cs kd (.slice pv nm.length cv) nm bv wx)
            case first=>
             cases b6 <;> cases bok
             all_goals
              go_wp2_with fail
              go_meet
              exact RB13.out.setB _
            case rest=>
             have RB14:=aa9 hcut
             have SS:=aa9 (sb ST4.out ST5.out (HKD.out.symm ▸ ST9.out) ST10.out ST13.out (STB.out a6 b6 ha6))
             rw [HKD.out] at SS
             obtain ⟨FA2,hgt⟩:=FA.out.step hlt SS.out
             have HFA:=aa9 FA2
             have HGT:=aa9 hgt
             clear hcut RB13 r2 z2 FA2 hgt
             generalize (b6 || !bok)=b7 at *
             obtain ⟨xs,fq,ho,hxx,hf⟩:=RB14.out.base.row
             have HAP:=aa9 (fun W' gn capn=>RB14.out.app (W':=W') hxx hf (gn:=gn) (capn:=capn))
             obtain ⟨y0,y1,y2,_,_,_⟩:=RB14.out.scell
             have q4:wc.cell? ⟨cf,1,none⟩=some (.slice psc scs.length csc):=(aa8 RB14.out.base.blkf 1).trans rfl
             have hlo:=RB14.out.base.o4
             clear hxx hf
             go_wp2_with (at_builtin;refine aE Tryz.el_scp rfl (.tmp 93) (.tmp 95) rfl wc wc (.slice psc scs.length csc) scs.length xs rfl ho (Below.refl _ _) hlo #[.int .i64 kd,.slice pv nm.length cv,.int .i64 bv] (.inr rfl) 1 1 rfl rfl (by simp [Value.oneCell']) (by omega) (by omega) (by omega) ?_)
             intro gn capn w15 o15 _ g15 hor _
             obtain ⟨fp',rf',hcf'⟩:=HAP.out w15 gn capn o15 g15 hor
             have RF':=aa9 rf'
             have q5:w15.cell? ⟨cf,1,none⟩=some (.slice psc scs.length csc):=(aa8 hcf' 1).trans rfl
             have z5:w15.frozen? ⟨cf,1,none⟩=false:=Lib.frozen_of_heap hcf' 1
             clear o15 g15 hor rf' hcf' y0 y1 y2 q4 ho
             go_wp2
             go_roundg (if b7=true then 0 else l.length - a6+1)
             case measure=>
              cases b7 with
              | true=>simp;omega
              | false=>have:=HGT.out rfl;simp;omega
             case rel=>
              refine ⟨a6,b7,scs++[⟨kd,nm,bv⟩],_,fp',rfl,RF'.out,HFA.out,?_⟩
              intro s hs
              rcases List.mem_append.1 hs with hs | hs
              · exact HSB.out s hs
              · rw [List.mem_singleton.1 hs]
                exact ⟨by simp only;omega,fun y hy=>by obtain ⟨t,ht,rfl⟩:=HM9.out y hy;exact HX.out t ht⟩
      · obtain rfl:a=l.length:=by omega
        have hge: ¬(l.length:Int) < (l.length:Int):=by omega
        have CF:=aa9 (dJ ⟨true,scs⟩ (.slice psc scs.length csc) wr RF.out.tree.rd (by simp only;omega) (fun s hs=>⟨by have:=(HSB.out s hs).1;omega,fun y hy=>by have:=(HSB.out s hs).2 y hy;omega⟩))
        have HV0:=aa9 (show bL l=nQ ⟨true,scs⟩ by rw [HU.out,FA.out.done];rfl)
        go_wp2_with fail
        refine (CF.out).mono ?_
        rintro e w3 ⟨rfl,b3⟩
        have RF3:=aa9 (RF.out.call b3)
        have q5:w3.cell? ⟨cf,0,none⟩=some (.bool true):=(aa8 RF3.out.blkf 0).trans rfl
        have q6:w3.cell? ⟨cf,1,none⟩=some (.slice psc scs.length csc):=(aa8 RF3.out.blkf 1).trans rfl
        clear q1 q2 q3 q4 c0 c1 f0 f1 s0 s1 b3 CF
        obtain ⟨c0,c1,f0,f1,s0,s1⟩:=cI RF3.out.blk2
        cases hok:aN ⟨true,scs⟩ with
        | false=>
          have HV:=aa9 (show bL l=none by rw [HV0.out];unfold nQ;rw [hok];rfl)
          go_wp2
          exact bodyPost_ret (v:= .tuple #[.agg #[.bool false,.slice none 0 0],.bool false]) (by simp [results,Tryz.results119,go_sem,s0,s1]) rfl ⟨.slice none 0 0,[],by rw [HV.out];rfl,by rw [HV.out];exact aC _ _,(RF3.out.below.setCell (Nat.le_refl _) _).setCell (Nat.le_refl _) _⟩
        | true=>
          have HV:=aa9 (show bL l=some ⟨true,scs⟩ by rw [HV0.out];unfold nQ;rw [hok];rfl)
          have HTR:=aa9 (show cx ((w3.setCell ⟨w.heap.size,0,none⟩ (.bool true)).setCell ⟨w.heap.size,1,none⟩ (.slice psc scs.length csc)) w.heap.size (aj scs) (.slice psc scs.length csc) fp by
           have hlow: ∀ k∈fp,w.heap.size < k:=fun k hk=>by have h1:=RF3.out.tree.low k hk;have h2:=RF3.out.o1;have h3:=RF3.out.o2;have h4:=RF3.out.o3;omega
           refine ⟨au.frame _ _ _ (fun k hk=> ?_) RF3.out.tree.is,RF3.out.tree.nodup,fun k hk=>Nat.le_of_lt (hlow k hk)⟩
           have:=hlow k hk
           exact (aD (by omega)).trans (aD (by omega)))
          go_wp2
          exact bodyPost_ret (v:= .tuple #[.agg #[.bool true,.slice psc scs.length csc],.bool true]) (by simp [results,Tryz.results119,go_sem,s0,s1]) rfl ⟨.slice psc scs.length csc,fp,by rw [HV.out];rfl,by rw [HV.out];exact HTR.out,(RF3.out.below.setCell (Nat.le_refl _) _).setCell (Nat.le_refl _) _⟩
 | false=>
   have hs':(an x==[83,69,84])=false:=hs
   cases hn:(an x==lk) with
   | true=>
     have hn':(an x==[78,79,78,69])=true:=hn
     have IX:=aa9 (I2.out.below (W':=(w2.alloc (.cells #[.bool false,.slice none 0 0] 27))) ((Below.refl _ _).alloc (Nat.le_refl _) _))
     have BX:=aa9 (B2.out.alloc (by have:=Z2.out;omega) (.cells #[.bool false,.slice none 0 0] 27))
     have H2X:=aa9 ((Below.heap_alloc w2 (.cells #[.bool false,.slice none 0 0] 27) w.heap.size (by have:=Z2.out;omega)).trans H22.out)
     have HFX:=aa9 (heap_alloc_new w2 (.cells #[.bool false,.slice none 0 0] 27))
     have HZX:=aa9 (show (w2.alloc (.cells #[.bool false,.slice none 0 0] 27)).heap.size=w2.heap.size+1 by simp)
     go_upto_if 26 with fail
     generalize (w2.alloc (.cells #[.bool false,.slice none 0 0] 27))=X at *
     have hx0: ¬x=[]:=by rintro rfl;simp [an,lk] at hn
     obtain ⟨hT1,rfl,rfl,hl1⟩:=HT.out.resolve_right (fun h=>hx0 h.2)
     have hU:bL l=if l.drop 1=[] then nQ ⟨false,[]⟩ else none:=by
      unfold bL
      rw [hT1]
      simp only [Option.bind_some]
      rw [if_neg (fun e=>by rw [e] at hs;simp at hs),if_pos (beq_iff_eq.1 hn)]
     have q1:X.cell? ⟨w.heap.size+1,1,none⟩=some (.int .i64 1):=(aa8 IX.out.blk 1).trans rfl
     have q2:X.cell? ⟨w.heap.size+1,2,none⟩=some (.bool false):=(aa8 IX.out.blk 2).trans rfl
     have q3:X.cell? ⟨w2.heap.size,0,none⟩=some (.bool false):=(aa8 HFX.out 0).trans rfl
     have q4:X.cell? ⟨w2.heap.size,1,none⟩=some (.slice none 0 0):=(aa8 HFX.out 1).trans rfl
     clear hT1
     by_cases hl2:l.length=1
     · have HV:=aa9 (show bL l=some ⟨false,[]⟩ by rw [hU,if_pos (List.drop_of_length_le (by omega))];rfl)
       have CF:=aa9 (dJ ⟨false,[]⟩ (.slice none 0 0) X (aC X 0).rd (by simp) (by simp))
       have hfb:aN ⟨false,[]⟩=true:=rfl
       rw [hfb] at CF
       simp only at CF
       clear hU
       go_wp2
       refine wp_loop_rounds 1 ?_
       rw [rounds_succ]
       go_wp2_with fail
       refine (CF.out).mono ?_
       rintro e w3 ⟨rfl,b3⟩
       have H23:=aa9 ((b3.block w.heap.size (by have:=HZX.out;have:=Z2.out;omega)).trans H2X.out)
       have HF3:=aa9 ((b3.block w2.heap.size (by have:=HZX.out;omega)).trans HFX.out)
       have q5:w3.cell? ⟨w2.heap.size,0,none⟩=some (.bool false):=(aa8 HF3.out 0).trans rfl
       have q6:w3.cell? ⟨w2.heap.size,1,none⟩=some (.slice none 0 0):=(aa8 HF3.out 1).trans rfl
       have B3:=aa9 (BX.out.trans (b3.mono (by have:=HZX.out;have:=Z2.out;omega)))
       obtain ⟨c0,c1,f0,f1,s0,s1⟩:=cI H23.out
       clear q1 q2 q3 q4 b3 CF
       go_wp2
       exact bodyPost_ret (v:= .tuple #[.agg #[.bool false,.slice none 0 0],.bool true]) (by simp [results,Tryz.results119,go_sem,s0,s1]) rfl ⟨.slice none 0 0,[],by rw [HV.out];rfl,by rw [HV.out];exact aC _ _,(B3.out.setCell (Nat.le_refl _) _).setCell (Nat.le_refl _) _⟩
     · have hl3:(1:Int) < (l.length:Int):=by omega
       have HV:=aa9 (show bL l=none by
        rw [hU,if_neg]
        intro e
        have:=congrArg List.length e
        simp at this
        omega)
       obtain ⟨c0,c1,f0,f1,s0,s1⟩:=cI H2X.out
       clear hU
       go_wp2
       refine wp_loop_rounds 1 ?_
       rw [rounds_succ]
       go_wp2
       exact bodyPost_ret (v:= .tuple #[.agg #[.bool false,.slice none 0 0],.bool false]) (by simp [results,Tryz.results119,go_sem,s0,s1]) rfl ⟨.slice none 0 0,[],by rw [HV.out];rfl,by rw [HV.out];exact aC _ _,(BX.out.setCell (Nat.le_refl _) _).setCell (Nat.le_refl _) _⟩
   | false=>
     have HV:=aa9 (show bL l=none by
      unfold bL
      rcases HT.out with ⟨h,_⟩ | ⟨h,_⟩
      · rw [h]
        simp only [Option.bind_some]
        rw [if_neg (fun e=>by rw [e] at hs;simp at hs),if_neg (fun e=>by rw [e] at hn;simp at hn)]
      · rw [h];rfl)
     have hn':(an x==[78,79,78,69])=false:=hn
     have IX:=aa9 (I2.out.below (W':=(w2.alloc (.cells #[.bool false,.slice none 0 0] 27))) ((Below.refl _ _).alloc (Nat.le_refl _) _))
     have BX:=aa9 (B2.out.alloc (by have:=Z2.out;omega) (.cells #[.bool false,.slice none 0 0] 27))
     have H2X:=aa9 ((Below.heap_alloc w2 (.cells #[.bool false,.slice none 0 0] 27) w.heap.size (by have:=Z2.out;omega)).trans H22.out)
     have HFX:=aa9 (heap_alloc_new w2 (.cells #[.bool false,.slice none 0 0] 27))
     have HZX:=aa9 (show (w2.alloc (.cells #[.bool false,.slice none 0 0] 27)).heap.size=w2.heap.size+1 by simp)
     go_upto_if 26 with fail
     generalize (w2.alloc (.cells #[.bool false,.slice none 0 0] 27))=X at *
     obtain ⟨c0,c1,f0,f1,s0,s1⟩:=cI H2X.out
     go_wp2
     exact bodyPost_ret (v:= .tuple #[.agg #[.bool false,.slice none 0 0],.bool false]) (by simp [results,Tryz.results119,go_sem,s0,s1]) rfl ⟨.slice none 0 0,[],by rw [HV.out];rfl,by rw [HV.out];exact aC _ _,(BX.out.setCell (Nat.le_refl _) _).setCell (Nat.le_refl _) _⟩
def gQ (G:World→Prop):Prop:= ∀ (v:Value) (l:List Tok) (W:World),G W→Rd 2 dh W v l→c7 v→l.length≤1048576→(∀ t∈l,t.text.length≤1048576)→
 Calls Tryz.prog 185 #[v] W fun e w'=>qx (bL l) W e w'
theorem qy: ∀ (l:List Scp) (k:Nat),(∀ s∈l,s.names.length≤3)→fg l k≤k+5 * l.length
 | [],k,_=>by simp [fg]
 | s::r,k,h=>by
   have h1:=qy r (k+2+s.names.length) (fun t ht=>h t (by simp [ht]))
   have h2:=h s (by simp)
   simp only [fg,List.length_cons]
   omega
theorem jI {l:List Tok} {f:Flt} (h:bL l=some f):aN f=true:=by
 unfold bL at h
 obtain ⟨q,_,h⟩:=Option.bind_eq_some_iff.1 h
 have fin: ∀ g,nQ g=some f→aN f=true:=by
  intro g hg
  unfold nQ at hg
  split at hg
  · rename_i hb;injection hg with hg;rw [←hg];exact hb
  · cases hg
 split at h
 · obtain ⟨ss,_,h⟩:=Option.bind_eq_some_iff.1 h
   exact fin _ h
 · split at h
   · split at h
     · exact fin _ h
     · cases h
   · cases h
theorem xJ (l:List Tok):((bL l).getD ⟨false,[]⟩).scopes.length≤3∧ ∀ s∈((bL l).getD ⟨false,[]⟩).scopes,s.names.length≤3:=by
 cases h:bL l with
 | none=>simp
 | some f=>
   obtain ⟨h1,h2⟩:=oO (jI h)
   exact ⟨h2,fun s hs=>(lg (h1 s hs)).2.2.2.2⟩
end Go.Proofs.YtmlgkoeacbeopaaGreatDoor
