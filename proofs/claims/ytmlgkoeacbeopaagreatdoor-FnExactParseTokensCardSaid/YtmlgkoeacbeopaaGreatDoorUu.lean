/- Uu -/
import Derived.Test.YtmlgkoeacbeopaaGreatDoorUi
import Derived.Test.YtmlgkoeacbeopaaGreatDoorUt
set_option maxHeartbeats 6400000
namespace Go.Proofs.YtmlgkoeacbeopaaGreatDoor
open Go.RowKit
open Go.Lib (decDigits itoa)
def oL19 : List (Nat × Bool) := [(0, true), (1, true), (4, true), (5, true), (2, false), (3, true), (6, false), (7, true), (8, true)]
def oL18 : List (Nat × Bool) := [(0, true), (1, true), (2, true), (3, true), (4, true), (5, true), (6, true), (7, true), (8, true), (9, true), (10, true)]
theorem mx (n:Int) (w:World) (hn:bW n):
 Calls Tryz.prog 158 #[.int .i64 n] w fun e w'=>e= .returned (sv (dN n))∧Below w.heap.size w w':=by
 have C1:=aa9 (fun W=>l8 n W hn.1 hn.2)
 cases h:(n==0) with
 | true=>
   have HV:=aa9 (show dN n=[42] by unfold dN;rw [if_pos (beq_iff_eq.1 h)])
   go_enter Tryz.func158,Tryz.ntmps158
   go_wp2
   go_ret
   exact ⟨by rw [HV.out];rfl,Below.refl _ _⟩
 | false=>
   have HV:=aa9 (show dN n=itoa n by unfold dN;rw [if_neg (beq_eq_false_iff_ne.1 h)])
   go_enter Tryz.func158,Tryz.ntmps158
   go_wp2_with fail
   refine (C1.out _).mono ?_
   rintro e w1 ⟨rfl,b1⟩
   go_wp2
   go_ret
   exact ⟨by rw [HV.out];rfl,b1⟩
theorem ui {m:Nat} : ∀ (l:List (List UInt8)),(∀ x∈l,x.length≤m)→szl l≤m * l.length
 | [],_=>by simp [szl]
 | a::l,h=>by
   have h1:=h a (by simp)
   have h2:=ui l (fun x hx=>h x (by simp [hx]))
   have e:szl (a::l)=a.length+szl l:=by simp [szl]
   rw [e,List.length_cons,Nat.mul_succ]
   omega
theorem iP {n:Int} (h:kE n=true):bW n:=by
 obtain ⟨k,rfl,hk⟩:=nx h
 exact ⟨by omega,by omega⟩
theorem lm (v:Value) (l:List Spn) (w:World) (hr:Rd 2 je w v l) (hl:l.length≤140737488355328):
 Calls Tryz.prog 93 #[v] w fun e w'=>e= .returned (sv (fJ l))∧Below w.heap.size w w':=by
 have c1:=ir v l w hr hl
 cases hb:setB l with
 | false=>
   rw [hb] at c1
   have C1:=aa9 c1
   have HV:=aa9 (show fJ l=[] by unfold fJ;rw [if_neg (by rw [hb];simp)])
   clear c1 hb
   go_enter Tryz.func93,Tryz.ntmps93
   go_wp2_with fail
   refine (C1.out).mono ?_
   rintro e w1 ⟨rfl,rfl⟩
   go_wp2
   go_ret
   exact ⟨by rw [HV.out];rfl,Below.refl _ _⟩
 | true=>
   rw [hb] at c1
   have C1:=aa9 c1
   obtain ⟨hs1,hs2,hs3⟩:=cX hb
   have HS:=aa9 hs1
   have HV:=aa9 (show fJ l=Lib.join (l.map fa) [44] by unfold fJ;rw [if_pos hb])
   obtain ⟨p,c,rfl,hp⟩:=hr.ex
   have HP:=aa9 hp
   have hoA:(w.alloc (.cells #[] 9)).ownsRow w.heap.size 9 1 (.slice (some ⟨w.heap.size,0,none⟩) 0 0) 0 []:=World.ownsRow_made w #[] 0 (Nat.le_refl _) (by unfold maxLen;omega) (by simp)
   have HOA:=aa9 hoA
   clear c1 hb hp hr hs1 hoA
   go_enter Tryz.func93,Tryz.ntmps93
   go_wp2_with fail
   refine (C1.out).mono ?_
   rintro e w1 ⟨rfl,rfl⟩
   clear C1
   go_wp2
   go_loopw [3,4] (fun v i wr=> ∃ k:Nat,k≤l.length∧i= .int .i64 k∧wr.ownsRow w.heap.size 9 1 v k (((l.take k).map fa).map sv)∧Below w.heap.size w wr) (fun _ i _=>l.length - (intOf i).toNat)
   case atStart=>exact ⟨0,by omega,rfl,HOA.out,(Below.refl _ _).alloc (Nat.le_refl _) _⟩
   case round=>
    obtain ⟨k,hk,rfl,hown,hbr⟩:=hrel
    have hbr0:=hbr.size
    clear HOA
    by_cases hlt:k < l.length
    · obtain ⟨b,off,rfl,hb1,hcell⟩:=HP.out.resolve_left (by intro h;subst h;simp at hlt)
      obtain ⟨t,ht⟩: ∃ t,l[k]? =some t:=⟨_,List.getElem?_eq_getElem hlt⟩
      have htb:=HS.out t (List.mem_of_getElem? ht)
      have hnb:=htb
      unfold kF at hnb
      simp only [Bool.and_eq_true] at hnb
      have e1:wr.cell? ⟨b,off+k * 2,none⟩=some (.int .i64 t.low):=(hbr.cell (p:=⟨b,off+k * 2,none⟩) hb1).trans (hcell k t ht 0 _ rfl)
      have e2:wr.cell? ⟨b,off+k * 2+1,none⟩=some (.int .i64 t.high):=(hbr.cell (p:=⟨b,off+k * 2+1,none⟩) hb1).trans (hcell k t ht 1 _ rfl)
      have hbw:b < wr.heap.size:=Nat.lt_of_lt_of_le hb1 hbr0
      have D1:=aa9 (fun W=>mx t.low W (iP hnb.1))
      have D2:=aa9 (fun W=>mx t.high W (iP hnb.2))
      have hl1:=(gx hnb.1).2
      have hl2:=(gx hnb.2).2
      have hq1:(ByteArray.mk (dN t.low).toArray).size=(dN t.low).length:=by show (dN t.low).toArray.size=_;simp
      have hq2:(ByteArray.mk (dN t.high).toArray).size=(dN t.high).length:=by show (dN t.high).toArray.size=_;simp
      have HTK:=aa9 (show ((l.take (k+1)).map fa).map sv=((l.take k).map fa).map sv++[sv (fa t)] by rw [jm ht];simp)
      clear hcell HP ht hnb htb
      go_wp2_with fail
      refine (D1.out _).mono ?_
      rintro e w2 ⟨rfl,b2⟩
      have f1:=(b2.cell (p:=⟨b,off+k * 2,none⟩) hbw).trans e1
      have f2:=(b2.cell (p:=⟨b,off+k * 2+1,none⟩) hbw).trans e2
      have o2:=ao hown b2
      have hb2:=hbr.trans (b2.mono hbr0)
      have hz2:=hb2.size
      have hbw2:b < w2.heap.size:=Nat.lt_of_lt_of_le hbw b2.size
      clear e1 e2 hown hbr b2 D1
      cases hne:(t.high==t.low) with
      | true=>
        have hne2:(t.high != t.low)=false:=by simp only [bne,hne];rfl
        have HW:=aa9 (show sv (fa t)=sv (dN t.low) by unfold fa;rw [if_pos (beq_iff_eq.1 hne)])
        go_wp2
        refine ah oL18 (fun W=>W.cell? ⟨b,off+k * 2,none⟩=some (.int .i64 t.low)∧W.cell? ⟨b,off+k * 2+1,none⟩=some (.int .i64 t.high)) (by kernel_rfl) (by kernel_rfl) rfl (by kernel_rfl) ?_
        intro ops' hops
        clear hops
        simp only [oL18,List.map_cons,List.map_nil,ae,ag]
        iterate 11 (refine aa ?_ (fun _ _ _ h=>h) rfl ?_ ⟨f1,f2⟩ ?_;rotate_left;focus (intro W hS;obtain ⟨s1,s2⟩:=hS;go_simp;rfl))
        refine ai ?_
        go_simp
        clear f1 f2
        go_wp2_with (at_builtin;refine aE Tryz.el_string rfl (.tmp 42) (.tmp 44) rfl w w2.drew u3 k _ rfl o2.drew hb2.drew hz2 #[sv (dN t.low)] (.inr rfl) 1 1 rfl rfl (by simp [Value.oneCell']) (by omega) (by omega) (by omega) ?_)
        intro g cap w3 hown3 hb3 _ _ _
        clear o2 hb2
        go_wp2
        go_roundw
        case rel=>exact ⟨k+1,by omega,by go_num,by rw [HTK.out,HW.out];simpa using hown3,hb3⟩
        case measure=>simp [intOf];omega
      | false=>
        have hne2:(t.high != t.low)=true:=by simp only [bne,hne];rfl
        have HW:=aa9 (show sv (fa t)= .string (((⟨(dN t.low).toArray⟩:ByteArray)++⟨#[58]⟩)++⟨(dN t.high).toArray⟩) by
         unfold fa
         rw [if_neg (beq_eq_false_iff_ne.1 hne)]
         unfold sv
         congr 1
         apply ByteArray.ext
         apply Array.ext'
         simp)
        go_wp2
        refine ah oL18 (fun W=>W.cell? ⟨b,off+k * 2,none⟩=some (.int .i64 t.low)∧W.cell? ⟨b,off+k * 2+1,none⟩=some (.int .i64 t.high)) (by kernel_rfl) (by kernel_rfl) rfl (by kernel_rfl) ?_
        intro ops' hops
        clear hops
        simp only [oL18,List.map_cons,List.map_nil,ae,ag]
        iterate 11 (refine aa ?_ (fun _ _ _ h=>h) rfl ?_ ⟨f1,f2⟩ ?_;rotate_left;focus (intro W hS;obtain ⟨s1,s2⟩:=hS;go_simp;rfl))
        refine ai ?_
        go_simp
        have f3:w2.drew.cell? ⟨b,off+k * 2+1,none⟩=some (.int .i64 t.high):=f2
        have o3:=o2.drew
        have hb3:=hb2.drew
        clear f1 f2 o2 hb2
        go_wp2_with fail
        refine (D2.out _).mono ?_
        rintro e w3 ⟨rfl,b3⟩
        have o4:=ao o3 b3
        have hb4:=hb3.trans (b3.mono hb3.size)
        have hz4:=hb4.size
        clear o3 hb3 b3 f3
        go_wp2_with (at_builtin;refine aE Tryz.el_string rfl (.tmp 42) (.tmp 44) rfl w w3 u3 k _ rfl o4 hb4 hz4 #[.string (((⟨(dN t.low).toArray⟩:ByteArray)++⟨#[58]⟩)++⟨(dN t.high).toArray⟩)] (.inr rfl) 1 1 rfl rfl (by simp [Value.oneCell']) (by omega) (by omega) (by omega) ?_)
        intro g cap w5 hown5 hb5 _ _ _
        clear o4 hb4
        go_wp2
        go_roundw
        case rel=>exact ⟨k+1,by omega,by go_num,by rw [HTK.out,HW.out];simpa using hown5,hb5⟩
        case measure=>simp [intOf];omega
    · obtain rfl:k=l.length:=by omega
      rw [List.take_length] at hown
      have hlen:(l.map fa).length=l.length:=by simp
      have hru:Rd1 sv wr u3 (l.map fa):=Rd1.of_own (enc:=sv) hown
      have hsz:szl (l.map fa)≤43 * (l.map fa).length:=ui _ (fun x hx=>by
       obtain ⟨s,hs,rfl⟩:=List.mem_map.1 hx
       exact (ny (HS.out s hs)).2)
      have CJ:=aa9 (lX u3 (l.map fa) [44] wr hru (by rw [hlen] at hsz ⊢;omega) (by simp))
      clear hown hru hsz
      go_wp2_with fail
      refine (CJ.out).mono ?_
      rintro e w2 ⟨rfl,b2⟩
      have hb2:=hbr.trans (b2.mono hbr0)
      go_wp2
      go_ret
      exact ⟨by rw [HV.out];rfl,hb2⟩
end Go.Proofs.YtmlgkoeacbeopaaGreatDoor
namespace Go.Proofs.YtmlgkoeacbeopaaGreatDoor
open Go.RowKit
def qt (U:Option (List Spn)) (w:World) (e:Ending) (w':World):Prop:=
 ∃ v,e= .returned (.tuple #[v,.bool U.isSome])∧w'.ownsRow w.heap.size 62 2 v (U.getD []).length ((U.getD []).flatMap je)∧Below w.heap.size w w'
theorem jY (s:ByteArray) (w:World) (hs:s.size≤1048576):
 Calls Tryz.prog 172 #[.string s] w fun e w'=>e= .returned (.int .i64 (l4n s.data.toList))∧Below w.heap.size w w':=by
 have c1:=fun W=>gJ s W hs
 cases hn:eJ s.data.toList with
 | none=>
   rw [eL hn] at c1
   have C1:=aa9 c1
   have HV:=aa9 (show l4n s.data.toList=0 by unfold l4n;rw [hn])
   clear c1 hn
   go_enter Tryz.func172,Tryz.ntmps172
   go_wp2_with fail
   refine (C1.out _).mono ?_
   rintro e w1 ⟨rfl,b1⟩
   go_wp2
   go_ret
   exact ⟨by rw [HV.out];rfl,b1⟩
 | some n=>
   rw [ic hn] at c1
   have C1:=aa9 c1
   have HV:=aa9 (show l4n s.data.toList=(n:Int) by unfold l4n;rw [hn])
   clear c1 hn
   go_enter Tryz.func172,Tryz.ntmps172
   go_wp2_with fail
   refine (C1.out _).mono ?_
   rintro e w1 ⟨rfl,b1⟩
   go_wp2
   go_ret
   exact ⟨by rw [HV.out];rfl,b1⟩
theorem ln (c:UInt8): ∀ (l:List UInt8),∀ x∈aR c l,x.length≤l.length
 | [],x,h=>by simp [aR] at h;subst h;simp
 | b::r,x,h=>by
   unfold aR at h
   split at h
   · rcases List.mem_cons.1 h with rfl | h
     · simp
     · have:=ln c r x h;simp;omega
   · split at h
     · rw [List.mem_singleton.1 h];simp
     · rename_i y ys hy
       have ih:=fun z hz=>ln c r z hz
       rw [hy] at ih
       rcases List.mem_cons.1 h with rfl | h
       · have:=ih y (by simp);simp;omega
       · have:=ih x (by simp [h]);simp;omega
theorem xH {s:List UInt8} (h:(aR 44 s).length≤5):pL s=((aR 44 s).take (aR 44 s).length).map gY:=by unfold pL;rw [if_pos h,List.take_length]
theorem yX {s:List UInt8} (h: ¬(aR 44 s).length≤5):pL s=((aR 44 s).take 0).map gY:=by unfold pL;rw [if_neg h];rfl
theorem fo {w:World} {a b:Value} {e:TypeId} :(w.alloc (.cells #[a,b] e)).cell? ⟨w.heap.size,0,none⟩=some a∧(w.alloc (.cells #[a,b] e)).cell? ⟨w.heap.size,1,none⟩=some b∧(∀ j,(w.alloc (.cells #[a,b] e)).frozen? ⟨w.heap.size,j,none⟩=false):=by
 refine ⟨by simp [go_sem],by simp [go_sem],fun j=>by simp [go_sem]⟩
theorem rs {W:World} {b:Nat} {x0 x1:Value} (h0:W.cell? ⟨b,0,none⟩=some x0) (h1:W.cell? ⟨b,1,none⟩=some x1) (v v':Value):
 ((W.setCell ⟨b,0,none⟩ v).setCell ⟨b,1,none⟩ v').cell? ⟨b,0,none⟩=some v∧((W.setCell ⟨b,0,none⟩ v).setCell ⟨b,1,none⟩ v').cell? ⟨b,1,none⟩=some v':=by
 have e1:(W.setCell ⟨b,0,none⟩ v).cell? ⟨b,1,none⟩=some x1:=(World.cell?_setCell_other W _ _ _ (by intro e;injection e with _ e2;cases e2)).trans h1
 refine ⟨(World.cell?_setCell_other _ _ _ _ (by intro e;injection e with _ e2;cases e2)).trans (World.cell?_setCell_same W _ _ h0),World.cell?_setCell_same _ _ _ e1⟩
theorem j5 (l:List UInt8) (w:World) (hs:l.length≤1048576):
 Calls Tryz.prog 116 #[sv l] w fun e w'=>qt (bq l) w e w':=by
 have hlz:(ByteArray.mk l.toArray).size≤1048576:=by show l.toArray.size≤_;simp;omega
 have hwA:Below w.heap.size w (w.alloc (.cells #[] 62)):=(Below.refl _ _).alloc (Nat.le_refl _) _
 have hoA:(w.alloc (.cells #[] 62)).ownsRow w.heap.size 62 2 (.slice (some ⟨w.heap.size,0,none⟩) 0 0) 0 []:=World.ownsRow_made w #[] 0 (Nat.le_refl _) (by unfold maxLen;omega) (by simp)
 have hzA:(w.alloc (.cells #[] 62)).heap.size=w.heap.size+1:=by simp
 have C1:=aa9 (ik ⟨l.toArray⟩ 44 (w.alloc (.cells #[] 62)) hlz)
 rw [show (ByteArray.mk l.toArray).data.toList=l from rfl] at C1
 have hpl:=ln 44 l
 have hne:=n7 44 l
 have hPL:=dP 44 l
 have HPL:=aa9 hpl
 have HRY:=aa9 (xH (s:=l))
 have HRN:=aa9 (yX (s:=l))
 have HU:=aa9 (show ∀ L,pL l=L→bq l=if l=[]∨fJ L ≠ l then none else some L from fun L e=>by unfold bq;rw [e])
 clear hpl hne hlz
 generalize aR 44 l=ws at *
 go_enter Tryz.func116,Tryz.ntmps116
 go_wp2_with fail
 refine (C1.out).mono ?_
 rintro e w1 ⟨vw,rfl,ow,b1⟩
 have htw: ∀ g,vw.ownBlock=some g→w.heap.size+1≤g∧g < w1.heap.size:=fun g hg=>by have:=ow.lt g hg;omega
 have hb1:=hwA.trans (b1.mono (by omega))
 have ho1:=ao hoA b1
 have hz1:w.heap.size+1≤w1.heap.size:=by have:=b1.size;omega
 have HTW:=aa9 htw
 obtain ⟨pw,cw,rfl⟩:=oh ow
 clear C1 b1 hwA hoA htw
 go_wp2
 go_loopw [4,6] (fun v i wr=> ∃ k:Nat,k≤ws.length∧(ws.length≤5∨k=0)∧i= .int .i64 k∧wr.ownsRow w.heap.size 62 2 v k (((ws.take k).map gY).flatMap je)∧Below w.heap.size w wr∧
  wr.ownsRow (w.alloc (.cells #[] 62)).heap.size 9 1 (.slice pw ws.length cw) ws.length (ws.map sv)∧(∀ g,v.ownBlock=some g→g=w.heap.size∨w1.heap.size≤g)∧w1.heap.size≤wr.heap.size) (fun _ i _=>ws.length - (intOf i).toNat)
 case atStart=>exact ⟨0,by omega,.inr rfl,rfl,ho1,hb1,ow,fun g hg=>by injection hg with hg;exact .inl hg.symm,Nat.le_refl _⟩
 case round=>
  obtain ⟨k,hk,hk5,rfl,hown,hbr,how,htop,hzr⟩:=hrel
  have hbr0:=hbr.size
  have HTO:=aa9 htop
  clear ho1 hb1 ow htop
  have hcases:(k < ws.length∧ws.length≤5)∨(¬k < ws.length∧pL l=(ws.take k).map gY)∨(k < ws.length∧ ¬ws.length≤5∧pL l=(ws.take k).map gY):=by
   by_cases h1:k < ws.length
   · by_cases h2:ws.length≤5
     · exact .inl ⟨h1,h2⟩
     · have h3:k=0:=hk5.resolve_left h2
       exact .inr (.inr ⟨h1,h2,by rw [h3];exact HRN.out h2⟩)
   · refine .inr (.inl ⟨h1,?_⟩)
     have hkn:k=ws.length:=by omega
     rcases hk5 with h2 | h2
     · rw [hkn];exact HRY.out h2
     · by_cases h3:ws.length≤5
       · rw [hkn];exact HRY.out h3
       · omega
  rcases hcases with ⟨hlt,hle5⟩ | hfin
  · have hle5i:(ws.length:Int)≤5:=by omega
    have hrw:=Rd1.of_own (enc:=sv) how
    obtain ⟨P,Q,hv,hc⟩:=hrw.ex
    injection hv with e1 _ e3
    subst e1
    subst e3
    obtain ⟨gw,o,rfl,hgw,hcw⟩:=hc.resolve_left (by intro h;rw [h] at hlt;simp at hlt)
    obtain ⟨x,hx⟩: ∃ x,ws[k]? =some x:=⟨_,List.getElem?_eq_getElem hlt⟩
    have e1:wr.cell? ⟨gw,o+k,none⟩=some (sv x):=hcw k x hx
    have hxl:=HPL.out x (List.mem_of_getElem? hx)
    have hxz:(ByteArray.mk x.toArray).size≤1048576:=by show x.toArray.size≤_;simp;omega
    have C2:=aa9 (fun W=>ik ⟨x.toArray⟩ 58 W hxz)
    have hpl2:=ln 58 x
    have hne2:=n7 58 x
    have hPL2:=dP 58 x
    have HW:=aa9 (show (ws.take (k+1)).map gY=(ws.take k).map gY++[gY x] by rw [jm hx];simp)
    have HWS:=aa9 (show gY x=⟨l4n ((aR 58 x).headD []),l4n ((aR 58 x).getLastD [])⟩ from rfl)
    rw [show (ByteArray.mk x.toArray).data.toList=x from rfl] at C2
    have how2:=how
    clear hcw hc hrw hx HRY HRN hk5
    obtain ⟨y0,hy0,hyh⟩: ∃ y0,(aR 58 x)[0]? =some y0∧(aR 58 x).headD []=y0:=by
     cases hh:aR 58 x with
     | nil=>exact absurd hh hne2
     | cons a r=>exact ⟨a,rfl,rfl⟩
    obtain ⟨j,hj⟩: ∃ j,(aR 58 x).length=j+1:=⟨(aR 58 x).length - 1,by have:=List.length_pos_iff.2 hne2;omega⟩
    obtain ⟨yj,hyj,hyl⟩: ∃ yj,(aR 58 x)[j]? =some yj∧(aR 58 x).getLastD []=yj:=by
     refine ⟨(aR 58 x)[j]'(by omega),List.getElem?_eq_getElem _,?_⟩
     rw [List.getLastD_eq_getLast?,List.getLast?_eq_getElem?,show (aR 58 x).length - 1=j by omega,List.getElem?_eq_getElem (by omega)]
     rfl
    rw [hyh,hyl] at HWS
    have hy0l:=hpl2 y0 (List.mem_of_getElem? hy0)
    have hyjl:=hpl2 yj (List.mem_of_getElem? hyj)
    have hz0:(ByteArray.mk y0.toArray).size≤1048576:=by show y0.toArray.size≤_;simp;omega
    have hzj:(ByteArray.mk yj.toArray).size≤1048576:=by show yj.toArray.size≤_;simp;omega
    have D0:=aa9 (fun W=>jY ⟨y0.toArray⟩ W hz0)
    have DJ:=aa9 (fun W=>jY ⟨yj.toArray⟩ W hzj)
    rw [show (ByteArray.mk y0.toArray).data.toList=y0 from rfl] at D0
    rw [show (ByteArray.mk yj.toArray).data.toList=yj from rfl] at DJ
    have hjw:IntKind.i64.wrap (j:Int)=(j:Int):=IntWalk.i64_in _ (by omega)
    have hjc:((j+1:Nat):Int)=(j:Int)+1:=by omega
    clear hpl2 hne2 hPL2 hyh hyl hz0 hzj
    go_wp2_with fail
    refine (C2.out _).mono ?_
    rintro e w2 ⟨v2,rfl,o2,b2⟩
    have ho2:=ao hown b2
    have how2':=ao how2 b2
    have hb2:=hbr.trans (b2.mono hbr0)
    have hz2:=hb2.size
    have hzw2:w1.heap.size≤w2.heap.size:=by have:=b2.size;omega
    have hrt:=Rd1.of_own (enc:=sv) o2
    obtain ⟨P2,Q2,hv2,hc2⟩:=hrt.ex
    obtain ⟨gt,ot,rfl,hgt,hct⟩:=hc2.resolve_left (by intro h;rw [h] at hj;simp at hj)
    rw [hj] at hv2
    subst hv2
    have f0:w2.drew.cell? ⟨gt,ot,none⟩=some (sv y0):=by have:=hct 0 y0 hy0;rwa [Nat.add_zero] at this
    have fj:w2.drew.cell? ⟨gt,ot+j,none⟩=some (sv yj):=hct j yj hyj
    have hgd:gt < w2.drew.heap.size:=hgt
    have ho3:=ho2.drew
    have how3:=how2'.drew
    have hb3:=hb2.drew
    have hz3:w1.heap.size≤w2.drew.heap.size:=hzw2
    clear hct hc2 hrt hy0 hyj C2 hown how how2 hbr b2 o2 ho2 how2' hb2 e1 hj
    go_wp2
    refine jf (fd.flo 0 (.flo 1 (.flo 2 (.flo 4 (.flo 5 (.flo 6 (.flo 7 (.flo 8 (.flo 9 (.fork 3 (.fork 10 (.flo 11 (.ev 12 (.ev 13 .nil))) 12 (.ev 10 (.flo 11 (.ev 13 .nil)))) 12 (.ev 3 (.ev 10 (.flo 11 (.ev 13 .nil)))))))))))))) (fun W=>W.cell? ⟨gt,ot,none⟩=some (sv y0)∧W.cell? ⟨gt,ot+j,none⟩=some (sv yj)) (by kernel_rfl) (by kernel_rfl) rfl (by kernel_rfl) ?_
    intro ops' hops
    generalize w2.drew=w3 at *
    have g0:=br hops 0
    have g1:=br hops 1
    have g2:=br hops 2
    have g3:=br hops 3
    have g4:=br hops 4
    have g5:=br hops 5
    have g6:=br hops 6
    have g7:=br hops 7
    have g8:=br hops 8
    have g9:=br hops 9
    have g10:=br hops 10
    have g11:=br hops 11
    have g12:=br hops 12
    have g13:=br hops 13
    simp only [List.getElem?_toArray,List.getElem?_cons_zero,List.getElem?_cons_succ] at g0 g1 g2 g3 g4 g5 g6 g7 g8 g9 g10 g11 g12 g13
    clear hops
    refine aB _ g0 ?_ (fun _ _ _ h=>h) rfl ?_ ⟨f0,fj⟩ ?_;rotate_left;focus (intro W hS;obtain ⟨s0,s1⟩:=hS;go_simp;rfl)
    refine aB _ g1 ?_ (fun _ _ _ h=>h) rfl ?_ ⟨f0,fj⟩ ?_;rotate_left;focus (intro W hS;obtain ⟨s0,s1⟩:=hS;go_simp;rfl)
    refine aB _ g2 ?_ (fun _ _ _ h=>h) rfl ?_ ⟨f0,fj⟩ ?_;rotate_left;focus (intro W hS;obtain ⟨s0,s1⟩:=hS;go_simp;rfl)
    refine aB _ g4 ?_ (fun _ _ _ h=>h) rfl ?_ ⟨f0,fj⟩ ?_;rotate_left;focus (intro W hS;obtain ⟨s0,s1⟩:=hS;go_simp;rfl)
    refine aB _ g5 ?_ (fun _ _ _ h=>h) rfl ?_ ⟨f0,fj⟩ ?_;rotate_left;focus (intro W hS;obtain ⟨s0,s1⟩:=hS;go_simp;rfl)
    refine aB _ g6 ?_ (fun _ _ _ h=>h) rfl ?_ ⟨f0,fj⟩ ?_;rotate_left;focus (intro W hS;obtain ⟨s0,s1⟩:=hS;go_simp;rfl)
    refine aB _ g7 ?_ (fun _ _ _ h=>h) rfl ?_ ⟨f0,fj⟩ ?_;rotate_left;focus (intro W hS;obtain ⟨s0,s1⟩:=hS;go_simp;rfl)
    refine aB _ g8 (.pointer (some ⟨gt,ot+j,none⟩)) (fun _ _ _ h=>h) rfl ?_ ⟨f0,fj⟩ ?_
    · intro W hS
      go_simp
      try (intro h;omega)
    refine aB _ g9 ?_ (fun _ _ _ h=>h) rfl ?_ ⟨f0,fj⟩ ?_;rotate_left;focus (intro W hS;obtain ⟨s0,s1⟩:=hS;go_simp;rfl)
    refine ia _ _ g3 g12 rfl rfl ?_ ?_
    · go_simp
      refine (D0.out _).mono ?_
      rintro e w4 ⟨rfl,bx⟩
      replace f0:=(bx.cell (p:=⟨gt,ot,none⟩) hgd).trans f0
      replace fj:=(bx.cell (p:=⟨gt,ot+j,none⟩) hgd).trans fj
      replace hgd:=Nat.lt_of_lt_of_le hgd bx.size
      replace ho3:=ao ho3 bx
      replace how3:=ao how3 bx
      replace hb3:=hb3.trans (bx.mono hb3.size)
      replace hz3:=Nat.le_trans hz3 bx.size
      refine ⟨⟨f0,fj⟩,?_⟩
      clear bx
      refine ia _ _ g10 g12 rfl rfl ?_ ?_
      · go_simp
        refine (DJ.out _).mono ?_
        rintro e w5 ⟨rfl,bx⟩
        replace f0:=(bx.cell (p:=⟨gt,ot,none⟩) hgd).trans f0
        replace fj:=(bx.cell (p:=⟨gt,ot+j,none⟩) hgd).trans fj
        replace hgd:=Nat.lt_of_lt_of_le hgd bx.size
        replace ho3:=ao ho3 bx
        replace how3:=ao how3 bx
        replace hb3:=hb3.trans (bx.mono hb3.size)
        replace hz3:=Nat.le_trans hz3 bx.size
        refine ⟨⟨f0,fj⟩,?_⟩
        clear bx
        refine aB _ g11 ?_ (fun _ _ _ h=>h) rfl ?_ ⟨f0,fj⟩ ?_;rotate_left;focus (intro W hS;obtain ⟨s0,s1⟩:=hS;go_simp;rfl)
        refine cP _ g12 rfl ?_
        go_simp
        refine cP _ g13 rfl ?_
        go_simp
        obtain ⟨c0,c1,_⟩:=fo (w:=w5) (a:= .int .i64 (l4n y0)) (b:= .int .i64 (l4n yj)) (e:=62)
        have oX:=ho3.alloc (.cells #[.int .i64 (l4n y0),.int .i64 (l4n yj)] 62)
        have howX:=how3.alloc (.cells #[.int .i64 (l4n y0),.int .i64 (l4n yj)] 62)
        have hbX:=hb3.alloc hb3.size (.cells #[.int .i64 (l4n y0),.int .i64 (l4n yj)] 62)
        have hszX:(w5.alloc (.cells #[.int .i64 (l4n y0),.int .i64 (l4n yj)] 62)).heap.size=w5.heap.size+1:=by simp
        clear f0 fj ho3 how3 hb3
        generalize (w5.alloc (.cells #[.int .i64 (l4n y0),.int .i64 (l4n yj)] 62))=X at *
        refine d8 ?_
        clear g0 g1 g2 g3 g4 g5 g6 g7 g8 g9 g10 g11 g12 g13 D0 DJ hjw
        have hzX:=hbX.size
        go_wp2_with (at_builtin;refine aE Tryz.el_spn rfl (.tmp 40) (.tmp 42) rfl w X u4 k _ rfl oX hbX hzX #[.int .i64 (l4n y0),.int .i64 (l4n yj)] (.inr rfl) 1 1 (by rw [hszX];rfl) rfl (by simp [Value.oneCell']) (by omega) (by omega) (by omega) ?_)
        intro g cap w9 hown9 hb9 hg9 hor9 _
        have how9:=howX.kept hg9 (by
         by_cases hn:(Value.slice (some ⟨gw,o,none⟩) ws.length cw).ownBlock=none
         · exact .inl hn
         · right
           intro e
           obtain ⟨gg,hgg⟩:=Option.ne_none_iff_exists'.1 hn
           have q1:=HTW.out gg hgg
           have q2:=HTO.out gg (by rw [←e,hgg])
           omega)
        have htop9: ∀ gg,(Value.slice (some ⟨g,0,none⟩) (k+1) cap).ownBlock=some gg→gg=w.heap.size∨w1.heap.size≤gg:=by
         intro gg hgg
         have hgg2:g=gg:=by simpa [Value.ownBlock] using hgg
         subst hgg2
         rcases hor9 with h | h
         · exact HTO.out _ h
         · exact .inr (by omega)
        have hz9:=hg9.size
        clear oX howX hbX hg9 hor9 c0 c1
        go_wp2
        go_roundw
        case rel=>exact ⟨k+1,by omega,.inl hle5,by go_num,by rw [HW.out,List.flatMap_append,HWS.out];simpa [je] using hown9,hb9,how9,htop9,by omega⟩
        case measure=>simp [intOf];omega
      · go_simp
        obtain ⟨z0,z1,zf⟩:=fo (w:=w4) (a:= .int .i64 0) (b:= .int .i64 0) (e:=62)
        have bx:Below w4.heap.size w4 (w4.alloc (.cells #[.int .i64 0,.int .i64 0] 62)):=(Below.refl _ _).alloc (Nat.le_refl _) _
        replace f0:=(bx.cell (p:=⟨gt,ot,none⟩) hgd).trans f0
        replace fj:=(bx.cell (p:=⟨gt,ot+j,none⟩) hgd).trans fj
        have hnew:w4.heap.size < (w4.alloc (.cells #[.int .i64 0,.int .i64 0] 62)).heap.size:=by simp
        have hbig: ∀ g,Value.ownBlock u4=some g→g < w4.heap.size:=fun g hg=>(ho3.lt g hg).2
        have hbigw: ∀ g,Value.ownBlock (.slice (some ⟨gw,o,none⟩) ws.length cw)=some g→g < w4.heap.size:=fun g hg=>(how3.lt g hg).2
        have hz4:=hz3
        have hz5:=hb3.size
        have hgtb:=hgd
        replace hgd:=Nat.lt_of_lt_of_le hgd bx.size
        replace ho3:=ao ho3 bx
        replace how3:=ao how3 bx
        replace hb3:=hb3.trans (bx.mono hb3.size)
        replace hz3:=Nat.le_trans hz3 bx.size
        clear bx
        refine cP _ g10 rfl ?_
        go_simp
        refine (DJ.out _).mono ?_
        rintro e w5 ⟨rfl,bx⟩
        replace f0:=(bx.cell (p:=⟨gt,ot,none⟩) hgd).trans f0
        replace fj:=(bx.cell (p:=⟨gt,ot+j,none⟩) hgd).trans fj
        replace hgd:=Nat.lt_of_lt_of_le hgd bx.size
        replace ho3:=ao ho3 bx
        replace how3:=ao how3 bx
        replace hb3:=hb3.trans (bx.mono hb3.size)
        replace hz3:=Nat.le_trans hz3 bx.size
        replace z0:=(bx.cell (p:=⟨w4.heap.size,0,none⟩) hnew).trans z0
        replace z1:=(bx.cell (p:=⟨w4.heap.size,1,none⟩) hnew).trans z1
        replace zf:=fun j=>(bx.frozen (p:=⟨w4.heap.size,j,none⟩) hnew).trans (zf j)
        replace hnew:=Nat.lt_of_lt_of_le hnew bx.size
        refine ⟨⟨f0,fj⟩,?_⟩
        clear bx
        refine aB _ g11 ?_ (fun _ _ _ h=>h) rfl ?_ ⟨f0,fj⟩ ?_;rotate_left;focus (intro W hS;obtain ⟨s0,s1⟩:=hS;go_simp;rfl)
        have hq0:=zf 0
        have hq1:=zf 1
        obtain ⟨c0,c1⟩:=rs z0 z1 (.int .i64 (l4n y0)) (.int .i64 (l4n yj))
        have p1:(w5.setCell ⟨w4.heap.size,0,none⟩ (.int .i64 (l4n y0))).cell? ⟨w4.heap.size,1,none⟩=some (.int .i64 0):=(World.cell?_setCell_other w5 _ _ _ (by intro e;injection e with _ e2;cases e2)).trans z1
        have oX:=fO (j:=1) (x:= .int .i64 (l4n yj)) (fO (j:=0) (x:= .int .i64 (l4n y0)) ho3 hbig) hbig
        have howX:=fO (j:=1) (x:= .int .i64 (l4n yj)) (fO (j:=0) (x:= .int .i64 (l4n y0)) how3 hbigw) hbigw
        have hbX:=(hb3.setCell (p:=⟨w4.heap.size,0,none⟩) hz5 (.int .i64 (l4n y0))).setCell (p:=⟨w4.heap.size,1,none⟩) hz5 (.int .i64 (l4n yj))
        have hszX:((w5.setCell ⟨w4.heap.size,0,none⟩ (.int .i64 (l4n y0))).setCell ⟨w4.heap.size,1,none⟩ (.int .i64 (l4n yj))).heap.size=w5.heap.size:=by simp
        have s0:((w5.setCell ⟨w4.heap.size,0,none⟩ (.int .i64 (l4n y0))).setCell ⟨w4.heap.size,1,none⟩ (.int .i64 (l4n yj))).cell? ⟨gt,ot,none⟩=some (sv y0):=(World.cell?_setCell_other _ _ _ _ (by intro e;injection e with e2;omega)).trans ((World.cell?_setCell_other _ _ _ _ (by intro e;injection e with e2;omega)).trans f0)
        have s1:((w5.setCell ⟨w4.heap.size,0,none⟩ (.int .i64 (l4n y0))).setCell ⟨w4.heap.size,1,none⟩ (.int .i64 (l4n yj))).cell? ⟨gt,ot+j,none⟩=some (sv yj):=(World.cell?_setCell_other _ _ _ _ (by intro e;injection e with e2;omega)).trans ((World.cell?_setCell_other _ _ _ _ (by intro e;injection e with e2;omega)).trans fj)
        refine cP _ g13 rfl ?_
        go_simp
        try refine ⟨⟨s0,s1⟩,?_⟩
        clear s0 s1 p1 z0 z1 zf hq0 hq1 f0 fj ho3 how3 hb3 hbig hbigw
        generalize ((w5.setCell ⟨w4.heap.size,0,none⟩ (.int .i64 (l4n y0))).setCell ⟨w4.heap.size,1,none⟩ (.int .i64 (l4n yj)))=X at *
        refine d8 ?_
        clear g0 g1 g2 g3 g4 g5 g6 g7 g8 g9 g10 g11 g12 g13 D0 DJ hjw
        have hzX:=hbX.size
        go_wp2_with (at_builtin;refine aE Tryz.el_spn rfl (.tmp 40) (.tmp 42) rfl w X u4 k _ rfl oX hbX hzX #[.int .i64 (l4n y0),.int .i64 (l4n yj)] (.inr rfl) 1 1 (by rw [hszX];rfl) rfl (by simp [Value.oneCell']) (by omega) (by omega) (by omega) ?_)
        intro g cap w9 hown9 hb9 hg9 hor9 _
        have how9:=howX.kept hg9 (by
         by_cases hn:(Value.slice (some ⟨gw,o,none⟩) ws.length cw).ownBlock=none
         · exact .inl hn
         · right
           intro e
           obtain ⟨gg,hgg⟩:=Option.ne_none_iff_exists'.1 hn
           have q1:=HTW.out gg hgg
           have q2:=HTO.out gg (by rw [←e,hgg])
           omega)
        have htop9: ∀ gg,(Value.slice (some ⟨g,0,none⟩) (k+1) cap).ownBlock=some gg→gg=w.heap.size∨w1.heap.size≤gg:=by
         intro gg hgg
         have hgg2:g=gg:=by simpa [Value.ownBlock] using hgg
         subst hgg2
         rcases hor9 with h | h
         · exact HTO.out _ h
         · exact .inr (by omega)
        have hz9:=hg9.size
        clear oX howX hbX hg9 hor9 c0 c1
        go_wp2
        go_roundw
        case rel=>exact ⟨k+1,by omega,.inl hle5,by go_num,by rw [HW.out,List.flatMap_append,HWS.out];simpa [je] using hown9,hb9,how9,htop9,by omega⟩
        case measure=>simp [intOf];omega
    · go_simp
      obtain ⟨z0,z1,zf⟩:=fo (w:=w3) (a:= .int .i64 0) (b:= .int .i64 0) (e:=62)
      have bx:Below w3.heap.size w3 (w3.alloc (.cells #[.int .i64 0,.int .i64 0] 62)):=(Below.refl _ _).alloc (Nat.le_refl _) _
      replace f0:=(bx.cell (p:=⟨gt,ot,none⟩) hgd).trans f0
      replace fj:=(bx.cell (p:=⟨gt,ot+j,none⟩) hgd).trans fj
      have hnew:w3.heap.size < (w3.alloc (.cells #[.int .i64 0,.int .i64 0] 62)).heap.size:=by simp
      have hbig: ∀ g,Value.ownBlock u4=some g→g < w3.heap.size:=fun g hg=>(ho3.lt g hg).2
      have hbigw: ∀ g,Value.ownBlock (.slice (some ⟨gw,o,none⟩) ws.length cw)=some g→g < w3.heap.size:=fun g hg=>(how3.lt g hg).2
      have hz4:=hz3
      have hz5:=hb3.size
      have hgtb:=hgd
      replace hgd:=Nat.lt_of_lt_of_le hgd bx.size
      replace ho3:=ao ho3 bx
      replace how3:=ao how3 bx
      replace hb3:=hb3.trans (bx.mono hb3.size)
      replace hz3:=Nat.le_trans hz3 bx.size
      clear bx
      refine cP _ g3 rfl ?_
      go_simp
      refine (D0.out _).mono ?_
      rintro e w4 ⟨rfl,bx⟩
      replace f0:=(bx.cell (p:=⟨gt,ot,none⟩) hgd).trans f0
      replace fj:=(bx.cell (p:=⟨gt,ot+j,none⟩) hgd).trans fj
      replace hgd:=Nat.lt_of_lt_of_le hgd bx.size
      replace ho3:=ao ho3 bx
      replace how3:=ao how3 bx
      replace hb3:=hb3.trans (bx.mono hb3.size)
      replace hz3:=Nat.le_trans hz3 bx.size
      replace z0:=(bx.cell (p:=⟨w3.heap.size,0,none⟩) hnew).trans z0
      replace z1:=(bx.cell (p:=⟨w3.heap.size,1,none⟩) hnew).trans z1
      replace zf:=fun j=>(bx.frozen (p:=⟨w3.heap.size,j,none⟩) hnew).trans (zf j)
      replace hnew:=Nat.lt_of_lt_of_le hnew bx.size
      refine ⟨⟨f0,fj⟩,?_⟩
      clear bx
      refine cP _ g10 rfl ?_
      go_simp
      refine (DJ.out _).mono ?_
      rintro e w5 ⟨rfl,bx⟩
      replace f0:=(bx.cell (p:=⟨gt,ot,none⟩) hgd).trans f0
      replace fj:=(bx.cell (p:=⟨gt,ot+j,none⟩) hgd).trans fj
      replace hgd:=Nat.lt_of_lt_of_le hgd bx.size
      replace ho3:=ao ho3 bx
      replace how3:=ao how3 bx
      replace hb3:=hb3.trans (bx.mono hb3.size)
      replace hz3:=Nat.le_trans hz3 bx.size
      replace z0:=(bx.cell (p:=⟨w3.heap.size,0,none⟩) hnew).trans z0
      replace z1:=(bx.cell (p:=⟨w3.heap.size,1,none⟩) hnew).trans z1
      replace zf:=fun j=>(bx.frozen (p:=⟨w3.heap.size,j,none⟩) hnew).trans (zf j)
      replace hnew:=Nat.lt_of_lt_of_le hnew bx.size
      refine ⟨⟨f0,fj⟩,?_⟩
      clear bx
      refine aB _ g11 ?_ (fun _ _ _ h=>h) rfl ?_ ⟨f0,fj⟩ ?_;rotate_left;focus (intro W hS;obtain ⟨s0,s1⟩:=hS;go_simp;rfl)
      have hq0:=zf 0
      have hq1:=zf 1
      obtain ⟨c0,c1⟩:=rs z0 z1 (.int .i64 (l4n y0)) (.int .i64 (l4n yj))
      have p1:(w5.setCell ⟨w3.heap.size,0,none⟩ (.int .i64 (l4n y0))).cell? ⟨w3.heap.size,1,none⟩=some (.int .i64 0):=(World.cell?_setCell_other w5 _ _ _ (by intro e;injection e with _ e2;cases e2)).trans z1
      have oX:=fO (j:=1) (x:= .int .i64 (l4n yj)) (fO (j:=0) (x:= .int .i64 (l4n y0)) ho3 hbig) hbig
      have howX:=fO (j:=1) (x:= .int .i64 (l4n yj)) (fO (j:=0) (x:= .int .i64 (l4n y0)) how3 hbigw) hbigw
      have hbX:=(hb3.setCell (p:=⟨w3.heap.size,0,none⟩) hz5 (.int .i64 (l4n y0))).setCell (p:=⟨w3.heap.size,1,none⟩) hz5 (.int .i64 (l4n yj))
      have hszX:((w5.setCell ⟨w3.heap.size,0,none⟩ (.int .i64 (l4n y0))).setCell ⟨w3.heap.size,1,none⟩ (.int .i64 (l4n yj))).heap.size=w5.heap.size:=by simp
      have s0:((w5.setCell ⟨w3.heap.size,0,none⟩ (.int .i64 (l4n y0))).setCell ⟨w3.heap.size,1,none⟩ (.int .i64 (l4n yj))).cell? ⟨gt,ot,none⟩=some (sv y0):=(World.cell?_setCell_other _ _ _ _ (by intro e;injection e with e2;omega)).trans ((World.cell?_setCell_other _ _ _ _ (by intro e;injection e with e2;omega)).trans f0)
      have s1:((w5.setCell ⟨w3.heap.size,0,none⟩ (.int .i64 (l4n y0))).setCell ⟨w3.heap.size,1,none⟩ (.int .i64 (l4n yj))).cell? ⟨gt,ot+j,none⟩=some (sv yj):=(World.cell?_setCell_other _ _ _ _ (by intro e;injection e with e2;omega)).trans ((World.cell?_setCell_other _ _ _ _ (by intro e;injection e with e2;omega)).trans fj)
      refine cP _ g13 rfl ?_
      go_simp
      try refine ⟨⟨s0,s1⟩,?_⟩
      clear s0 s1 p1 z0 z1 zf hq0 hq1 f0 fj ho3 how3 hb3 hbig hbigw
      generalize ((w5.setCell ⟨w3.heap.size,0,none⟩ (.int .i64 (l4n y0))).setCell ⟨w3.heap.size,1,none⟩ (.int .i64 (l4n yj)))=X at *
      refine d8 ?_
      clear g0 g1 g2 g3 g4 g5 g6 g7 g8 g9 g10 g11 g12 g13 D0 DJ hjw
      have hzX:=hbX.size
      go_wp2_with (at_builtin;refine aE Tryz.el_spn rfl (.tmp 40) (.tmp 42) rfl w X u4 k _ rfl oX hbX hzX #[.int .i64 (l4n y0),.int .i64 (l4n yj)] (.inr rfl) 1 1 (by rw [hszX];rfl) rfl (by simp [Value.oneCell']) (by omega) (by omega) (by omega) ?_)
      intro g cap w9 hown9 hb9 hg9 hor9 _
      have how9:=howX.kept hg9 (by
       by_cases hn:(Value.slice (some ⟨gw,o,none⟩) ws.length cw).ownBlock=none
       · exact .inl hn
       · right
         intro e
         obtain ⟨gg,hgg⟩:=Option.ne_none_iff_exists'.1 hn
         have q1:=HTW.out gg hgg
         have q2:=HTO.out gg (by rw [←e,hgg])
         omega)
      have htop9: ∀ gg,(Value.slice (some ⟨g,0,none⟩) (k+1) cap).ownBlock=some gg→gg=w.heap.size∨w1.heap.size≤gg:=by
       intro gg hgg
       have hgg2:g=gg:=by simpa [Value.ownBlock] using hgg
       subst hgg2
       rcases hor9 with h | h
       · exact HTO.out _ h
       · exact .inr (by omega)
      have hz9:=hg9.size
      clear oX howX hbX hg9 hor9 c0 c1
      go_wp2
      go_roundw
      case rel=>exact ⟨k+1,by omega,.inl hle5,by go_num,by rw [HW.out,List.flatMap_append,HWS.out];simpa [je] using hown9,hb9,how9,htop9,by omega⟩
      case measure=>simp [intOf];omega
  · have hL:pL l=(ws.take k).map gY:=by rcases hfin with h | h;exact h.2;exact h.2.2
    have HV:=aa9 (HU.out _ hL)
    have hlen:((ws.take k).map gY).length=k:=by simp;omega
    generalize (ws.take k).map gY=L at *
    have CT:=aa9 (lm u4 L wr (Rd.of_own (enc:=je) (fun _=>rfl) hlen hown) (by omega))
    have hg:(¬k < ws.length)∨(k < ws.length∧ ¬(ws.length:Int)≤5):=by
     rcases hfin with h | h
     · exact .inl h.1
     · exact .inr ⟨h.1,by omega⟩
    clear hfin hL HU HRY HRN how HTW HTO hk5 HPL
    have hlc:l=[]∨(¬l=[]∧(fJ L==l)=false)∨(¬l=[]∧fJ L=l):=by
     by_cases h:l=[]
     · exact .inl h
     · by_cases h2:fJ L=l
       · exact .inr (.inr ⟨h,h2⟩)
       · exact .inr (.inl ⟨h,by simpa using h2⟩)
    rcases hlc with rfl | ⟨hl0,hst⟩ | ⟨hl0,hst⟩
    · have HN:=aa9 (show bq []=none by rw [HV.out,if_pos (.inl rfl)])
      clear HV CT hown
      rcases hg with hg | ⟨hg,hg2⟩
      all_goals
       go_wp2
       go_ret2
       exact ⟨_,by rw [HN.out];rfl,by rw [HN.out];exact World.ownsRow_made wr #[] 0 hbr0 (by unfold maxLen;omega) (by simp),hbr.alloc hbr0 _⟩
    · have HN:=aa9 (show bq l=none by rw [HV.out,if_pos (.inr (by simpa using hst))])
      have hle:l.isEmpty=false:=by cases hh:l with | nil=>exact absurd hh hl0 | cons a r=>rfl
      have hst2:(fJ L != l)=true:=by simp only [bne,hst];rfl
      generalize fJ L=q at *
      clear HV hown hl0
      rcases hg with hg | ⟨hg,hg2⟩
      all_goals
       go_wp2_with fail
       refine (CT.out).mono ?_
       rintro e w2 ⟨rfl,b2⟩
       have hb2:=hbr.trans (b2.mono hbr0)
       go_wp2
       go_ret2
       exact ⟨_,by rw [HN.out];rfl,by rw [HN.out];exact World.ownsRow_made w2 #[] 0 hb2.size (by unfold maxLen;omega) (by simp),hb2.alloc hb2.size _⟩
    · have HN:=aa9 (show bq l=some L by rw [HV.out,if_neg (by rintro (h | h);exact hl0 h;exact h hst)])
      have hle:l.isEmpty=false:=by cases hh:l with | nil=>exact absurd hh hl0 | cons a r=>rfl
      rw [hst] at CT
      clear HV hst hl0
      rcases hg with hg | ⟨hg,hg2⟩
      all_goals
       go_wp2_with fail
       refine (CT.out).mono ?_
       rintro e w2 ⟨rfl,b2⟩
       have hb2:=hbr.trans (b2.mono hbr0)
       have ho2:=ao hown b2
       go_wp2
       go_ret2
       exact ⟨_,by rw [HN.out];rfl,by rw [HN.out];show w2.ownsRow _ _ _ _ L.length _;rw [hlen];exact ho2,hb2⟩
theorem eh (s:ByteArray) (w:World) (hs:s.size≤1048576):
 Calls Tryz.prog 116 #[.string s] w fun e w'=>qt (bq s.data.toList) w e w':=by
 have:=j5 s.data.toList w (by simpa using hs)
 rwa [mN] at this
def qu (G:World→Prop):Prop:= ∀ (v:Value) (l:List Spn) (W:World),G W→Rd 2 je W v l→l.length≤1048576→(∀ t∈l,rgS t)→
 Calls Tryz.prog 140 #[v] W fun e w'=>e= .returned (sv (fJ l))∧Below W.heap.size W w'
def qv (G:World→Prop):Prop:= ∀ (s:ByteArray) (W:World),G W→s.size≤1048576→
 Calls Tryz.prog 183 #[.string s] W fun e w'=>qt (bq s.data.toList) W e w'
end Go.Proofs.YtmlgkoeacbeopaaGreatDoor
namespace Go.Proofs.YtmlgkoeacbeopaaGreatDoor
open Go.RowKit
open Go.Lib (decDigits itoa)
theorem lp (n:Int) (w:World) (hT:Tab w) (hn:bW n):
 Calls Tryz.prog 215 #[.int .i64 n] w fun e w'=>e= .returned (sv (dN n))∧Below w.heap.size w w':=by
 by_cases h:n=0
 · have hg:=aa9 (show dN n=[42] from if_pos h)
   subst h
   go_enter Tryz.func215,Tryz.ntmps215
   go_wp2
   go_ret
   exact ⟨by rw [hg.out];rfl,Below.refl _ _⟩
 · have hg:=aa9 (show dN n=itoa n from if_neg h)
   have h2:(n==0)=false:=by simpa using h
   have C1:=aa9 (ma n w hT hn.1 hn.2)
   go_enter Tryz.func215,Tryz.ntmps215
   go_wp2_with fail
   refine (C1.out).mono ?_
   rintro e w1 ⟨rfl,b1⟩
   go_wp2
   go_ret
   exact ⟨by rw [hg.out];rfl,b1⟩
theorem oW (s:Spn) (w:World) (hT:Tab w) (hn1:kE s.low=true) (hn2:kE s.high=true):
 Calls Tryz.prog 190 #[zo s] w fun e w'=>e= .returned (sv (fa s))∧Below w.heap.size w w':=by
 have D1:=aa9 (fun W hT=>lp s.low W hT (iP hn1))
 have D2:=aa9 (fun W hT=>lp s.high W hT (iP hn2))
 have hl1:=(gx hn1).2
 have hl2:=(gx hn2).2
 have hq1:(ByteArray.mk (dN s.low).toArray).size=(dN s.low).length:=by show (dN s.low).toArray.size=_;simp
 have hq2:(ByteArray.mk (dN s.high).toArray).size=(dN s.high).length:=by show (dN s.high).toArray.size=_;simp
 clear hn1 hn2
 have hbA:Below w.heap.size w (w.alloc (.cells #[.int .i64 s.low,.int .i64 s.high] 62)):=(Below.refl _ _).alloc (Nat.le_refl _) _
 have TA:=aa9 (hT.below hbA)
 have hblkA:(w.alloc (.cells #[.int .i64 s.low,.int .i64 s.high] 62)).heap[w.heap.size]? =some (.cells #[.int .i64 s.low,.int .i64 s.high] 62 (0,0)):=heap_alloc_new w _
 have f1:(w.alloc (.cells #[.int .i64 s.low,.int .i64 s.high] 62)).cell? ⟨w.heap.size,0,none⟩=some (.int .i64 s.low):=(aa8 hblkA 0).trans rfl
 have f2:(w.alloc (.cells #[.int .i64 s.low,.int .i64 s.high] 62)).cell? ⟨w.heap.size,1,none⟩=some (.int .i64 s.high):=(aa8 hblkA 1).trans rfl
 have hlt:w.heap.size < (w.alloc (.cells #[.int .i64 s.low,.int .i64 s.high] 62)).heap.size:=by simp
 clear hblkA
 cases he:(s.low==s.high) with
 | true=>
   have HW:=aa9 (show sv (fa s)=sv (dN s.low) by unfold fa;rw [if_pos (beq_iff_eq.1 he).symm])
   clear f1 f2 hlt
   go_enter Tryz.func190,Tryz.ntmps190
   go_wp2_with fail
   refine (D1.out _ TA.out).mono ?_
   rintro e w1 ⟨rfl,b1⟩
   have hb:=hbA.trans (b1.mono hbA.size)
   clear b1 hbA
   go_wp2
   go_ret
   exact ⟨by rw [HW.out];rfl,hb⟩
 | false=>
   have HW:=aa9 (show sv (fa s)= .string (((⟨(dN s.low).toArray⟩:ByteArray)++⟨#[58]⟩)++⟨(dN s.high).toArray⟩) by
    unfold fa
    rw [if_neg (fun h=>beq_eq_false_iff_ne.1 he h.symm)]
    unfold sv
    congr 1
    apply ByteArray.ext
    apply Array.ext'
    simp)
   go_enter Tryz.func190,Tryz.ntmps190
   have TD:=aa9 (hT.below hbA.drew)
   go_wp2
   refine ah oL19 (fun W=>W.cell? ⟨w.heap.size,0,none⟩=some (.int .i64 s.low)∧W.cell? ⟨w.heap.size,1,none⟩=some (.int .i64 s.high)) (by kernel_rfl) (by kernel_rfl) rfl (by kernel_rfl) ?_
   intro ops' hops
   clear hops
   simp only [oL19,List.map_cons,List.map_nil,ae,ag]
   iterate 4 (refine aa ?_ (fun _ _ _ h=>h) rfl ?_ ⟨f1,f2⟩ ?_;rotate_left;focus (intro W hS;obtain ⟨s1,s2⟩:=hS;go_simp;rfl))
   refine al rfl ?_
   go_simp
   refine (D1.out _ TD.out).mono ?_
   rintro e w1 ⟨rfl,b1⟩
   have g1:=(b1.cell (p:=⟨w.heap.size,0,none⟩) hlt).trans f1
   have g2:=(b1.cell (p:=⟨w.heap.size,1,none⟩) hlt).trans f2
   have hb1:=hbA.drew.trans (b1.mono hbA.size)
   have T1:=aa9 (TD.out.below b1)
   have hlt1:=Nat.lt_of_lt_of_le hlt b1.size
   refine ⟨⟨g1,g2⟩,?_⟩
   clear b1 f1 f2 hlt
   refine aa (.string ((⟨(dN s.low).toArray⟩:ByteArray)++⟨#[58]⟩)) (fun _ _ _ h=>h) rfl ?_ ⟨g1,g2⟩ ?_
   · intro W hS
     go_simp
     omega
   refine al rfl ?_
   go_simp
   refine (D2.out _ T1.out).mono ?_
   rintro e w2 ⟨rfl,b2⟩
   have k1:=(b2.cell (p:=⟨w.heap.size,0,none⟩) hlt1).trans g1
   have k2:=(b2.cell (p:=⟨w.heap.size,1,none⟩) hlt1).trans g2
   have hb2:=hb1.trans (b2.mono hb1.size)
   refine ⟨⟨k1,k2⟩,?_⟩
   clear b2 g1 g2
   refine aa (.string (((⟨(dN s.low).toArray⟩:ByteArray)++⟨#[58]⟩)++⟨(dN s.high).toArray⟩)) (fun _ _ _ h=>h) rfl ?_ ⟨k1,k2⟩ ?_
   · intro W hS
     go_simp
     omega
   iterate 1 (refine aa ?_ (fun _ _ _ h=>h) rfl ?_ ⟨k1,k2⟩ ?_;rotate_left;focus (intro W hS;obtain ⟨s1,s2⟩:=hS;go_simp;rfl))
   refine ai ?_
   go_simp
   clear k1 k2
   go_wp2
   go_ret
   exact ⟨by rw [HW.out];rfl,hb2⟩
theorem fX (v:Value) (l:List Spn) (w:World) (hT:Tab w) (hr:Rd 2 je w v l) (hl:l.length≤140737488355328):
 Calls Tryz.prog 140 #[v] w fun e w'=>e= .returned (sv (fJ l))∧Below w.heap.size w w':=by
 have c1:=fun W h=>c6 v l W h hl
 have HR:=aa9 hr
 have HT:=aa9 hT
 obtain ⟨p,c,rfl,_⟩:=hr.ex
 clear hr hT
 cases hok:setB l with
 | false=>
   have HV:=aa9 (show fJ l=[] by unfold fJ;rw [hok];rfl)
   rw [hok] at c1
   have C1:=aa9 c1
   clear c1 hok
   go_enter Tryz.func140,Tryz.ntmps140
   go_wp2_with fail
   refine (C1.out _ HR.out).mono ?_
   rintro e w1 ⟨rfl,b1⟩
   go_wp2
   go_ret
   exact ⟨by rw [HV.out];rfl,b1⟩
 | true=>
   have HV:=aa9 (show fJ l=Lib.join (l.map fa) [44] by unfold fJ;rw [hok];rfl)
   obtain ⟨hs1,hs2,hs3⟩:=cX hok
   have HS:=aa9 hs1
   rw [hok] at c1
   have C1:=aa9 c1
   clear c1 hok hs1
   go_enter Tryz.func140,Tryz.ntmps140
   go_wp2_with fail
   refine (C1.out _ HR.out).mono ?_
   rintro e w1 ⟨rfl,b1⟩
   have hz1:=b1.size
   have HB1:=aa9 b1
   clear b1
   go_wp2
   go_loopw [3,11] (fun u i wr=> ∃ k:Nat,k≤l.length∧i= .int .i64 k∧wr.ownsRow w.heap.size 9 1 u k (((l.take k).map fa).map sv)∧Below w.heap.size w wr) (fun _ i _=>l.length - (intOf i).toNat)
   case atStart=>exact ⟨0,by omega,rfl,World.ownsRow_nil _ _ _ _,HB1.out⟩
   case round=>
    obtain ⟨k,hk,rfl,hown,hbr⟩:=hrel
    have hbr0:=hbr.size
    by_cases hlt:k < l.length
    · obtain ⟨p',c',hv,hp⟩:=HR.out.ex
      injection hv with e1 _ e2
      subst e1 e2
      obtain ⟨b,off,rfl,hb1,hcell⟩:=hp.resolve_left (by intro h;subst h;simp at hlt)
      obtain ⟨t,ht⟩: ∃ t,l[k]? =some t:=⟨_,List.getElem?_eq_getElem hlt⟩
      obtain ⟨e1',e2'⟩:=Rd.pair hcell ht
      have e1:wr.cell? ⟨b,off+k * 2,none⟩=some (.int .i64 t.low):=(hbr.cell (p:=⟨b,off+k * 2,none⟩) hb1).trans e1'
      have e2:wr.cell? ⟨b,off+k * 2+1,none⟩=some (.int .i64 t.high):=(hbr.cell (p:=⟨b,off+k * 2+1,none⟩) hb1).trans e2'
      have hbA:Below w.heap.size w (wr.alloc (.cells #[.int .i64 t.low,.int .i64 t.high] 62)):=hbr.alloc hbr0 _
      have hoA:=hown.alloc (.cells #[.int .i64 t.low,.int .i64 t.high] 62)
      have hsp:=HS.out t (List.mem_of_getElem? ht)
      have hsp2:kE t.low=true∧kE t.high=true:=by unfold kF at hsp;simpa using hsp
      have C2:=aa9 (oW t _ (HT.out.below hbA) hsp2.1 hsp2.2)
      have HTK:=aa9 (show ((l.take (k+1)).map fa).map sv=((l.take k).map fa).map sv++[sv (fa t)] by rw [jm ht];simp)
      have HZ:=aa9 (show (wr.alloc (.cells #[.int .i64 t.low,.int .i64 t.high] 62)).heap.size=wr.heap.size+1 by simp)
      clear e1' e2' hcell ht hp hsp hsp2 hown
      go_wp2_with fail
      refine (C2.out).mono ?_
      rintro e w2 ⟨rfl,b2⟩
      have o2:=ao hoA b2
      have hb2:=hbA.trans (b2.mono hbA.size)
      have hz2:=hb2.size
      clear hoA hbA b2 C2 e1 e2
      go_wp2_with (at_builtin;refine aE Tryz.el_string rfl (.tmp 15) (.tmp 18) rfl w w2 u3 k _ rfl o2 hb2 hz2 #[sv (fa t)] (.inr rfl) 1 1 rfl rfl (by simp [Value.oneCell']) (by omega) (by omega) (by omega) ?_)
      intro g cap w3 hown3 hb3 _ _ _
      clear o2 hb2
      go_wp2
      go_roundw
      case rel=>exact ⟨k+1,by omega,by go_num,by rw [HTK.out];simpa using hown3,hb3⟩
      case measure=>simp [intOf];omega
    · obtain rfl:k=l.length:=by omega
      rw [List.take_length] at hown
      have hlen:(l.map fa).length=l.length:=by simp
      have hsz:szl (l.map fa)≤43 * (l.map fa).length:=ui _ (fun x hx=>by
       obtain ⟨s,hs,rfl⟩:=List.mem_map.1 hx
       exact (ny (HS.out s hs)).2)
      rcases hown.2 with ⟨_,h0⟩ | ⟨g,cap,cur,rfl,hbg,hg,hnc,hrest⟩
      · omega
      · have CJ:=aa9 (lY g cap (l.map fa) [44] wr (tw hown) (Array.getElem?_eq_some_iff.1 hg).1 (by rw [hlen];exact hnc) (by rw [hlen] at hsz ⊢;omega) (by simp))
        rw [hlen] at CJ
        clear hown hsz hg hrest
        go_wp2_with fail
        refine (CJ.out).mono ?_
        rintro e w2 ⟨rfl,b2⟩
        have hb2:=hbr.trans (b2.mono hbr0)
        go_wp2
        go_ret
        exact ⟨by rw [HV.out];rfl,hb2⟩
theorem uj:qu Tab:=fun v l w hG hr hl _=>fX v l w hG hr (by omega)
end Go.Proofs.YtmlgkoeacbeopaaGreatDoor
namespace Go.Proofs.YtmlgkoeacbeopaaGreatDoor
open Go.RowKit
def Mx (W:World):Prop:= ∃ m,W.cell? ⟨3,0,none⟩=some (.int .i64 m)
theorem Mx.below {w w':World} (h:Mx w) (hb:Below w.heap.size w w'):Mx w':=by
 obtain ⟨m,hm⟩:=h
 exact ⟨m,(hb.cell (p:=⟨3,0,none⟩) (World.block_lt_of_cell? _ _ hm)).trans hm⟩
theorem bdN {B:Nat} {a w:World} (h:Below B a w) (n:Nat):Below B a (w.drewN n):=⟨h.os,h.tape,h.output,h.size,h.block⟩
end Go.Proofs.YtmlgkoeacbeopaaGreatDoor
namespace Go.Proofs.YtmlgkoeacbeopaaGreatDoor
open Go.RowKit
open Go.Lib (decDigits itoa)
theorem qw (b c:UInt8) (l:List UInt8):Lib.index (b::l) [c]=if [c].isPrefixOf (b::l)=true then 0 else if (Lib.index l [c]== -1)=true then -1 else Lib.index l [c]+1:=by rw [Lib.index]
theorem oY (c:UInt8): ∀ (l:List UInt8),(∀ b∈l,b ≠ c)→Lib.index l [c]= -1
 | [],_=>rfl
 | b::l,h=>by
   have hp:[c].isPrefixOf (b::l)=false:=by
    have:(c==b)=false:=beq_eq_false_iff_ne.2 (h b (by simp)).symm
    simp [List.isPrefixOf,this]
   rw [qw,hp,oY c l (fun x hx=>h x (by simp [hx]))]
   rfl
theorem rt (c:UInt8): ∀ (m r:List UInt8),(∀ b∈m,b ≠ c)→Lib.index (m++c::r) [c]=(m.length:Int)
 | [],r,_=>by
   have hp:[c].isPrefixOf (c::r)=true:=by simp [List.isPrefixOf]
   rw [List.nil_append,qw,hp]
   rfl
 | b::m,r,h=>by
   have hp:[c].isPrefixOf (b::(m++c::r))=false:=by
    have:(c==b)=false:=beq_eq_false_iff_ne.2 (h b (by simp)).symm
    simp [List.isPrefixOf,this]
   rw [List.cons_append,qw,hp,rt c m r (fun x hx=>h x (by simp [hx]))]
   have:(((m.length:Int)== -1)=true)=False:=by simp <;> omega
   simp only [this,if_false,List.length_cons]
   rfl
theorem uk {c:UInt8} {l:List UInt8} (h: ∀ b∈l,b ≠ c):Lib.cut l [c]=(l,[],false):=by
 unfold Lib.cut
 rw [oY c l h]
 rfl
theorem wo {c:UInt8} {m r:List UInt8} (h: ∀ b∈m,b ≠ c):Lib.cut (m++c::r) [c]=(m,r,true):=by
 unfold Lib.cut
 rw [rt c m r h,if_pos (by omega)]
 simp only [Int.toNat_natCast,List.length_singleton,List.take_left]
 rw [show m.length+1=m.length+1 from rfl,List.drop_append,List.drop_of_length_le (by omega)]
 simp
theorem yY (l sep:List UInt8):(Lib.cut l sep).1.length≤l.length∧(Lib.cut l sep).2.1.length≤l.length:=by
 unfold Lib.cut
 split
 · exact ⟨by simp only [List.length_take];omega,by simp only [List.length_drop];omega⟩
 · exact ⟨Nat.le_refl _,by simp⟩
theorem ul {w:World} {B B' n s:Nat} {e:TypeId} {v:Value} {xs:List Value} (h:w.ownsRow B e s v n xs) (hb:B'≤B):w.ownsRow B' e s v n xs:=by
 refine ⟨h.1,?_⟩
 rcases h.2 with h0 | ⟨g,cap,cur,hv,h1,h2⟩
 · exact .inl h0
 · exact .inr ⟨g,cap,cur,hv,Nat.le_trans hb h1,h2⟩
def sH (w:List UInt8):Spn:=⟨l4n (Lib.cut w [58]).1,if (Lib.cut w [58]).2.2=true then l4n (Lib.cut w [58]).2.1 else l4n (Lib.cut w [58]).1⟩
theorem wq {s:Spn} (h:kF s=true):sH (fa s)=s:=by
 unfold kF at h
 simp only [Bool.and_eq_true] at h
 unfold sH fa
 by_cases he:s.high=s.low
 · rw [if_pos he,uk (fun b hb=>(cW h.1 b hb).1)]
   show (⟨l4n (dN s.low),l4n (dN s.low)⟩:Spn)=s
   rw [jw h.1]
   cases s
   simp only at he
   rw [he]
 · rw [if_neg he,wo (fun b hb=>(cW h.1 b hb).1)]
   show (⟨l4n (dN s.low),l4n (dN s.high)⟩:Spn)=s
   rw [jw h.1,jw h.2]
def lq (s:List UInt8):List Spn:=(aR 44 s).map sH
theorem sc {l:List Spn} (h:setB l=true):lq (fJ l)=l:=by
 obtain ⟨h1,h2,h3⟩:=cX h
 unfold lq
 rw [jx h,List.map_map]
 conv=>rhs;rw [←List.map_id l]
 exact List.map_congr_left fun s hs=>wq (h1 s hs)
theorem um {s:List UInt8} (h:fJ (lq s)=s):bq s=some (lq s):=by
 rw [tS]
 refine ⟨?_,h⟩
 cases hb:setB (lq s) with
 | true=>rfl
 | false=>
   have h0:fJ (lq s)=[]:=by unfold fJ;rw [hb];rfl
   have hs:s=[]:=by rw [←h,h0]
   rw [hs] at hb
   exact absurd hb (by decide)
theorem wt {s:List UInt8} (h: ¬fJ (lq s)=s):bq s=none:=
 rZ fun l hl ht=>h (by rw [←ht,sc hl])
theorem ru (l:List UInt8): ∃ b,pQ l= .tuple #[.int .i64 (l4n l),.bool b]:=by
 unfold pQ l4n
 cases eJ l with
 | none=>exact ⟨_,rfl⟩
 | some n=>exact ⟨_,rfl⟩
theorem zJ (l:List UInt8):0≤l4n l:=by
 unfold l4n
 cases eJ l with
 | none=>exact Int.le_refl _
 | some n=>exact Int.natCast_nonneg _
theorem un {w:World} {b:Nat} {x0 x1:Value} {e:TypeId} (h:w.heap[b]? =some (.cells #[x0,x1] e (0,0))):
 w.cell? ⟨b,0,none⟩=some x0∧w.cell? ⟨b,1,none⟩=some x1∧w.frozen? ⟨b,0,none⟩=false∧w.frozen? ⟨b,1,none⟩=false∧
 (∀ v,(w.setCell ⟨b,0,none⟩ v).cell? ⟨b,0,none⟩=some v)∧(∀ v v',((w.setCell ⟨b,0,none⟩ v).setCell ⟨b,1,none⟩ v').cell? ⟨b,1,none⟩=some v'):=by
 have h0:w.cell? ⟨b,0,none⟩=some x0:=(aa8 h 0).trans rfl
 have h1:w.cell? ⟨b,1,none⟩=some x1:=(aa8 h 1).trans rfl
 refine ⟨h0,h1,frozen_of_row w b 0 _ e h,frozen_of_row w b 1 _ e h,fun v=>World.cell?_setCell_same w _ _ h0,fun v v'=>World.cell?_setCell_same _ _ _ (u:=x1) ?_⟩
 rw [World.cell?_setCell_other w _ _ _ (by intro hh;injection hh with _ h2;cases h2)]
 exact h1
def TM (W:World):Prop:=Tab W∧Mx W
theorem TM.keeps:mO TM:=fun _ _ h hb=>⟨h.1.below hb,h.2.below hb⟩
theorem sd (s:ByteArray) (w:World) (hM:Mx w) (hs:s.size≤1048576):
 Calls Tryz.prog 212 #[.string s] w fun e w'=>e= .returned (zo (sH s.data.toList))∧Below w.heap.size w w':=by
 obtain ⟨m,hm⟩:=hM
 have hbA:Below w.heap.size w (w.alloc (.cells #[.int .i64 0,.int .i64 0] 62)):=(Below.refl _ _).alloc (Nat.le_refl _) _
 have hmA:=(hbA.cell (p:=⟨3,0,none⟩) (World.block_lt_of_cell? _ _ hm)).trans hm
 have c1:=Tryz.strings_Cut s ⟨#[58]⟩ m _ (by omega) hmA
 rw [show (ByteArray.mk #[58]).data.toList=[58] from rfl] at c1
 have hle:=yY s.data.toList [58]
 have HV:sH s.data.toList=⟨l4n (Lib.cut s.data.toList [58]).1,if (Lib.cut s.data.toList [58]).2.2=true then l4n (Lib.cut s.data.toList [58]).2.1 else l4n (Lib.cut s.data.toList [58]).1⟩:=rfl
 obtain ⟨⟨a,b,f⟩,hcut⟩: ∃ q,Lib.cut s.data.toList [58]=q:=⟨_,rfl⟩
 rw [hcut] at c1 hle HV
 simp only at c1 hle HV
 rw [dI] at hle
 have haz:(ByteArray.mk a.toArray).size≤1048576:=by show a.toArray.size≤_;simp;omega
 have hbz:(ByteArray.mk b.toArray).size≤1048576:=by show b.toArray.size≤_;simp;omega
 have c2:=fun W=>ez ⟨a.toArray⟩ W haz
 have c3:=fun W=>ez ⟨b.toArray⟩ W hbz
 obtain ⟨q1,hq1⟩:=ru a
 obtain ⟨q2,hq2⟩:=ru b
 rw [show (ByteArray.mk a.toArray).data.toList=a from rfl,hq1] at c2
 rw [show (ByteArray.mk b.toArray).data.toList=b from rfl,hq2] at c3
 have C1:=aa9 c1
 have C2:=aa9 c2
 have C3:=aa9 c3
 clear c1 c2 c3 hcut hle haz hbz hq1 hq2 hm hmA
 generalize sH s.data.toList=R at *
 generalize l4n a=x at *
 generalize l4n b=y at *
 have hblkA:(w.alloc (.cells #[.int .i64 0,.int .i64 0] 62)).heap[w.heap.size]? =some (.cells #[.int .i64 0,.int .i64 0] 62 (0,0)):=heap_alloc_new w _
 have HA:=aa9 hblkA
 have HZ:=aa9 (show (w.alloc (.cells #[.int .i64 0,.int .i64 0] 62)).heap.size=w.heap.size+1 by simp)
 clear hblkA
 cases f with
 | false=>
   have HV2:=aa9 (show R=⟨x,x⟩ from HV)
   clear HV
   go_enter Tryz.func212,Tryz.ntmps212
   go_wp2_with fail
   refine (C1.out).mono ?_
   rintro e w1 ⟨rfl,k,rfl⟩
   go_wp2_with fail
   refine (C2.out _).mono ?_
   rintro e w2 ⟨rfl,b2⟩
   have hb:=(bdN hbA k).trans (b2.mono (by show _≤(w.alloc _).heap.size;rw [HZ.out];omega))
   have hblk:=(b2.block w.heap.size (by show _ < (w.alloc _).heap.size;rw [HZ.out];omega)).trans HA.out
   obtain ⟨hc0,hc1,hf0,hf1,hs0,hs1⟩:=un hblk
   clear b2 hblk
   go_wp2
   exact bodyPost_ret (v:=zo ⟨x,x⟩) (by simp [results,Tryz.results212,go_sem,hs0,hs1]) rfl ⟨by rw [HV2.out],(hb.setCell (Nat.le_refl _) _).setCell (Nat.le_refl _) _⟩
 | true=>
   have HV2:=aa9 (show R=⟨x,y⟩ from HV)
   clear HV
   go_enter Tryz.func212,Tryz.ntmps212
   go_wp2_with fail
   refine (C1.out).mono ?_
   rintro e w1 ⟨rfl,k,rfl⟩
   go_wp2_with fail
   refine (C2.out _).mono ?_
   rintro e w2 ⟨rfl,b2⟩
   have hb:=(bdN hbA k).trans (b2.mono (by show _≤(w.alloc _).heap.size;rw [HZ.out];omega))
   have hblk:=(b2.block w.heap.size (by show _ < (w.alloc _).heap.size;rw [HZ.out];omega)).trans HA.out
   have hz2:=hb.size
   have hlt2:w.heap.size < w2.heap.size:=(Array.getElem?_eq_some_iff.1 hblk).1
   clear b2 hbA
   go_wp2_with fail
   refine (C3.out _).mono ?_
   rintro e w3 ⟨rfl,b3⟩
   have hb3:=hb.trans (b3.mono hz2)
   have hblk3:=(b3.block w.heap.size hlt2).trans hblk
   obtain ⟨hc0,hc1,hf0,hf1,hs0,hs1⟩:=un hblk3
   clear b3 hblk hblk3 hb
   go_wp2
   exact bodyPost_ret (v:=zo ⟨x,y⟩) (by simp [results,Tryz.results212,go_sem,hs0,hs1]) rfl ⟨by rw [HV2.out],(hb3.setCell (Nat.le_refl _) _).setCell (Nat.le_refl _) _⟩
theorem lr:qv TM:=by
 intro s w hG hs
 obtain ⟨l,rfl⟩: ∃ l:List UInt8,s=⟨l.toArray⟩:=⟨s.data.toList,by cases s;simp⟩
 have C1:=aa9 (mT ⟨l.toArray⟩ 44 w hs)
 have hll:l.length≤1048576:=by have:l.toArray.size≤1048576:=hs;simpa using this
 rw [show (ByteArray.mk l.toArray).data.toList=l from rfl] at C1 ⊢
 have HG:=aa9 hG
 have hpl:(aR 44 l).length≤1048577:=by have:=dP 44 l;omega
 have HPL:=aa9 (fun x hx=>ln 44 l x hx)
 have HSL:=aa9 hll
 have HPr:=aa9 (show lq l=(aR 44 l).map sH from rfl)
 generalize hws:aR 44 l=ws at *
 clear hws hG
 go_enter Tryz.func183,Tryz.ntmps183
 go_wp2_with fail
 refine (C1.out).mono ?_
 rintro e w1 ⟨v1,rfl,o1,b1⟩
 have HB1:=aa9 b1
 have hz1:=b1.size
 have HRW:=aa9 (Rd1.of_own (enc:=sv) o1)
 obtain ⟨pw,cw,rfl,_⟩:=HRW.out.ex
 clear b1 o1 C1
 go_wp2
 go_loopw [4,10] (fun u i wr=> ∃ k:Nat,k≤ws.length∧i= .int .i64 k∧wr.ownsRow w1.heap.size 62 2 u k (((ws.take k).map sH).flatMap je)∧Below w1.heap.size w1 wr) (fun _ i _=>ws.length - (intOf i).toNat)
 case atStart=>exact ⟨0,by omega,rfl,World.ownsRow_nil _ _ _ _,Below.refl _ _⟩
 case round=>
  obtain ⟨k,hk,rfl,hown,hbr⟩:=hrel
  have hbr0:=hbr.size
  by_cases hlt:k < ws.length
  · obtain ⟨p',c',hv,hp⟩:=HRW.out.ex
    injection hv with e1 _ e2
    subst e1 e2
    obtain ⟨b,off,rfl,hb1,hcell⟩:=hp.resolve_left (by intro h;subst h;simp at hlt)
    obtain ⟨x,hx⟩: ∃ x,ws[k]? =some x:=⟨_,List.getElem?_eq_getElem hlt⟩
    have e1:wr.cell? ⟨b,off+k,none⟩=some (sv x):=(hbr.cell (p:=⟨b,off+k,none⟩) hb1).trans (hcell k x hx)
    have hxz:(ByteArray.mk x.toArray).size≤1048576:=by
     have h1:=HPL.out x (List.mem_of_getElem? hx)
     have h2:=HSL.out
     show x.toArray.size≤_
     simp
     omega
    have c2:=sd ⟨x.toArray⟩ wr ((TM.keeps _ _ HG.out (HB1.out.trans (hbr.mono hz1))).2) hxz
    rw [show (ByteArray.mk x.toArray).data.toList=x from rfl] at c2
    have C2:=aa9 c2
    have HTK:=aa9 (show ((ws.take (k+1)).map sH).flatMap je=((ws.take k).map sH).flatMap je++je (sH x) by rw [jm hx];simp)
    generalize sH x=q at *
    clear hcell hx hp hxz c2
    go_wp2_with fail
    refine (C2.out).mono ?_
    rintro e w2 ⟨rfl,b2⟩
    have o2:=ao hown b2
    have hb2:=hbr.trans (b2.mono hbr0)
    have hz2:=hb2.size
    clear hown hbr b2 C2 e1
    go_wp2_with (at_builtin;refine aE Tryz.el_spn rfl (.tmp 14) (.tmp 17) rfl w1 w2 u4 k _ rfl o2 hb2 hz2 #[.int .i64 q.low,.int .i64 q.high] (.inr rfl) 1 1 rfl rfl (by simp [Value.oneCell']) (by omega) (by omega) (by omega) ?_)
    intro g cap w3 hown3 hb3 _ _ _
    clear o2 hb2
    go_wp2
    go_roundw
    case rel=>exact ⟨k+1,by omega,by go_num,by rw [HTK.out];simpa [je] using hown3,hb3⟩
    case measure=>simp [intOf];omega
  · obtain rfl:k=ws.length:=by omega
    rw [List.take_length,←HPr.out] at hown
    have hbw:=HB1.out.trans (hbr.mono hz1)
    have hpz:(lq l).length=ws.length:=by rw [HPr.out];simp
    have HPZ:=aa9 hpz
    have HY:=aa9 (fun h=>um (s:=l) h)
    have HN:=aa9 (fun h=>wt (s:=l) h)
    have CS:=aa9 (fX u4 (lq l) wr (TM.keeps _ _ HG.out hbw).1 (Rd.of_own (fun _=>rfl) hpz hown) (by omega))
    clear hpz HPr HPL HRW
    generalize lq l=P at *
    obtain ⟨q,hq⟩: ∃ q,fJ P=q:=⟨_,rfl⟩
    rw [hq] at CS HY HN
    have hbwz:=hbw.size
    clear hq
    by_cases he:q=l
    · have hne:(q==l)=true:=by rw [he];simp
      have HR:=aa9 (HY.out he)
      clear HY HN he
      go_wp2_with fail
      refine (CS.out).mono ?_
      rintro e w2 ⟨rfl,b2⟩
      have o2:=ao hown b2
      have hb2:=hbw.trans (b2.mono hbwz)
      clear hown b2 CS hbw
      go_wp2
      go_ret2
      exact ⟨_,by rw [HR.out];rfl,by rw [HR.out];show World.ownsRow _ _ _ _ _ P.length _;rw [HPZ.out];exact ul o2 hz1,hb2⟩
    · have hne:(q==l)=false:=by simpa using he
      have HR:=aa9 (HN.out he)
      clear HY HN he
      go_wp2_with fail
      refine (CS.out).mono ?_
      rintro e w2 ⟨rfl,b2⟩
      have hb2:=hbw.trans (b2.mono hbwz)
      clear hown b2 CS hbw
      go_wp2
      go_ret2
      exact ⟨_,by rw [HR.out];rfl,by rw [HR.out];exact World.ownsRow_nil _ _ _ _,hb2⟩
end Go.Proofs.YtmlgkoeacbeopaaGreatDoor
namespace Go.Proofs.YtmlgkoeacbeopaaGreatDoor
open Go.RowKit
def xI (g:Nat) (code:List UInt8) (w:World) (e:Ending) (w':World):Prop:=
 ∃ (s:Scp) (vn:Value),e= .returned (.agg #[.int .i64 s.kind,vn,.int .i64 s.events])∧(1≤s.kind∧s.kind≤4)∧(1≤s.events∧s.events≤15)∧s.names.length≤2∧(∀ x∈s.names,x.length≤41)∧
   w'.ownsRow w.heap.size 9 1 vn s.names.length (s.names.map sv)∧Cur w' g code∧w.grownBy w' (some g)
structure SB (w:World) (B R:Nat) (k ev:Int) (vn:Value):Prop where
 b:w.heap[B]? =some (.cells #[.int .i64 k,vn,.int .i64 ev] 123 (0,0))
 r:w.heap[R]? =some (.cells #[.int .i64 0,.slice none 0 0,.int .i64 0] 123 (0,0))
theorem SB.grown {w w1:World} {B R:Nat} {k ev:Int} {vn:Value} {row:Option Nat} (h:SB w B R k ev vn) (hg:w.grownBy w1 row) (hB:some B ≠ row) (hR:some R ≠ row):SB w1 B R k ev vn:=
 ⟨(hg.block B (Array.getElem?_eq_some_iff.1 h.b).1 hB).trans h.b,(hg.block R (Array.getElem?_eq_some_iff.1 h.r).1 hR).trans h.r⟩
theorem SB.put {w:World} {B R:Nat} {k ev:Int} {vn:Value} (h:SB w B R k ev vn) (hne: ¬R=B) (u:Value):SB (w.setCell ⟨B,1,none⟩ u) B R k ev u:=
 ⟨bz h.b,(aD (by intro e;exact hne e)).trans h.r⟩
theorem SB.cells {w:World} {B R:Nat} {k ev:Int} {vn:Value} (h:SB w B R k ev vn):
 w.cell? ⟨B,0,none⟩=some (.int .i64 k)∧w.cell? ⟨B,1,none⟩=some vn∧w.cell? ⟨B,2,none⟩=some (.int .i64 ev)∧w.frozen? ⟨B,1,none⟩=false:=
 ⟨(aa8 h.b 0).trans rfl,(aa8 h.b 1).trans rfl,(aa8 h.b 2).trans rfl,Lib.frozen_of_heap h.b 1⟩
theorem lu {w:World} {b:Nat} {x0 x1 x2:Value} {e:TypeId} (h:w.heap[b]? =some (.cells #[x0,x1,x2] e (0,0))):
 (w.cell? ⟨b,0,none⟩=some x0∧w.cell? ⟨b,1,none⟩=some x1∧w.cell? ⟨b,2,none⟩=some x2)∧(w.frozen? ⟨b,0,none⟩=false∧w.frozen? ⟨b,1,none⟩=false∧w.frozen? ⟨b,2,none⟩=false)∧
 (∀ v,(w.setCell ⟨b,0,none⟩ v).cell? ⟨b,0,none⟩=some v)∧(∀ v v',((w.setCell ⟨b,0,none⟩ v).setCell ⟨b,1,none⟩ v').cell? ⟨b,1,none⟩=some v')∧(∀ v v' v'',(((w.setCell ⟨b,0,none⟩ v).setCell ⟨b,1,none⟩ v').setCell ⟨b,2,none⟩ v'').cell? ⟨b,2,none⟩=some v''):=by
 refine ⟨(cC3 h),⟨Lib.frozen_of_heap h 0,Lib.frozen_of_heap h 1,Lib.frozen_of_heap h 2⟩,fun v=> ?_,fun v v'=> ?_,fun v v' v''=> ?_⟩
 · exact (aa8 (bz h) 0).trans rfl
 · exact (aa8 (bz (bz h)) 1).trans rfl
 · exact (aa8 (bz (bz (bz h))) 2).trans rfl
theorem zK {g:Nat} {code:List UInt8} {w X:World} {s:Scp} {vn a b c:Value} (hk:1≤s.kind∧s.kind≤4) (he:1≤s.events∧s.events≤15) (hl:s.names.length≤2) (hx: ∀ x∈s.names,x.length≤41)
 (ho:X.ownsRow (w.heap.size+1) 9 1 vn s.names.length (s.names.map sv)) (hc:Cur X g code) (hlt:g < w.heap.size) (hg:w.grownBy X (some g)):
 xI g code w (.returned (.agg #[.int .i64 s.kind,vn,.int .i64 s.events])) (((X.setCell ⟨w.heap.size,0,none⟩ a).setCell ⟨w.heap.size,1,none⟩ b).setCell ⟨w.heap.size,2,none⟩ c):=by
 have hne: ∀ k,vn.ownBlock=some k→k ≠ w.heap.size:=fun k hk=>by have:=(ho.lt k hk).1;omega
 have ho':X.ownsRow w.heap.size 9 1 vn s.names.length (s.names.map sv):=⟨ho.1,ho.2.imp id fun ⟨g,cap,cur,h1,h2,h3⟩=>⟨g,cap,cur,h1,by omega,h3⟩⟩
 exact ⟨s,vn,rfl,hk,he,hl,hx,dR (dR (dR ho' hne) hne) hne,((hc.put hlt 0 a).put hlt 1 b).put hlt 2 c,kH (kH (kH hg (Nat.le_refl _) 0 a) (Nat.le_refl _) 1 b) (Nat.le_refl _) 2 c⟩
end Go.Proofs.YtmlgkoeacbeopaaGreatDoor
