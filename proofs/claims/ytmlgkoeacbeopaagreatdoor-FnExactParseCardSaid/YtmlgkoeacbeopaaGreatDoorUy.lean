/- Uy -/
import Derived.Deep.CutBlock
import Derived.Test.YtmlgkoeacbeopaaGreatDoorUx
set_option maxHeartbeats 12800000
namespace Go.Proofs.YtmlgkoeacbeopaaGreatDoor
open Go.RowKit
def oL22 : List (Nat × Bool) := [(0, true), (1, true), (2, true), (3, false), (4, true), (5, true)]
set_option maxRecDepth 20000 in
theorem nL:uH:=by
 intro v l w0 w hr hw hcp hl hx hF
 have hr0:=hr
 replace hr:=hr.below hw
 have HW:=aa9 hw
 clear hw
 obtain ⟨p,c,rfl,hp⟩:=hr.ex
 have hc:l.length≤c:=hcp _ _ _ rfl
 have HR:=aa9 hr0
 have HX:=aa9 hx
 have HF:=aa9 hF
 have hbr0:Below w.heap.size w (w.alloc (.cells #[.int .i64 0,.slice none 0 0,.int .i64 0] 123)):=(Below.refl _ _).alloc (Nat.le_refl _) _
 have hblk:(w.alloc (.cells #[.int .i64 0,.slice none 0 0,.int .i64 0] 123)).heap[w.heap.size]? =some (.cells #[.int .i64 0,.slice none 0 0,.int .i64 0] 123 (0,0)):=heap_alloc_new w _
 have HBK:=aa9 hblk
 have hz0:(w.alloc (.cells #[.int .i64 0,.slice none 0 0,.int .i64 0] 123)).heap.size=w.heap.size+1:=by simp
 have HZ0:=aa9 hz0
 have HBR:=aa9 hbr0
 have HZB:=aa9 (fun a b c=>((hbr0.setCell (p:=⟨w.heap.size,0,none⟩) (Nat.le_refl _) a).setCell (p:=⟨w.heap.size,1,none⟩) (Nat.le_refl _) b).setCell (p:=⟨w.heap.size,2,none⟩) (Nat.le_refl _) c)
 clear hr hr0 hcp hx hF hz0
 obtain ⟨⟨r0,r1,r2⟩,⟨f0,f1,f2⟩,s0,s1,s2⟩:=lu hblk
 clear hblk
 by_cases hsh:l.length < 2
 · rw [pu hsh]
   have hshi:(l.length:Int) < 2:=by omega
   clear hp
   go_enter Tryz.func213,Tryz.ntmps213
   go_wp2
   exact bodyPost_ret (v:= .tuple #[.agg #[.int .i64 0,.slice none 0 0,.int .i64 0],.slice none 0 0,.bool false]) (by simp [results,Tryz.results213,go_sem]) rfl (eu.none_ ⟨rfl,HBR.out⟩)
 match l,hsh with
 | [],h=>exact absurd (by simp) h
 | [_],h=>exact absurd (by simp) h
 | a::t::r,_=>
   obtain ⟨b,off,rfl,hb,hcell⟩:=hp.resolve_left (by simp)
   have ha0:w.cell? ⟨b,off,none⟩=some (.int .i64 a.kind):=hcell 0 a rfl 0 _ rfl
   have ha1:w.cell? ⟨b,off+1,none⟩=some (sv a.text):=hcell 0 a rfl 1 _ rfl
   have ht0:w.cell? ⟨b,off+2,none⟩=some (.int .i64 t.kind):=hcell 1 t rfl 0 _ rfl
   have ht1:w.cell? ⟨b,off+2+1,none⟩=some (sv t.text):=hcell 1 t rfl 1 _ rfl
   have a0:=(hbr0.cell (p:=⟨b,off,none⟩) hb).trans ha0
   have a1:=(hbr0.cell (p:=⟨b,off+1,none⟩) hb).trans ha1
   have t0:=((hbr0.drew).cell (p:=⟨b,off+2,none⟩) hb).trans ht0
   have t1:=((hbr0.drew).cell (p:=⟨b,off+2+1,none⟩) hb).trans ht1
   have HT0:=aa9 ht0
   have HT1:=aa9 ht1
   clear hcell hp ha0 ha1 ht0 ht1
   have hlen:(a::t::r).length=r.length+2:=rfl
   rw [hlen] at hl hc HR
   rw [hlen]
   clear hlen
   by_cases hop:a.kind=3∧a.text=[]
   · have HOP:=aa9 hop
     have HSC:=aa9 (sr (a:=a) (t:=t) (r:=r) hop)
     rw [hop.1] at a0
     rw [hop.2] at a1
     have HD:=aa9 (show Rd 2 dh w0 (.slice (if c=2 then some (⟨b,off,none⟩:Addr) else Option.map (fun x:Addr=>x.add (2 * 2)) (some (⟨b,off,none⟩:Addr))) (r.length+2 - 2) (c - 2)) r∧c7 (.slice (if c=2 then some (⟨b,off,none⟩:Addr) else Option.map (fun x:Addr=>x.add (2 * 2)) (some (⟨b,off,none⟩:Addr))) (r.length+2 - 2) (c - 2)) from hD (l:=a::t::r) (k:=2) (show Rd 2 dh w0 (.slice (some ⟨b,off,none⟩) (a::t::r).length c) (a::t::r) from HR.out) hc (by show 2≤r.length+2;omega))
     have htx:=HX.out t (by simp)
     have CK:=aa9 (fun W=>nK t W htx)
     have HKB:=aa9 (rA t)
     clear hop htx
     generalize de (a::t::r)=U at *
     go_enter Tryz.func213,Tryz.ntmps213
     go_wp2
     clear a0 a1 r0 r1 r2 f0 f1 f2 s0 s1 s2
     have hlt1:(1:Int) < (r.length:Int)+2:=by omega
     refine jf (fd.flo 0 (.flo 1 (.flo 2 (.flo 5 (.flo 6 (.fork 3 (.flo 4 (.ev 7 (.ev 8 (.flo 9 (.flo 10 .nil))))) 7 (.ev 3 (.flo 4 (.ev 8 (.flo 9 (.flo 10 .nil))))))))))) (fun W=>W.cell? ⟨b,off+2,none⟩=some (.int .i64 t.kind)∧W.cell? ⟨b,off+2+1,none⟩=some (sv t.text)) (by kernel_rfl) (by kernel_rfl) rfl (by kernel_rfl) ?_
     intro ops' hops
     have HBD:=aa9 hbr0.drew
     have HBKD:=aa9 (show (w.alloc (.cells #[.int .i64 0,.slice none 0 0,.int .i64 0] 123)).drew.heap[w.heap.size]? =some (.cells #[.int .i64 0,.slice none 0 0,.int .i64 0] 123 (0,0)) from HBK.out)
     have HZD:=aa9 (show w.heap.size < (w.alloc (.cells #[.int .i64 0,.slice none 0 0,.int .i64 0] 123)).drew.heap.size by show w.heap.size < (w.alloc _).heap.size;rw [HZ0.out];omega)
     generalize (w.alloc (.cells #[.int .i64 0,.slice none 0 0,.int .i64 0] 123)).drew=W0 at *
     have g0:=br hops 0
     have g1:=br hops 1
     have g2:=br hops 2
     have g3:=br hops 3
     have g4:=br hops 4
     have g5:=br hops 5
     have g6:=br hops 6
     have g7:=br hops 7
     have g8:=br hops 8
     have g9:=br hops 9
     have g10:=br hops 10
     clear hops hbr0 HZ0 HBK HZB
     refine aB _ g0 ?_ (fun _ _ _ h=>h) rfl ?_ ⟨t0,t1⟩ ?_;rotate_left;focus (intro _ _;go_simp;rfl)
     refine aB _ g1 ?_ (fun _ _ _ h=>h) rfl ?_ ⟨t0,t1⟩ ?_;rotate_left;focus (intro _ _;go_simp;rfl)
     refine aB _ g2 ?_ (fun _ _ _ h=>h) rfl ?_ ⟨t0,t1⟩ ?_;rotate_left;focus (intro W hS;obtain ⟨y0,y1⟩:=hS;go_simp;rfl)
     refine aB _ g5 ?_ (fun _ _ _ h=>h) rfl ?_ ⟨t0,t1⟩ ?_;rotate_left;focus (intro _ _;go_simp;rfl)
     refine aB _ g6 (.slice (if c=2 then some (⟨b,off,none⟩:Addr) else Option.map (fun x:Addr=>x.add (2 * 2)) (some (⟨b,off,none⟩:Addr))) (r.length+2 - 2) (c - 2)) (fun _ _ _ h=>h) rfl ?_ ⟨t0,t1⟩ ?_
     · intro W hS
       go_simp
       try (intro h;omega)
     generalize (Value.slice (if c=2 then some (⟨b,off,none⟩:Addr) else Option.map (fun x:Addr=>x.add (2 * 2)) (some (⟨b,off,none⟩:Addr))) (r.length+2 - 2) (c - 2))=v6 at *
     have HTT:=aa9 (fun W (h:Below w.heap.size w W)=>(⟨(h.cell (p:=⟨b,off+2,none⟩) hb).trans HT0.out,(h.cell (p:=⟨b,off+2+1,none⟩) hb).trans HT1.out⟩:W.cell? ⟨b,off+2,none⟩=some (.int .i64 t.kind)∧W.cell? ⟨b,off+2+1,none⟩=some (sv t.text)))
     clear t0 t1
     refine ia _ _ g3 g7 rfl rfl ?wa ?wb
     case' wa=>
      go_simp
      refine (CK.out _).mono ?_
      rintro e w4 ⟨rfl,b4⟩
      have hb4:=HBD.out.trans (b4.mono HBD.out.size)
      have hk4:=(b4.block w.heap.size HZD.out).trans HBKD.out
      have hz4:=Nat.lt_of_lt_of_le HZD.out b4.size
      clear b4
      refine ⟨HTT.out _ hb4,?_⟩
      refine aB _ g4 ?_ (fun _ _ _ h=>h) rfl ?_ (HTT.out _ hb4) ?_;rotate_left;focus (intro _ _;go_simp;rfl)
      refine cP _ g7 rfl ?_
      go_simp
      refine ⟨HTT.out _ (hb4.alloc hb4.size _),?_⟩
      refine cP _ g8 rfl ?_
      go_simp
      have HS:=aa9 (show ScF w w4.heap.size (dc t) (.slice none 0 0) [] 0 (w4.alloc (.cells #[.int .i64 (dc t),.slice none 0 0,.int .i64 0] 123)) from
       ⟨heap_alloc_new w4 _,(Below.heap_alloc w4 _ _ hz4).trans hk4,World.ownsRow_nil _ _ _ _,hb4.alloc hb4.size _,hz4,fun k hk=>by simp [Value.ownBlock] at hk⟩)
      refine ⟨HTT.out _ HS.out.below,?_⟩
      refine aB _ g9 ?_ (fun _ _ _ h=>h) rfl ?_ (HTT.out _ HS.out.below) ?_;rotate_left;focus (intro _ _;go_simp;rfl)
      refine aB _ g10 ?_ (fun _ _ _ h=>h) rfl ?_ (HTT.out _ HS.out.below) ?_;rotate_left;focus (intro _ _;go_simp;rfl)
      refine d8 ?_
      clear g0 g1 g2 g3 g4 g5 g6 g7 g8 g9 g10 hb4 hk4 hz4 HTT
      generalize (w4.alloc (.cells #[.int .i64 (dc t),.slice none 0 0,.int .i64 0] 123))=X at *
      generalize w4.heap.size=sB at *
     case' wb=>
      go_simp
      have hba:=HBD.out.alloc HBD.out.size (.cells #[.int .i64 0,.slice none 0 0,.int .i64 0] 123)
      refine ⟨HTT.out _ hba,?_⟩
      refine cP _ g3 rfl ?_
      go_simp
      refine (CK.out _).mono ?_
      rintro e w4 ⟨rfl,b4⟩
      have hb4:=hba.trans (b4.mono hba.size)
      have hk4:=(b4.block w.heap.size (by have:=HZD.out;simp;omega)).trans ((Below.heap_alloc W0 _ _ HZD.out).trans HBKD.out)
      have hs4:=(b4.block W0.heap.size (by simp)).trans (heap_alloc_new W0 (.cells #[.int .i64 0,.slice none 0 0,.int .i64 0] 123))
      clear b4
      refine ⟨HTT.out _ hb4,?_⟩
      refine aB _ g4 ?_ (fun _ _ _ h=>h) rfl ?_ (HTT.out _ hb4) ?_;rotate_left;focus (intro _ _;go_simp;rfl)
      obtain ⟨⟨r0,r1,r2⟩,⟨f0,f1,f2⟩,s0,s1,s2⟩:=lu hs4
      have HS:=aa9 (show ScF w W0.heap.size (dc t) (.slice none 0 0) [] 0 (((w4.setCell ⟨W0.heap.size,0,none⟩ (.int .i64 (dc t))).setCell ⟨W0.heap.size,1,none⟩ (.slice none 0 0)).setCell ⟨W0.heap.size,2,none⟩ (.int .i64 0)) from
       ⟨by rw [bz (bz (bz hs4))];rfl,(aD (by have:=HZD.out;omega)).trans ((aD (by have:=HZD.out;omega)).trans ((aD (by have:=HZD.out;omega)).trans hk4)),World.ownsRow_nil _ _ _ _,
        ((hb4.setCell (p:=⟨W0.heap.size,0,none⟩) (by have:=HZD.out;show w.heap.size≤W0.heap.size;omega) _).setCell (p:=⟨W0.heap.size,1,none⟩) (by have:=HZD.out;show w.heap.size≤W0.heap.size;omega) _).setCell (p:=⟨W0.heap.size,2,none⟩) (by have:=HZD.out;show w.heap.size≤W0.heap.size;omega) _,HZD.out,fun k hk=>by simp [Value.ownBlock] at hk⟩)
      refine cP _ g8 rfl ?_
      go_simp
      refine ⟨⟨(HTT.out _ HS.out.below).1,(HTT.out _ hb4).2⟩,?_⟩
      refine aB _ g9 ?_ (fun _ _ _ h=>h) rfl ?_ (HTT.out _ HS.out.below) ?_;rotate_left;focus (intro _ _;go_simp;rfl)
      refine aB _ g10 ?_ (fun _ _ _ h=>h) rfl ?_ (HTT.out _ HS.out.below) ?_;rotate_left;focus (intro _ _;go_simp;rfl)
      refine d8 ?_
      clear g0 g1 g2 g3 g4 g5 g6 g7 g8 g9 g10 hb4 hk4 hs4 HTT r0 r1 r2 f0 f1 f2 s0 s1 s2
      generalize (((w4.setCell ⟨W0.heap.size,0,none⟩ (.int .i64 (dc t))).setCell ⟨W0.heap.size,1,none⟩ (.slice none 0 0)).setCell ⟨W0.heap.size,2,none⟩ (.int .i64 0))=X at *
      generalize W0.heap.size=sB at *
      clear hba
     all_goals
      generalize hkd:dc t=kd at *
      have hkb:=HKB.out
      have HKD:=aa9 hkd
      clear hkd CK HBD HBKD HZD
      obtain ⟨q0,q1,q2⟩:=HS.out.cells
      have CR:=aa9 (fun W=>sq kd (.slice none 0 0) 0 W ⟨_,_,_,rfl⟩ hkb.1 hkb.2)
      go_wp2_with fail
      refine (CR.out _).mono ?_
      rintro e w5 ⟨rfl,b5⟩
      have HS5:=aa9 (HS.out.call b5)
      clear q0 q1 q2 b5 CR HS
      go_upto_block 0 with fail
      go_cut [6,7] (fun u6 u7 wx=>GrS (nmP kd r) w0 w sB kd u6 u7 wx)
      case first=>
       have h5:kd=0∨kd=1∨kd=2∨kd=3∨kd=4:=by omega
       rcases h5 with rfl | rfl | rfl | rfl | rfl
       · have a3:=aaE
         have a4:=aaF
         rw [show mF 0 (.slice none 0 0)= .nilIface from rfl]
         go_wp2_with fail
         go_meet
         exact ⟨_,rfl,HD.out.1,HD.out.2,HS5.out⟩
       · have a3:=aaR
         have a4:=aaS
         rw [show mF 1 (.slice none 0 0)= .iface 221 (.agg #[]) from rfl]
         go_wp2_with fail
         go_meet
         exact ⟨_,rfl,HD.out.1,HD.out.2,HS5.out⟩
       · have a3:=aaV
         have a4:=aaW
         rw [show mF 2 (.slice none 0 0)= .iface 222 (.agg #[]) from rfl]
         go_wp2_with fail
         go_meet
         exact ⟨_,rfl,HD.out.1,HD.out.2,HS5.out⟩
       · have a3:=aaG
         have a4:=aaZ
         rw [show mF 3 (.slice none 0 0)= .iface 204 (.agg #[.slice none 0 0]) from rfl]
         have hC:=dV v6 r w0 w5 HD.out.1 (HW.out.trans (HS5.out.below.mono HW.out.size)) HD.out.2 (by omega)
         cases hat:bc r with
         | none=>
           rw [hat] at hC
           have C:=aa9 hC
           have HV:=aa9 (show nmP 3 r=none from hat)
           clear hC hat
           go_wp2_with fail
           refine (C.out).mono ?_
           rintro e w6 ⟨rfl,b6⟩
           have HS6:=aa9 (HS5.out.call b6)
           obtain ⟨q0,q1,q2⟩:=HS6.out.cells
           have q3:=HS6.out.free 1
           clear b6 C
           go_wp2_with fail
           go_meet
           rw [HV.out]
           exact ⟨rfl,HS6.out.clrN⟩
         | some q=>
           obtain ⟨nm,r3⟩:=q
           rw [hat] at hC
           have C:=aa9 hC
           have HV:=aa9 (show nmP 3 r=some (nm,r3) from hat)
           clear hC hat
           go_wp2_with fail
           refine (C.out).mono ?_
           rintro e w6 ⟨vn,vr,rfl,on,rr,cr,b6⟩
           have HS6:=aa9 (HS5.out.call b6)
           obtain ⟨q0,q1,q2⟩:=HS6.out.cells
           have q3:=HS6.out.free 1
           have HN:=aa9 (HS6.out.setN on HS5.out.slt)
           obtain ⟨pn,cn,rfl⟩:=oh on
           have HRR:=aa9 rr
           have HCR:=aa9 cr
           clear b6 C on rr cr
           go_wp2_with fail
           go_meet
           rw [HV.out]
           exact ⟨_,rfl,HRR.out,HCR.out,HN.out⟩
       · have a3:=aaH
         have a4:=aaI
         rw [show mF 4 (.slice none 0 0)= .iface 206 (.agg #[.slice none 0 0]) from rfl]
         have hC:=dV v6 r w0 w5 HD.out.1 (HW.out.trans (HS5.out.below.mono HW.out.size)) HD.out.2 (by omega)
         cases hat:bc r with
         | none=>
           rw [hat] at hC
           have C:=aa9 hC
           have HV:=aa9 (show nmP 4 r=none from hat)
           clear hC hat
           go_wp2_with fail
           refine (C.out).mono ?_
           rintro e w6 ⟨rfl,b6⟩
           have HS6:=aa9 (HS5.out.call b6)
           obtain ⟨q0,q1,q2⟩:=HS6.out.cells
           have q3:=HS6.out.free 1
           clear b6 C
           go_wp2_with fail
           go_meet
           rw [HV.out]
           exact ⟨rfl,HS6.out.clrN⟩
         | some q=>
           obtain ⟨nm,r3⟩:=q
           rw [hat] at hC
           have C:=aa9 hC
           have HV:=aa9 (show nmP 4 r=some (nm,r3) from hat)
           clear hC hat
           go_wp2_with fail
           refine (C.out).mono ?_
           rintro e w6 ⟨vn,vr,rfl,on,rr,cr,b6⟩
           have HS6:=aa9 (HS5.out.call b6)
           obtain ⟨q0,q1,q2⟩:=HS6.out.cells
           have q3:=HS6.out.free 1
           have HN:=aa9 (HS6.out.setN on HS5.out.slt)
           obtain ⟨pn,cn,rfl⟩:=oh on
           have HRR:=aa9 rr
           have HCR:=aa9 cr
           clear b6 C on rr cr
           go_wp2_with fail
           go_meet
           rw [HV.out]
           exact ⟨_,rfl,HRR.out,HCR.out,HN.out⟩
      case rest=>
       have hg:=hcut
       clear hcut HS5
       cases hnm:nmP kd r with
       | none=>
         rw [hnm] at hg
         obtain ⟨rfl,hs⟩:=hg
         have HV:=aa9 (show U=none by rw [HSC.out,hnm];rfl)
         have HS6:=aa9 hs
         obtain ⟨⟨r0,r1,r2⟩,⟨f0,f1,f2⟩,s0,s1,s2⟩:=lu hs.blkr
         clear hs hnm
         go_wp2
         exact bodyPost_ret (v:= .tuple #[.agg #[.int .i64 0,.slice none 0 0,.int .i64 0],.slice none 0 0,.bool false]) (by simp [results,Tryz.results213,go_sem,s0,s1,s2]) rfl (by rw [HV.out];exact eu.none_ ⟨rfl,HS6.out.zero _ _ _⟩)
       | some q=>
         obtain ⟨nm,r3⟩:=q
         rw [hnm] at hg
         obtain ⟨vn,rfl,rr,cr,hs⟩:=hg
         have HNM:=aa9 (show U=(bc r3).bind fun q3=>(aq 4 q3.2).bind fun q4=>some (⟨kd,nm,eN q3.1⟩,q4.2) by rw [HSC.out,hnm];rfl)
         have HS6:=aa9 hs
         have hr3:r3.length≤r.length∧ ∀ u∈r3,u∈r:=by
          unfold nmP at hnm
          split at hnm
          · exact ⟨Nat.le_of_lt (fW hnm),(iX hnm).2.2⟩
          · injection hnm with hnm;injection hnm with _ hnm;rw [←hnm];exact ⟨Nat.le_refl _,fun u h=>h⟩
         have HR3:=aa9 hr3.2
         have hr3l:=hr3.1
         obtain ⟨p3,c3,rfl,_⟩:=rr.ex
         have hC:=dV (.slice p3 r3.length c3) r3 w0 wc rr (HW.out.trans (hs.below.mono HW.out.size)) cr (by omega)
         clear hs hnm hr3 rr cr
         cases hat:bc r3 with
         | none=>
           rw [hat] at hC
           have C:=aa9 hC
           have HV:=aa9 (show U=none by rw [HNM.out,hat];rfl)
           clear hC hat
           go_wp2_with fail
           refine (C.out).mono ?_
           rintro e w6 ⟨rfl,b6⟩
           have HS7:=aa9 (HS6.out.call b6)
           obtain ⟨⟨r0,r1,r2⟩,⟨f0,f1,f2⟩,s0,s1,s2⟩:=lu HS7.out.blkr
           clear b6 C
           go_wp2
           exact bodyPost_ret (v:= .tuple #[.agg #[.int .i64 0,.slice none 0 0,.int .i64 0],.slice none 0 0,.bool false]) (by simp [results,Tryz.results213,go_sem,s0,s1,s2]) rfl (by rw [HV.out];exact eu.none_ ⟨rfl,HS7.out.zero _ _ _⟩)
         | some q=>
           obtain ⟨ws,r4⟩:=q
           rw [hat] at hC
           have C:=aa9 hC
           have HU:=aa9 (show U=(aq 4 r4).bind fun q4=>some (⟨kd,nm,eN ws⟩,q4.2) by rw [HNM.out,hat];rfl)
           have hws:=iX hat
           have HWS:=aa9 hws.2.1
           have hwl:=hws.1
           have hr4:=fW hat
           clear hC hat hws
           go_wp2_with fail
           refine (C.out).mono ?_
           rintro e w6 ⟨vw,vr,rfl,ow,rr,cr,b6⟩
           have HS7:=aa9 (HS6.out.call b6)
           have HOW:=aa9 (Rd1.of_own (enc:=sv) ow)
           have hcr:=cr
           obtain ⟨p4,c4,rfl,hp4⟩:=rr.ex
           have hc4:r4.length≤c4:=hcr _ _ _ rfl
           have HRR:=aa9 rr
           clear b6 C ow rr cr hcr
           cases r4 with
           | nil=>
             have HV:=aa9 (show U=none by rw [HU.out];rfl)
             obtain ⟨⟨r0,r1,r2⟩,⟨f0,f1,f2⟩,s0,s1,s2⟩:=lu HS7.out.blkr
             clear hp4
             go_wp2
             exact bodyPost_ret (v:= .tuple #[.agg #[.int .i64 0,.slice none 0 0,.int .i64 0],.slice none 0 0,.bool false]) (by simp [results,Tryz.results213,go_sem,s0,s1,s2]) rfl (by rw [HV.out];exact eu.none_ ⟨rfl,HS7.out.zero _ _ _⟩)
           | cons z r5=>
             obtain ⟨b4,o4,rfl,hb4,hcell⟩:=hp4.resolve_left (by simp)
             have hbw:=HW.out.trans (HS7.out.below.mono HW.out.size)
             have z0:w6.cell? ⟨b4,o4,none⟩=some (.int .i64 z.kind):=(hbw.cell (p:=⟨b4,o4,none⟩) hb4).trans (hcell 0 z rfl 0 _ rfl)
             have z1:w6.cell? ⟨b4,o4+1,none⟩=some (sv z.text):=(hbw.cell (p:=⟨b4,o4+1,none⟩) hb4).trans (hcell 0 z rfl 1 _ rfl)
             have hln:(z::r5).length=r5.length+1:=rfl
             rw [hln] at hc4 HRR hr4
             rw [hln]
             clear hln hcell hp4
             by_cases hcl:z.kind=4∧z.text=[]
             · have HV:=aa9 (show U=some (⟨kd,nm,eN ws⟩,r5) by
                rw [HU.out]
                have e3:aq 4 (z::r5)=some (z.text,r5):=by simp [aq,hcl.1,hcl.2]
                rw [e3];rfl)
               rw [hcl.1] at z0
               rw [hcl.2] at z1
               have HD5:=aa9 (show Rd 2 dh w0 (.slice (if c4=1 then some (⟨b4,o4,none⟩:Addr) else Option.map (fun x:Addr=>x.add (1 * 2)) (some (⟨b4,o4,none⟩:Addr))) (r5.length+1 - 1) (c4 - 1)) r5∧c7 (.slice (if c4=1 then some (⟨b4,o4,none⟩:Addr) else Option.map (fun x:Addr=>x.add (1 * 2)) (some (⟨b4,o4,none⟩:Addr))) (r5.length+1 - 1) (c4 - 1)) from hD (l:=z::r5) (k:=1) (show Rd 2 dh w0 (.slice (some ⟨b4,o4,none⟩) (z::r5).length c4) (z::r5) from HRR.out) hc4 (by show 1≤r5.length+1;omega))
               have CE:=aa9 (lB vw ws w6 HOW.out (by omega) (fun y hy=>by obtain ⟨u,hu,e⟩:=HWS.out y hy;rw [e];exact HX.out u (by simp [HR3.out u hu])) (HF.out.below HS7.out.below))
               clear hcl
               go_wp2_with fail
               refine (CE.out).mono ?_
               rintro e w7 ⟨rfl,b7⟩
               have HS8:=aa9 (HS7.out.call b7)
               obtain ⟨q0,q1,q2⟩:=HS8.out.cells
               have q3:=HS8.out.free 2
               have HS9:=aa9 (HS8.out.setE (eN ws))
               obtain ⟨pn,cn,rfl⟩:=oh HS9.out.nam
               clear b7 CE z0 z1
               go_upto_region 13 with fail
               clear q0 q1 q2 q3
               generalize (w7.setCell ⟨sB,2,none⟩ (.int .i64 (eN ws)))=Y at *
               obtain ⟨q0,q1,q2⟩:=HS9.out.cells
               obtain ⟨⟨r0,r1,r2⟩,⟨f0,f1,f2⟩,s0,s1,s2⟩:=lu HS9.out.blkr
               refine ah oL22 (fun W=>W.cell? ⟨sB,0,none⟩=some (.int .i64 kd)∧W.cell? ⟨sB,1,none⟩=some (.slice pn nm.length cn)∧W.cell? ⟨sB,2,none⟩=some (.int .i64 (eN ws))) (by kernel_rfl) (by kernel_rfl) rfl (by kernel_rfl) ?_
               intro ops' hops
               clear hops
               simp only [oL22,List.map_cons,List.map_nil,ae,ag]
               iterate 2 (refine aa ?_ (fun _ _ _ h=>h) rfl ?_ ⟨q0,q1,q2⟩ ?_;rotate_left;focus (intro W hS;obtain ⟨y0,y1,y2⟩:=hS;go_simp;rfl))
               refine aa (.slice (if c4=1 then some (⟨b4,o4,none⟩:Addr) else Option.map (fun x:Addr=>x.add (1 * 2)) (some (⟨b4,o4,none⟩:Addr))) (r5.length+1 - 1) (c4 - 1)) (fun _ _ _ h=>h) rfl ?_ ⟨q0,q1,q2⟩ ?_
               · intro W hS
                 go_simp
                 try (intro h;omega)
               generalize (Value.slice (if c4=1 then some (⟨b4,o4,none⟩:Addr) else Option.map (fun x:Addr=>x.add (1 * 2)) (some (⟨b4,o4,none⟩:Addr))) (r5.length+1 - 1) (c4 - 1))=v9 at *
               have HZ:=aa9 (oD (W:=((Y.setCell ⟨w.heap.size,0,none⟩ (.int .i64 kd)).setCell ⟨w.heap.size,1,none⟩ (.slice pn nm.length cn)).setCell ⟨w.heap.size,2,none⟩ (.int .i64 (eN ws))) ((aD (by have:=HS9.out.lt;omega)).trans ((aD (by have:=HS9.out.lt;omega)).trans ((aD (by have:=HS9.out.lt;omega)).trans HS9.out.blks))))
               refine al rfl ?_
               go_simp
               have HS1:=aa9 (fun (W:World) (j:Nat) (v:Value) (i:Nat)=>(World.cell?_setCell_other W ⟨w.heap.size,j,none⟩ ⟨sB,i,none⟩ v (by have:=HS9.out.lt;intro e;injection e with e _;omega)))
               refine ⟨by first | exact HZ.out | (simp only [HS1.out];exact ⟨q0,q1,q2⟩),?_⟩
               iterate 2 (refine aa ?_ (fun _ _ _ h=>h) rfl ?_ HZ.out ?_;rotate_left;focus (intro _ _;go_simp;rfl))
               refine ai ?_
               go_simp
               go_wp2
               exact bodyPost_ret (v:= .tuple #[.agg #[.int .i64 kd,.slice pn nm.length cn,.int .i64 (eN ws)],v9,.bool true]) (by simp [results,Tryz.results213,go_sem,s0,s1,s2]) rfl (by rw [HV.out];exact eu.some_ ⟨_,_,rfl,by first | exact HS9.out.res.1 | exact HS9.out.res.1.drew,HD5.out.1,HD5.out.2,by first | exact HS9.out.res.2 | exact HS9.out.res.2.drew⟩)
             · have HV:=aa9 (show U=none by
                rw [HU.out]
                have e3:aq 4 (z::r5)=none:=by simp only [aq];rw [if_neg (by intro e;exact hcl ⟨e.1,by simpa using e.2⟩)]
                rw [e3];rfl)
               obtain ⟨⟨r0,r1,r2⟩,⟨f0,f1,f2⟩,s0,s1,s2⟩:=lu HS7.out.blkr
               cases g3:(z.kind==4) with
               | false=>
                 clear hcl
                 go_wp2
                 exact bodyPost_ret (v:= .tuple #[.agg #[.int .i64 0,.slice none 0 0,.int .i64 0],.slice none 0 0,.bool false]) (by simp [results,Tryz.results213,go_sem,s0,s1,s2]) rfl (by rw [HV.out];exact eu.none_ ⟨rfl,HS7.out.zero _ _ _⟩)
               | true=>
                 have g5:(z.text==([]:List UInt8))=false:=by rw [beq_eq_false_iff_ne];exact fun h=>hcl ⟨beq_iff_eq.1 g3,h⟩
                 rw [beq_iff_eq.1 g3] at z0
                 clear hcl g3
                 go_wp2
                 exact bodyPost_ret (v:= .tuple #[.agg #[.int .i64 0,.slice none 0 0,.int .i64 0],.slice none 0 0,.bool false]) (by simp [results,Tryz.results213,go_sem,s0,s1,s2]) rfl (by rw [HV.out];exact eu.none_ ⟨rfl,HS7.out.zero _ _ _⟩)
   · have HV:=aa9 (qC (r:=t::r) hop)
     rw [HV.out]
     cases g3:(a.kind==3) with
     | false=>
       clear hop
       go_enter Tryz.func213,Tryz.ntmps213
       go_wp2
       exact bodyPost_ret (v:= .tuple #[.agg #[.int .i64 0,.slice none 0 0,.int .i64 0],.slice none 0 0,.bool false]) (by simp [results,Tryz.results213,go_sem]) rfl (eu.none_ ⟨rfl,HBR.out⟩)
     | true=>
       have g5:(a.text==([]:List UInt8))=false:=by rw [beq_eq_false_iff_ne];exact fun h=>hop ⟨beq_iff_eq.1 g3,h⟩
       rw [beq_iff_eq.1 g3] at a0
       clear hop g3
       go_enter Tryz.func213,Tryz.ntmps213
       go_wp2
       exact bodyPost_ret (v:= .tuple #[.agg #[.int .i64 0,.slice none 0 0,.int .i64 0],.slice none 0 0,.bool false]) (by simp [results,Tryz.results213,go_sem]) rfl (eu.none_ ⟨rfl,HBR.out⟩)
end Go.Proofs.YtmlgkoeacbeopaaGreatDoor
namespace Go.Proofs.YtmlgkoeacbeopaaGreatDoor
theorem iY:gQ Ew:=jL nL
end Go.Proofs.YtmlgkoeacbeopaaGreatDoor
