/- Vf -/
import Derived.Test.YtmlgkoeacbeopaaGreatDoorVc
set_option maxHeartbeats 12800000
namespace Go.Proofs.YtmlgkoeacbeopaaGreatDoor
open Go.RowKit
theorem uU (x:Tok) (ll:Int) (left:Nat) (hll:ll=(left:Int)) (w:World) (hin:bs x.lf) (hL:left≤1000000000000):
 Calls Tryz.prog 58 #[.agg #[.int .i64 x.kind,sv x.text],.int .i64 ll] w fun e w'=>e= .returned (.int .i64 (szN left (bg x.lf)))∧Below w.heap.size w w':=by
 subst hll
 have hb1:Below w.heap.size w (w.alloc (.cells #[.int .i64 x.kind,sv x.text] 73)):=(Below.refl _ _).alloc (Nat.le_refl _) _
 have HA1:=aa9 (heap_alloc_new w (.cells #[.int .i64 x.kind,sv x.text] 73))
 have hsz:=Tok.sz x
 have bn_1:x.text.length≤9223372036854775807:=hin.2.1
 have bz_1:(ByteArray.mk x.text.toArray).size=x.text.length:=by show x.text.toArray.size=_;simp
 clear hin
 by_cases k0:x.text.length≤left
 · obtain ⟨L1,hL1⟩: ∃ L,L+x.text.length=left:=⟨left - x.text.length,by omega⟩
   have n0: ¬(left:Int) - (x.text.length:Int) < 0:=by omega
   have bL1:L1≤1000000000000:=by omega
   have HL1:=aa9 hL1
   have HV:=aa9 (show szN left (bg x.lf)=(left:Int) - (x.text.length:Int) by rw [hsz,m6 (by omega)];omega)
   clear hsz hL1
   go_enter Tryz.func58,Tryz.ntmps58
   go_wp2
   go_ret
   exact ⟨by rw [HV.out];rfl,hb1⟩
 · have HV:=aa9 (show szN left (bg x.lf)= -1 by rw [hsz];exact oi (by omega))
   have n0:(left:Int) - (x.text.length:Int) < 0:=by omega
   clear hsz
   go_enter Tryz.func58,Tryz.ntmps58
   go_wp2
   go_ret
   exact ⟨by rw [HV.out];rfl,hb1⟩
theorem uV (x:Tok) (w:World) (_hs:bg x.lf≤1000000000000):
 Calls Tryz.prog 69 #[.agg #[.int .i64 x.kind,sv x.text],.agg #[.int .i64 x.kind,sv x.text]] w fun e w'=>e= .returned (.bool true)∧Below w.heap.size w w':=by
 go_enter Tryz.func69,Tryz.ntmps69
 go_wp2
 go_ret
 exact ⟨rfl,((Below.refl _ _).alloc (Nat.le_refl _) _).alloc (by simp) _⟩
set_option maxRecDepth 20000 in
theorem uW (x:Tok) (w:World) (_hs:bg x.lf≤10000000):
 Calls Tryz.prog 63 #[.agg #[.int .i64 x.kind,sv x.text]] w fun e w'=>e= .returned (.agg #[.int .i64 x.kind,sv x.text])∧Below w.heap.size w w':=by
 go_enter Tryz.func63,Tryz.ntmps63
 go_wp2
 go_returns
 exact ⟨rfl,(((Below.refl _ _).alloc (Nat.le_refl _) _).alloc (by simp) _).alloc (by simp;omega) _⟩
theorem mJ (v:Value) (l:List Tok) (ll:Int) (left:Nat) (hll:ll=(left:Int)) (w:World) (hr:az w (aQ l) v) (hin:kK (aQ l)) (hL:left≤1000000000000):
 Calls Tryz.prog 22 #[v,.int .i64 ll] w fun e w'=>e= .returned (.int .i64 (szN left (co (aQ l))))∧Below w.heap.size w w':=by
 subst hll
 have HSZ:=aa9 (show co (aQ l)=l.length+bg (l.flatMap Tok.lf) from rfl)
 obtain ⟨p,c,rfl,hp⟩:=Tok.at hr
 have hl:l.length≤9223372036854775807:=hin.1
 have HX:=aa9 (bs.flat hin.2)
 have HP:=aa9 hp
 clear hr hp hin
 by_cases hbig:l.length≤left
 · have h1: ¬(left:Int) - (l.length:Int) < 0:=by omega
   go_enter Tryz.func22,Tryz.ntmps22
   go_wp2
   go_loopw [1,5] (fun lf i wr=> ∃ j q:Nat,j≤l.length∧i= .int .i64 j∧lf= .int .i64 (q:Int)∧q+(l.length+bg ((l.take j).flatMap Tok.lf))=left∧Below w.heap.size w wr) (fun _ i _=>l.length - (intOf i).toNat)
   case atStart=>exact ⟨0,left - l.length,by omega,rfl,by congr 1;omega,by simp [bg];omega,Below.refl _ _⟩
   case round=>
    obtain ⟨j,q,hj,rfl,rfl,hq,hbr⟩:=hrel
    have hbr0:=hbr.size
    have hqL:q≤1000000000000:=by omega
    by_cases hlt:j < l.length
    · obtain ⟨b1,o1,rfl,hb1,hc1⟩:=HP.out.resolve_left (by intro h;subst h;simp at hlt)
      obtain ⟨s,hs⟩: ∃ s,l[j]? =some s:=⟨_,List.getElem?_eq_getElem hlt⟩
      obtain ⟨x0,x1⟩:=hc1 j s hs
      have e0:wr.cell? ⟨b1,o1+j * 2,none⟩=some (.int .i64 s.kind):=(hbr.cell (p:=⟨b1,o1+j * 2,none⟩) hb1).trans x0
      have e1:wr.cell? ⟨b1,o1+j * 2+1,none⟩=some (sv s.text):=(hbr.cell (p:=⟨b1,o1+j * 2+1,none⟩) hb1).trans x1
      have cz:=fun ll (hl:ll=(q:Int))=>uU s ll q hl wr (HX.out s (List.mem_of_getElem? hs)) hqL
      have htk:bg ((l.take (j+1)).flatMap Tok.lf)=bg ((l.take j).flatMap Tok.lf)+bg s.lf:=by rw [bC Tok.lf hs,cC]
      have hmono:=lV Tok.lf l (j+1)
      by_cases hok:bg s.lf≤q
      · obtain ⟨q2,hq2⟩: ∃ q2,q2+bg s.lf=q:=⟨q - bg s.lf,by omega⟩
        have hqe:q2+(l.length+bg ((l.take (j+1)).flatMap Tok.lf))=left:=by omega
        simp only [show szN q (bg s.lf)=(q2:Int) from by rw [m6 hok];omega] at cz
        have CZ:=aa9 cz
        have hnn: ¬(q2:Int) < 0:=by omega
        have HQ:=aa9 hqe
        clear cz htk hq hq2 hqe hmono hok
        clear hc1 hs HP x0 x1
        go_wp2_with fail
        refine (CZ.out _ rfl).mono ?_
        rintro e w2 ⟨rfl,b2⟩
        have hb2:=hbr.trans (b2.mono hbr0)
        clear CZ b2 hbr e0 e1
        go_wp2
        go_roundw
        case rel=>exact ⟨j+1,q2,by omega,by go_num,rfl,HQ.out,hb2⟩
        case measure=>simp [intOf];omega
      · simp only [show szN q (bg s.lf)= -1 from oi hok] at cz
        have CZ:=aa9 cz
        have HV:=aa9 (show szN left (co (aQ l))= -1 by rw [HSZ.out];exact oi (by omega))
        clear cz htk hq hmono hok
        clear hc1 hs HP x0 x1
        go_wp2_with fail
        refine (CZ.out _ rfl).mono ?_
        rintro e w2 ⟨rfl,b2⟩
        have hb2:=hbr.trans (b2.mono hbr0)
        clear CZ b2 hbr e0 e1
        go_wp2
        go_ret
        exact ⟨by rw [HV.out];rfl,hb2⟩
    · obtain rfl:j=l.length:=by omega
      rw [List.take_length] at hq
      have HV:=aa9 (show szN left (co (aQ l))=(q:Int) by rw [HSZ.out,m6 (by omega)];omega)
      clear hq
      go_wp2
      go_ret
      exact ⟨by rw [HV.out];rfl,hbr⟩
 · have h1:(left:Int) - (l.length:Int) < 0:=by omega
   have HV:=aa9 (show szN left (co (aQ l))= -1 by rw [HSZ.out];exact oi (by omega))
   go_enter Tryz.func22,Tryz.ntmps22
   go_wp2
   go_ret
   exact ⟨by rw [HV.out];rfl,Below.refl _ _⟩
theorem sE (a b:Value) (l:List Tok) (w:World) (ha:az w (aQ l) a) (hb:az w (aQ l) b) (hs:co (aQ l)≤1000000000000):
 Calls Tryz.prog 27 #[a,b] w fun e w'=>e= .returned (.bool true)∧Below w.heap.size w w':=by
 have hs2:l.length+bg (l.flatMap Tok.lf)≤1000000000000:=hs
 clear hs
 obtain ⟨p,c1,rfl,hp⟩:=Tok.at ha
 obtain ⟨q,c2,rfl,hq⟩:=Tok.at hb
 clear ha hb
 have HP:=aa9 hp
 have HQ:=aa9 hq
 clear hp hq
 have HL:=aa9 hs2
 have hll:l.length≤1000000000000:=by omega
 clear hs2
 go_enter Tryz.func27,Tryz.ntmps27
 go_wp2
 go_loopw [5] (fun i wr=> ∃ k:Nat,k≤l.length∧i= .int .i64 k∧Below w.heap.size w wr) (fun i _=>l.length - (intOf i).toNat)
 case atStart=>exact ⟨0,by omega,rfl,Below.refl _ _⟩
 case round=>
  obtain ⟨k,hk,rfl,hbr⟩:=hrel
  have hbr0:=hbr.size
  by_cases hlt:k < l.length
  · obtain ⟨b1,o1,rfl,hb1,hc1⟩:=HP.out.resolve_left (by intro h;subst h;simp at hlt)
    obtain ⟨b2,o2,rfl,hb2,hc2⟩:=HQ.out.resolve_left (by intro h;subst h;simp at hlt)
    obtain ⟨s,hs⟩: ∃ s,l[k]? =some s:=⟨_,List.getElem?_eq_getElem hlt⟩
    obtain ⟨x0,x1⟩:=hc1 k s hs
    obtain ⟨y0,y1⟩:=hc2 k s hs
    have e0:wr.drew.cell? ⟨b1,o1+k * 2,none⟩=some (.int .i64 s.kind):=(hbr.cell (p:=⟨b1,o1+k * 2,none⟩) hb1).trans x0
    have f0:wr.drew.cell? ⟨b2,o2+k * 2,none⟩=some (.int .i64 s.kind):=(hbr.cell (p:=⟨b2,o2+k * 2,none⟩) hb2).trans y0
    have e1:wr.drew.cell? ⟨b1,o1+k * 2+1,none⟩=some (sv s.text):=(hbr.cell (p:=⟨b1,o1+k * 2+1,none⟩) hb1).trans x1
    have f1:wr.drew.cell? ⟨b2,o2+k * 2+1,none⟩=some (sv s.text):=(hbr.cell (p:=⟨b2,o2+k * 2+1,none⟩) hb2).trans y1
    have hsm:=dy Tok.lf (List.mem_of_getElem? hs)
    have CE:=aa9 (uV s wr.drew (by have:=HL.out;omega))
    clear hc1 hc2 hs HP HQ hsm x0 y0 x1 y1
    go_wp2
    refine ah oL3 (fun W=>(W.cell? ⟨b1,o1+k * 2,none⟩=some (.int .i64 s.kind)∧W.cell? ⟨b1,o1+k * 2+1,none⟩=some (sv s.text))∧W.cell? ⟨b2,o2+k * 2,none⟩=some (.int .i64 s.kind)∧W.cell? ⟨b2,o2+k * 2+1,none⟩=some (sv s.text)) (by kernel_rfl) (by kernel_rfl) rfl (by kernel_rfl) ?_
    intro ops' hops
    clear hops
    simp only [oL3,List.map_cons,List.map_nil,ae,ag]
    iterate 8 (refine aa ?_ (fun _ _ _ h=>h) rfl ?_ ⟨⟨e0,e1⟩,f0,f1⟩ ?_;rotate_left;focus (intro W hS;obtain ⟨⟨s0,s1⟩,t0,t1⟩:=hS;go_simp;rfl))
    refine al rfl ?_
    go_simp
    refine (CE.out).mono ?_
    rintro e w2 ⟨rfl,bb⟩
    have hb2':=hbr.drew.trans (bb.mono (by show w.heap.size≤wr.heap.size;omega))
    have hlt1:b1 < wr.drew.heap.size:=Nat.lt_of_lt_of_le hb1 hbr0
    have hlt2:b2 < wr.drew.heap.size:=Nat.lt_of_lt_of_le hb2 hbr0
    have HE:=aa9 (show (fun W:World=>(W.cell? ⟨b1,o1+k * 2,none⟩=some (.int .i64 s.kind)∧W.cell? ⟨b1,o1+k * 2+1,none⟩=some (sv s.text))∧W.cell? ⟨b2,o2+k * 2,none⟩=some (.int .i64 s.kind)∧W.cell? ⟨b2,o2+k * 2+1,none⟩=some (sv s.text)) w2 from ⟨⟨(bb.cell (p:=⟨b1,o1+k * 2,none⟩) hlt1).trans e0,(bb.cell (p:=⟨b1,o1+k * 2+1,none⟩) hlt1).trans e1⟩,(bb.cell (p:=⟨b2,o2+k * 2,none⟩) hlt2).trans f0,(bb.cell (p:=⟨b2,o2+k * 2+1,none⟩) hlt2).trans f1⟩)
    refine ⟨HE.out,?_⟩
    iterate 1 (refine aa ?_ (fun _ _ _ h=>h) rfl ?_ HE.out ?_;rotate_left;focus (intro W hS;obtain ⟨⟨s0,s1⟩,t0,t1⟩:=hS;go_simp;rfl))
    refine ai ?_
    go_simp
    clear e0 f0 e1 f1 bb hbr hbr0 CE HE
    go_wp2
    go_roundw
    case rel=>exact ⟨k+1,by omega,by go_num,hb2'⟩
    case measure=>simp [intOf];omega
  · obtain rfl:k=l.length:=by omega
    go_wp2
    go_ret
    exact ⟨rfl,hbr⟩
set_option maxRecDepth 20000 in
theorem sF (v:Value) (l:List Tok) (w:World) (hr:az w (aQ l) v) (hs:co (aQ l)≤10000000):
 Calls Tryz.prog 24 #[v] w fun e w'=> ∃ v' fp,e= .returned v'∧cx w' w.heap.size (aQ l) v' fp∧Below w.heap.size w w':=by
 have hs2:l.length+bg (l.flatMap Tok.lf)≤10000000:=hs
 obtain ⟨p,c,rfl,hp⟩:=Tok.at hr
 have HP:=aa9 hp
 have HL:=aa9 hs2
 have hll:l.length≤10000000:=by omega
 clear hr hp hs hs2
 go_enter Tryz.func24,Tryz.ntmps24
 go_wp2_with (refine rJ Tryz.el_token rfl _ _ rfl w.heap.size w (Below.refl _ _) (Nat.le_refl _) _ _ l.length rfl rfl (by omega) (by omega) ?_)
 intro w1 xs0 hown1 hb1 hlt1
 go_wp2
 go_loopw [4] (fun i wr=> ∃ (k:Nat) (A R:List Value) (fq:List Nat),k≤l.length∧i= .int .i64 k∧A.length=k * 2∧wr.ownsRow w.heap.size 80 2 (.slice (some ⟨w.heap.size,0,none⟩) l.length l.length) l.length (A++R)∧bS wr ((l.take k).flatMap Tok.lf) A fq∧fq.Nodup∧(∀ q∈fq,w.heap.size < q)∧Below w.heap.size w wr∧w.heap.size < wr.heap.size) (fun i _=>l.length - (intOf i).toNat)
 case atStart=>exact ⟨0,[],xs0,[],by omega,rfl,by simp,hown1,⟨rfl,rfl⟩,by simp,by simp,hb1,hlt1⟩
 case round=>
  obtain ⟨k,A,R,fq,hk,rfl,hA,hown,hin,hnd,hlow,hbr,hzr⟩:=hrel
  have hbr0:=hbr.size
  clear hown1 hb1 hlt1
  by_cases hlt:k < l.length
  · obtain ⟨b1,o1,rfl,hb1,hc1⟩:=HP.out.resolve_left (by intro h;subst h;simp at hlt)
    obtain ⟨s,hs⟩: ∃ s,l[k]? =some s:=⟨_,List.getElem?_eq_getElem hlt⟩
    obtain ⟨x0,x1⟩:=hc1 k s hs
    have e0:wr.cell? ⟨b1,o1+k * 2,none⟩=some (.int .i64 s.kind):=(hbr.cell (p:=⟨b1,o1+k * 2,none⟩) hb1).trans x0
    have e1:wr.cell? ⟨b1,o1+k * 2+1,none⟩=some (sv s.text):=(hbr.cell (p:=⟨b1,o1+k * 2+1,none⟩) hb1).trans x1
    have hsm:=dy Tok.lf (List.mem_of_getElem? hs)
    have CT:=aa9 (uW s wr (by have:=HL.out;omega))
    have HTK:=aa9 (bC Tok.lf hs)
    clear hc1 hs HP hsm x0 x1
    go_wp2_with fail
    refine (CT.out).mono ?_
    rintro e w2 ⟨rfl,b2⟩
    have hown2:=ao hown b2
    have hin2:=bS.frame _ _ _ (fun q hq=>b2.block q (bS.lt _ _ _ hin q hq)) hin
    have hqz: ∀ q∈fq,q < wr.heap.size:=fun q hq=>bS.lt _ _ _ hin q hq
    have hb2:=hbr.trans (b2.mono hbr0)
    have hz2:=b2.size
    obtain ⟨R1,R2,rfl,hR1⟩:=rI hown2.1 hA hlt
    obtain ⟨y0,y1,rfl⟩: ∃ y0 y1,R1=[y0,y1]:=by
     match R1,hR1 with
     | [a0,a1],_=>exact ⟨a0,a1,rfl⟩
    simp only [List.cons_append,List.nil_append] at hown2
    clear hown hin b2 CT hR1 e0 e1
    have c0:w2.cell? ⟨w.heap.size,k * 2,none⟩=some y0:=dQ (L:=y0::y1::R2) hown2 hA 0 _ rfl
    have q0:w2.frozen? ⟨w.heap.size,k * 2,none⟩=false:=er hown2 _
    have p0:(w2.setCell ⟨w.heap.size,k * 2,none⟩ (.int .i64 s.kind)).ownsRow w.heap.size 80 2 (.slice (some ⟨w.heap.size,0,none⟩) l.length l.length) l.length (A++(.int .i64 s.kind)::y1::R2):=jT (L:=y0::y1::R2) hown2 hA 0 (.int .i64 s.kind)
    have c1:(w2.setCell ⟨w.heap.size,k * 2,none⟩ (.int .i64 s.kind)).cell? ⟨w.heap.size,k * 2+1,none⟩=some y1:=dQ (L:=(.int .i64 s.kind)::y1::R2) p0 hA 1 _ rfl
    have q1:(w2.setCell ⟨w.heap.size,k * 2,none⟩ (.int .i64 s.kind)).frozen? ⟨w.heap.size,k * 2+1,none⟩=false:=er p0 _
    have p1:((w2.setCell ⟨w.heap.size,k * 2,none⟩ (.int .i64 s.kind)).setCell ⟨w.heap.size,k * 2+1,none⟩ (sv s.text)).ownsRow w.heap.size 80 2 (.slice (some ⟨w.heap.size,0,none⟩) l.length l.length) l.length (A++(.int .i64 s.kind)::(sv s.text)::R2):=jT (L:=(.int .i64 s.kind)::y1::R2) p0 hA 1 (sv s.text)
    have gs:ac w2 ((w2.setCell ⟨w.heap.size,k * 2,none⟩ (.int .i64 s.kind)).setCell ⟨w.heap.size,k * 2+1,none⟩ (sv s.text)) [w.heap.size]:=((ac.refl w2 [w.heap.size]).trans (ac.set (by simp))).trans (ac.set (by simp))
    have IA:=aa9 (bS.apart hin2 gs (fun q hq hm=>by have:=hlow q hq;simp at hm;omega))
    have hb3:=ac.below hb2 gs hb2.size (fun q hq=>by simp at hq;omega)
    have hz3:w.heap.size < ((w2.setCell ⟨w.heap.size,k * 2,none⟩ (.int .i64 s.kind)).setCell ⟨w.heap.size,k * 2+1,none⟩ (sv s.text)).heap.size:=Nat.lt_of_lt_of_le (Nat.lt_of_lt_of_le hzr hz2) gs.size
    have PP:=aa9 p1
    clear hown2 hin2 hb2 gs p0 p1
    go_wp2
    go_roundw
    case rel=>
     refine ⟨k+1,A++[(.int .i64 s.kind),(sv s.text)],R2,fq++([]),by omega,by go_num,by simp;omega,by simpa using PP.out,?_,?_,?_,hb3,hz3⟩
     · rw [HTK.out]
       exact bS.append.2 ⟨A,_,fq,_,rfl,IA.out,Tok.in_mk,rfl⟩
     · simpa using hnd
     · simpa using hlow
    case measure=>simp [intOf];omega
  · obtain rfl:k=l.length:=by omega
    have hR0:R=[]:=by
     have:=hown.1
     rw [List.length_append,hA] at this
     exact List.eq_nil_of_length_eq_zero (by omega)
    subst hR0
    rw [List.append_nil] at hown
    rw [List.take_length] at hin
    have hT:cx wr w.heap.size (aQ l) (.slice (some ⟨w.heap.size,0,none⟩) l.length l.length) (w.heap.size::fq):=by
     refine ⟨⟨ce Tok.len l,A,fq,dz hown,hin,rfl⟩,List.nodup_cons.2 ⟨fun hm=>by have:=hlow _ hm;omega,hnd⟩,fun q hq=> ?_⟩
     rcases List.mem_cons.1 hq with rfl | hq
     · exact Nat.le_refl _
     · exact Nat.le_of_lt (hlow q hq)
    have HT:=aa9 hT
    clear hT hown hin hA
    go_wp2
    go_ret
    exact ⟨_,_,rfl,HT.out,hbr⟩
set_option maxRecDepth 20000 in
theorem pI (v:Value) (l:List Tok) (kk:Int) (k:Nat) (hkk:kk=(k:Int)) (fp:List Nat) (w:World) (hi:au w (aQ l) v fp) (hnd:fp.Nodup) (hk:k+aL (aQ l)≤1000000000000) (hs:co (aQ l)≤1000000000000):
 Calls Tryz.prog 28 #[v,.int .i64 kk] w fun e w'=>e= .returned (.int .i64 ((k+aL (aQ l):Nat):Int))∧au w' (aX (aQ l) k).1 v fp∧ac w w' fp:=by
 subst hkk
 have hs2:l.length+bg (l.flatMap Tok.lf)≤1000000000000:=hs
 have hll:l.length≤1000000000000:=by omega
 have HSZ:=aa9 hs2
 have HCN:=aa9 (show k+aW (l.flatMap Tok.lf)≤1000000000000 from hk)
 clear hk hs hs2
 obtain ⟨hfl,xs,fq,hown0,hin0,rfl⟩:=hi
 have hex: ∃ p c,v= .slice p l.length c∧(0 < l.length→ ∃ g,p=some ⟨g,0,none⟩):=by
  rcases h:hown0.2 with ⟨hv,h0⟩ | ⟨g,cap,cur,hv,_⟩
  · exact ⟨none,0,by rw [hv,h0],fun h=>by omega⟩
  · exact ⟨_,cap,hv,fun _=>⟨g,rfl⟩⟩
 obtain ⟨p,c,rfl,hp⟩:=hex
 have HP:=aa9 hp
 have HND:=aa9 hnd
 clear hp hnd hfl
 generalize hFP:(Value.slice p l.length c).ownBlock.toList++fq=fp at *
 have HFP:=aa9 hFP
 clear hFP
 go_enter Tryz.func28,Tryz.ntmps28
 go_wp2
 go_loopw [1,5] (fun kk i wr=> ∃ (j q:Nat) (A R:List Value) (fA fR:List Nat),j≤l.length∧i= .int .i64 j∧kk= .int .i64 (q:Int)∧q=k+aW ((l.take j).flatMap Tok.lf)∧A.length=j * 2∧wr.ownsRow 0 80 2 (.slice p l.length c) l.length (A++R)∧bS wr (aO ((l.take j).flatMap Tok.lf) k).1 A fA∧bS wr ((l.drop j).flatMap Tok.lf) R fR∧fA++fR=fq∧ac w wr fp) (fun _ i _=>l.length - (intOf i).toNat)
 case atStart=>exact ⟨0,k,[],xs,[],fq,by omega,rfl,rfl,by simp [aW],by simp,hown0,⟨rfl,rfl⟩,hin0,rfl,ac.refl _ _⟩
 case round=>
  obtain ⟨j,q,A,R,fA,fR,hj,rfl,rfl,hq,hA,hown,hiA,hiR,hff,hgr⟩:=hrel
  clear hown0 hin0
  by_cases hlt:j < l.length
  · obtain ⟨g,rfl⟩:=HP.out (by omega)
    obtain ⟨s,hs⟩: ∃ s,l[j]? =some s:=⟨_,List.getElem?_eq_getElem hlt⟩
    have hdr:l.drop j=s::l.drop (j+1):=by
     obtain ⟨h1,h2⟩:=List.getElem?_eq_some_iff.1 hs
     rw [List.drop_eq_getElem_cons h1,h2]
    rw [hdr,List.flatMap_cons] at hiR
    obtain ⟨u1,R2,f_,f2,rfl,hi1,hiR2,rfl⟩:=bS.append.1 hiR
    obtain ⟨rfl,rfl⟩:=Tok.in_of hi1
    simp only [List.cons_append,List.nil_append] at hown
    have HMK:=aa9 (show (aO ((l.take (j+1)).flatMap Tok.lf) k).1=(aO ((l.take j).flatMap Tok.lf) k).1++(aO s.lf q).1 by rw [bC Tok.lf hs,gu,hq])
    have HEN:=aa9 (show k+aW ((l.take (j+1)).flatMap Tok.lf)=q+aW s.lf by rw [bC Tok.lf hs,bZ,hq];omega)
    have hcb:q+aW s.lf≤1000000000000:=by have h1:=cD Tok.lf l (j+1);have h2:=HEN.out;have h3:=HCN.out;omega
    rw [Tok.cnt] at hcb
    have hsb:bg s.lf≤1000000000000:=by have h1:=dy Tok.lf (List.mem_of_getElem? hs);have h2:=HSZ.out;omega
    rw [Tok.sz] at hsb
    have hnd2:(g::(fA++([]++f2))).Nodup:=by have h1:=HND.out;have h2:=HFP.out;rw [←hff] at h2;rw [←h2] at h1;exact h1
    obtain ⟨hg0,hn0⟩:=List.nodup_cons.1 hnd2
    obtain ⟨dA,_,hn1⟩:=fh hn0
    obtain ⟨dF,hnr,_⟩:=fh hn1
    have gA:g ∉ fA:=fun hm=>hg0 (by simp [hm])
    have gF:g ∉ f2:=fun hm=>hg0 (by simp [hm])
    have hgf:g∈fp:=by rw [←HFP.out];simp [Value.ownBlock]
    have HQ:=aa9 hq
    have HFF:=aa9 hff
    have HCB:=aa9 hcb
    have HSB:=aa9 hsb
    have hqb:q≤1000000000000:=by omega
    clear hq hff hcb hsb hs hdr hi1 hiR hnd2 hn0 hn1 hnr HP
    have c0:=dQ (L:=(.int .i64 s.kind)::(sv s.text)::R2) hown hA 0 _ rfl
    have z0:wr.frozen? ⟨g,j * 2,none⟩=false:=er hown _
    rw [Nat.add_zero] at c0
    have p0:(wr.setCell ⟨g,j * 2,none⟩ (.int .i64 (q:Int))).ownsRow 0 80 2 (.slice (some ⟨g,0,none⟩) l.length c) l.length (A++(.int .i64 (q:Int))::(sv s.text)::R2):=jT (L:=(.int .i64 s.kind)::(sv s.text)::R2) hown hA 0 (.int .i64 (q:Int))
    have gs:ac wr (wr.setCell ⟨g,j * 2,none⟩ (.int .i64 (q:Int))) [g]:=(ac.refl wr [g]).trans (ac.set (by simp))
    replace hiA:=bS.apart hiA gs (fun q hq hm=>by simp at hm;exact gA (hm ▸ hq))
    replace hiR2:=bS.apart hiR2 gs (fun q hq hm=>by simp at hm;exact gF (hm ▸ hq))
    replace hgr:=hgr.trans (gs.mono (fun q hq=>by simp at hq;exact hq ▸ hgf))
    clear gs
    have PP:=aa9 p0
    have IA:=aa9 hiA
    have IR:=aa9 hiR2
    have GR:=aa9 hgr
    clear hiA hiR2 hgr hown p0
    go_wp2_with fail
    refine (rR _ (q+1) (by omega) _ (by omega)).mono ?_
    rintro e w1 ⟨rfl,b1⟩
    have hiA:=IA.out
    have hiR2:=IR.out
    have hgr:=GR.out
    have hown:=PP.out
    clear IA IR GR PP c0 z0
    have gb:ac (wr.setCell ⟨g,j * 2,none⟩ (.int .i64 (q:Int))) w1 []:=ac.of_below b1
    replace hown:=ao hown b1
    replace hiA:=bS.apart hiA gb (fun _ _ h=>by cases h)
    replace hiR2:=bS.apart hiR2 gb (fun _ _ h=>by cases h)
    replace hgr:=hgr.trans (gb.mono (fun _ h=>by cases h))
    clear b1 gb
    have c1:=dQ (L:=(.int .i64 (q:Int))::(sv s.text)::R2) hown hA 1 _ rfl
    have z1:w1.frozen? ⟨g,j * 2+1,none⟩=false:=er hown _
    have p1:(w1.setCell ⟨g,j * 2+1,none⟩ (sv (cA (q+1)))).ownsRow 0 80 2 (.slice (some ⟨g,0,none⟩) l.length c) l.length (A++(.int .i64 (q:Int))::(sv (cA (q+1)))::R2):=jT (L:=(.int .i64 (q:Int))::(sv s.text)::R2) hown hA 1 (sv (cA (q+1)))
    have gs:ac w1 (w1.setCell ⟨g,j * 2+1,none⟩ (sv (cA (q+1)))) [g]:=(ac.refl w1 [g]).trans (ac.set (by simp))
    replace hiA:=bS.apart hiA gs (fun q hq hm=>by simp at hm;exact gA (hm ▸ hq))
    replace hiR2:=bS.apart hiR2 gs (fun q hq hm=>by simp at hm;exact gF (hm ▸ hq))
    replace hgr:=hgr.trans (gs.mono (fun q hq=>by simp at hq;exact hq ▸ hgf))
    clear gs
    have PP:=aa9 p1
    have IA:=aa9 hiA
    have IR:=aa9 hiR2
    have GR:=aa9 hgr
    clear hiA hiR2 hgr hown p1
    go_wp2
    go_roundw
    case rel=>
     refine ⟨j+1,q+aW s.lf,A++[(.int .i64 (q:Int)),(sv (cA (q+1)))],R2,fA++([]),f2,by omega,by go_num,?_,HEN.out.symm,by simp;omega,by simpa using PP.out,?_,IR.out,by rw [List.append_assoc];exact HFF.out,GR.out⟩
     · rw [Tok.cnt]
       congr 1 <;> omega
     · rw [HMK.out,Tok.mark]
       exact bS.append.2 ⟨A,_,fA,_,rfl,IA.out,Tok.in_mk,rfl⟩
    case measure=>simp [intOf];omega
  · obtain rfl:j=l.length:=by omega
    have hR0:R=[]∧fR=[]:=by rw [List.drop_length] at hiR;exact hiR
    obtain ⟨rfl,rfl⟩:=hR0
    rw [List.append_nil] at hown hff
    rw [List.take_length] at hiA hq
    subst hff
    have HT:=aa9 (show au wr (aX (aQ l) k).1 (.slice p l.length c) fp from ⟨by rw [cY];exact ce Tok.len l,A,fA,dz hown,hiA,HFP.out.symm⟩)
    have HV:=aa9 (show q=k+aL (aQ l) from hq)
    clear hiA hiR hown hA hq
    go_wp2
    go_ret
    exact ⟨by rw [HV.out];rfl,HT.out,hgr⟩
def qT (l:List Tok):ap:=(aM l).getD dx
def oT (l:List Tok):Bool:=(aM l).isSome
theorem c7.of_toks {W:World} {l:List Tok} {v:Value} {fp:List Nat} (h:au W (aQ l) v fp):c7 v:=by
 obtain ⟨_,xs,fq,h,_⟩:=h
 exact c7.of_own h
def dD (f:FuncId) (G:World→Prop):Prop:= ∀ (l_List:List Tok) (v_List:Value) (W:World),G W→az W (aQ l_List) v_List→c7 v_List→co (aQ l_List)≤1048576→kK (aQ l_List)→
 Calls Tryz.prog f #[v_List] W fun e w'=> ∃ z0_5 f0_5,∃ z0_10 f0_10,e= .returned (.tuple #[.agg #[sv (qT l_List).tag,.int .i64 (qT l_List).kind,sv (qT l_List).box,sv (qT l_List).dst,.bool (qT l_List).uid,z0_5,.int .i64 (qT l_List).op,.int .i64 (qT l_List).flags,sv (qT l_List).text,.bool (qT l_List).filter.on,z0_10],.bool (oT l_List)])∧au w' (am (qT l_List).sset) z0_5 f0_5∧au w' (aj (qT l_List).filter.scopes) z0_10 f0_10∧(f0_5++f0_10).Nodup∧(∀ q∈f0_5++f0_10,W.heap.size≤q)∧Below W.heap.size W w'
set_option maxRecDepth 20000 in
theorem gd {G:World→Prop} (hK:mO G) (SP:dD 23 (fun _=>True)) (IM:dD 25 G) (l_List:List Tok) (v_List:Value) (w:World) (hG:G w) (h_v_List:az w (aQ l_List) v_List) (hb_List:kK (aQ l_List)) (hr_0:co (aQ l_List)≤1048576→bg (qT l_List).lf≤1000000000):
 Calls Tryz.prog 5 #[v_List] w fun e w'=>e= .returned (.bool true)∧Below w.heap.size w w':=by
 have H_v_List:=aa9 h_v_List
 obtain ⟨p_List,c_List,rfl⟩:=az.slice h_v_List
 clear h_v_List
 by_cases k0:co (aQ l_List)≤1048576
 case neg=>
  have q0:=fun (ll:Int) (W:World) (hl:ll=((1048576:Nat):Int)) (g:az W (aQ l_List) (.slice p_List l_List.length c_List))=>mJ (.slice p_List l_List.length c_List) l_List ll 1048576 hl W g hb_List (by omega)
  simp only [show szN 1048576 (co (aQ l_List))= -1 from oi k0] at q0
  have C_sz0:=aa9 q0
  clear q0 SP IM hr_0
  have hb:Below w.heap.size w w:=Below.refl _ _
  go_enter Tryz.func5,Tryz.ntmps5
  have hbz:=aa9 hb.size
  go_wp2_with fail
  refine (C_sz0.out _ _ (by first | rfl | omega) (az.below hb _ _ H_v_List.out)).mono ?_
  rintro e w1 ⟨rfl,b2⟩
  have hz3:w.heap.size≤w1.heap.size:=b2.size
  replace hb:=hb.trans (b2.mono hb.size)
  clear b2
  go_wp2
  go_ret
  exact ⟨rfl,hb⟩
 obtain ⟨L1,hL1⟩: ∃ L,L+co (aQ l_List)=1048576:=⟨1048576 - co (aQ l_List),by omega⟩
 have bL1:L1≤1048576:=by omega
 have nL1: ¬(L1:Int) < 0:=by omega
 have q0:=fun (ll:Int) (W:World) (hl:ll=((1048576:Nat):Int)) (g:az W (aQ l_List) (.slice p_List l_List.length c_List))=>mJ (.slice p_List l_List.length c_List) l_List ll 1048576 hl W g hb_List (by omega)
 simp only [show szN 1048576 (co (aQ l_List))=(L1:Int) from by rw [m6 k0];omega] at q0
 have C_sz0:=aa9 q0
 clear q0
 have HL1:=aa9 hL1
 have hsz_0:co (aQ l_List)≤1048576:=by omega
 clear hL1
 have hsm_List:co (aQ l_List)≤1048576:=by omega
 have SZ_List:=aa9 hsm_List
 have CN_List:=aa9 (show 1+aL (aQ l_List)≤1000000000 from by have h:=fP (r8 l_List);have h2:co (aQ l_List)≤1048576:=hsm_List;simp only [aQ] at h h2 ⊢;omega)
 have C_to_List:=aa9 (fun (W:World) (g:az W (aQ l_List) (.slice p_List l_List.length c_List))=>sF (.slice p_List l_List.length c_List) l_List W g (by omega))
 have C_spec:=aa9 (fun (u_List_0:Value) (W:World) (k_List_0:az W (aQ l_List) u_List_0) (kc:c7 u_List_0)=>SP l_List u_List_0 W trivial k_List_0 kc hsm_List hb_List)
 have C_impl:=aa9 (fun (u_List_0:Value) (W:World) (hg:G W) (k_List_0:az W (aQ l_List) u_List_0) (kc:c7 u_List_0)=>IM l_List u_List_0 W hg k_List_0 kc hsm_List hb_List)
 have hq_0:=hr_0 hsm_List
 have SZ_r0:=aa9 hq_0
 have CN_r0:=aa9 (show 1+aL (am (qT l_List).sset)+aL (aj (qT l_List).filter.scopes)≤100000000000 from by have hs:=ap.sz (qT l_List);have h5:=fP (jr (qT l_List).sset);have h10:=fP (gv (qT l_List).filter.scopes);simp only [aj,am] at hs hq_0 ⊢;omega)
 clear hq_0
 clear SP IM hr_0 hb_List hsm_List
 generalize (oT l_List)=R1 at *
 have ne1:(R1 != R1)=false:=by simp
 have hb:Below w.heap.size w w:=Below.refl _ _
 go_enter Tryz.func5,Tryz.ntmps5
 have hbz:=aa9 hb.size
 go_wp2_with fail
 refine (C_sz0.out _ _ (by first | rfl | omega) (az.below hb _ _ H_v_List.out)).mono ?_
 rintro e w1 ⟨rfl,b2⟩
 have hz3:w.heap.size≤w1.heap.size:=b2.size
 replace hb:=hb.trans (b2.mono hb.size)
 clear b2
 go_wp2_with fail
 refine (C_to_List.out _ (az.below hb _ _ H_v_List.out)).mono ?_
 rintro e w4 ⟨z7,f8,rfl,t9,b5⟩
 have hz10:w1.heap.size≤w4.heap.size:=b5.size
 replace hb:=hb.trans (b5.mono hb.size)
 have LO11:=aa9 (show ∀ q∈f8,w1.heap.size≤q from t9.low)
 have HI12:=aa9 (show ∀ q∈f8,q < w4.heap.size from fun q hq=>au.lt _ _ _ t9.is q hq)
 have ND13:=aa9 t9.nodup
 have F14:=aa9 t9.is
 obtain ⟨pz7,cz7,rfl⟩:=au.slice t9.is
 clear t9
 clear b5
 go_wp2_with fail
 refine (C_spec.out _ _ (au.rd _ _ _ F14.out) (c7.of_toks F14.out)).mono ?_
 rintro e w15 ⟨z17,f19,z18,f20,rfl,i21,i22,nd23,lo24,b16⟩
 have F25:=aa9 (au.below F14.out b16)
 clear F14
 have hz26:w4.heap.size≤w15.heap.size:=b16.size
 replace hb:=hb.trans (b16.mono hb.size)
 have LO27:=aa9 (show ∀ q∈f19++f20,w4.heap.size≤q from lo24)
 have HI28:=aa9 (show ∀ q∈f19++f20,q < w15.heap.size from fun q hq=>by simp only [List.mem_append] at hq;rcases hq with hq | hq <;> first | exact au.lt _ _ _ i21 q hq | exact au.lt _ _ _ i22 q hq)
 have ND29:=aa9 nd23
 have F30:=aa9 i21
 have LO31:=aa9 (show ∀ q∈f19,w4.heap.size≤q from fun q hq=>LO27.out q (by simp [hq]))
 have HI32:=aa9 (show ∀ q∈f19,q < w15.heap.size from fun q hq=>HI28.out q (by simp [hq]))
 obtain ⟨pz17,cz17,rfl⟩:=au.slice i21
 have F33:=aa9 i22
 have LO34:=aa9 (show ∀ q∈f20,w4.heap.size≤q from fun q hq=>LO27.out q (by simp [hq]))
 have HI35:=aa9 (show ∀ q∈f20,q < w15.heap.size from fun q hq=>HI28.out q (by simp [hq]))
 obtain ⟨pz18,cz18,rfl⟩:=au.slice i22
 clear i21
 clear i22
 clear nd23 lo24
 clear b16
 have b37:Below w15.heap.size w15 (w15.alloc (.cells #[sv (qT l_List).tag,.int .i64 (qT l_List).kind,sv (qT l_List).box,sv (qT l_List).dst,.bool (qT l_List).uid,(.slice pz17 (qT l_List).sset.length cz17),.int .i64 (qT l_List).op,.int .i64 (qT l_List).flags,sv (qT l_List).text,.bool (qT l_List).filter.on,(.slice pz18 (qT l_List).filter.scopes.length cz18)] 29)):=(Below.refl _ _).alloc (Nat.le_refl _) _
 have F38:=aa9 (heap_alloc_new w15 (.cells #[sv (qT l_List).tag,.int .i64 (qT l_List).kind,sv (qT l_List).box,sv (qT l_List).dst,.bool (qT l_List).uid,(.slice pz17 (qT l_List).sset.length cz17),.int .i64 (qT l_List).op,.int .i64 (qT l_List).flags,sv (qT l_List).text,.bool (qT l_List).filter.on,(.slice pz18 (qT l_List).filter.scopes.length cz18)] 29))
 have hz39:w15.heap.size < (w15.alloc (.cells #[sv (qT l_List).tag,.int .i64 (qT l_List).kind,sv (qT l_List).box,sv (qT l_List).dst,.bool (qT l_List).uid,(.slice pz17 (qT l_List).sset.length cz17),.int .i64 (qT l_List).op,.int .i64 (qT l_List).flags,sv (qT l_List).text,.bool (qT l_List).filter.on,(.slice pz18 (qT l_List).filter.scopes.length cz18)] 29)).heap.size:=by simp
 generalize hX36:w15.alloc (.cells #[sv (qT l_List).tag,.int .i64 (qT l_List).kind,sv (qT l_List).box,sv (qT l_List).dst,.bool (qT l_List).uid,(.slice pz17 (qT l_List).sset.length cz17),.int .i64 (qT l_List).op,.int .i64 (qT l_List).flags,sv (qT l_List).text,.bool (qT l_List).filter.on,(.slice pz18 (qT l_List).filter.scopes.length cz18)] 29)=X36 at *
 have F40:=aa9 (au.below F25.out b37)
 clear F25
 have F41:=aa9 (au.below F30.out b37)
 clear F30
 have F42:=aa9 (au.below F33.out b37)
 clear F33
 have hz43:w15.heap.size≤X36.heap.size:=b37.size
 replace hb:=hb.trans (b37.mono hb.size)
 clear b37
 go_wp2_with fail
 refine (C_to_List.out _ (az.below hb _ _ H_v_List.out)).mono ?_
 rintro e w44 ⟨z47,f48,rfl,t49,b45⟩
 have F50:=aa9 (au.below F40.out b45)
 clear F40
 have F51:=aa9 (au.below F41.out b45)
 clear F41
 have F52:=aa9 (au.below F42.out b45)
 clear F42
 have F53:=aa9 ((b45.block (w15.heap.size) (Array.getElem?_eq_some_iff.1 F38.out).1).trans F38.out)
 clear F38
 have hz54:X36.heap.size≤w44.heap.size:=b45.size
 replace hb:=hb.trans (b45.mono hb.size)
 have LO55:=aa9 (show ∀ q∈f48,X36.heap.size≤q from t49.low)
 have HI56:=aa9 (show ∀ q∈f48,q < w44.heap.size from fun q hq=>au.lt _ _ _ t49.is q hq)
 have ND57:=aa9 t49.nodup
 have F58:=aa9 t49.is
 obtain ⟨pz47,cz47,rfl⟩:=au.slice t49.is
 clear t49
 clear b45
 go_wp2_with fail
 refine (C_impl.out _ _ (hK _ _ hG hb) (au.rd _ _ _ F58.out) (c7.of_toks F58.out)).mono ?_
 rintro e w59 ⟨z61,f63,z62,f64,rfl,i65,i66,nd67,lo68,b60⟩
 have F69:=aa9 (au.below F50.out b60)
 clear F50
 have F70:=aa9 (au.below F51.out b60)
 clear F51
 have F71:=aa9 (au.below F52.out b60)
 clear F52
 have F72:=aa9 ((b60.block (w15.heap.size) (Array.getElem?_eq_some_iff.1 F53.out).1).trans F53.out)
 clear F53
 have F73:=aa9 (au.below F58.out b60)
 clear F58
 have hz74:w44.heap.size≤w59.heap.size:=b60.size
 replace hb:=hb.trans (b60.mono hb.size)
 have LO75:=aa9 (show ∀ q∈f63++f64,w44.heap.size≤q from lo68)
 have HI76:=aa9 (show ∀ q∈f63++f64,q < w59.heap.size from fun q hq=>by simp only [List.mem_append] at hq;rcases hq with hq | hq <;> first | exact au.lt _ _ _ i65 q hq | exact au.lt _ _ _ i66 q hq)
 have ND77:=aa9 nd67
 have F78:=aa9 i65
 have LO79:=aa9 (show ∀ q∈f63,w44.heap.size≤q from fun q hq=>LO75.out q (by simp [hq]))
 have HI80:=aa9 (show ∀ q∈f63,q < w59.heap.size from fun q hq=>HI76.out q (by simp [hq]))
 obtain ⟨pz61,cz61,rfl⟩:=au.slice i65
 have F81:=aa9 i66
 have LO82:=aa9 (show ∀ q∈f64,w44.heap.size≤q from fun q hq=>LO75.out q (by simp [hq]))
 have HI83:=aa9 (show ∀ q∈f64,q < w59.heap.size from fun q hq=>HI76.out q (by simp [hq]))
 obtain ⟨pz62,cz62,rfl⟩:=au.slice i66
 clear i65
 clear i66
 clear nd67 lo68
 clear b60
 have b85:Below w59.heap.size w59 (w59.alloc (.cells #[sv (qT l_List).tag,.int .i64 (qT l_List).kind,sv (qT l_List).box,sv (qT l_List).dst,.bool (qT l_List).uid,(.slice pz61 (qT l_List).sset.length cz61),.int .i64 (qT l_List).op,.int .i64 (qT l_List).flags,sv (qT l_List).text,.bool (qT l_List).filter.on,(.slice pz62 (qT l_List).filter.scopes.length cz62)] 29)):=(Below.refl _ _).alloc (Nat.le_refl _) _
 have F86:=aa9 (heap_alloc_new w59 (.cells #[sv (qT l_List).tag,.int .i64 (qT l_List).kind,sv (qT l_List).box,sv (qT l_List).dst,.bool (qT l_List).uid,(.slice pz61 (qT l_List).sset.length cz61),.int .i64 (qT l_List).op,.int .i64 (qT l_List).flags,sv (qT l_List).text,.bool (qT l_List).filter.on,(.slice pz62 (qT l_List).filter.scopes.length cz62)] 29))
 have hz87:w59.heap.size < (w59.alloc (.cells #[sv (qT l_List).tag,.int .i64 (qT l_List).kind,sv (qT l_List).box,sv (qT l_List).dst,.bool (qT l_List).uid,(.slice pz61 (qT l_List).sset.length cz61),.int .i64 (qT l_List).op,.int .i64 (qT l_List).flags,sv (qT l_List).text,.bool (qT l_List).filter.on,(.slice pz62 (qT l_List).filter.scopes.length cz62)] 29)).heap.size:=by simp
 generalize hX84:w59.alloc (.cells #[sv (qT l_List).tag,.int .i64 (qT l_List).kind,sv (qT l_List).box,sv (qT l_List).dst,.bool (qT l_List).uid,(.slice pz61 (qT l_List).sset.length cz61),.int .i64 (qT l_List).op,.int .i64 (qT l_List).flags,sv (qT l_List).text,.bool (qT l_List).filter.on,(.slice pz62 (qT l_List).filter.scopes.length cz62)] 29)=X84 at *
 have F88:=aa9 (au.below F69.out b85)
 clear F69
 have F89:=aa9 (au.below F70.out b85)
 clear F70
 have F90:=aa9 (au.below F71.out b85)
 clear F71
 have F91:=aa9 ((b85.block (w15.heap.size) (Array.getElem?_eq_some_iff.1 F72.out).1).trans F72.out)
 clear F72
 have F92:=aa9 (au.below F73.out b85)
 clear F73
 have F93:=aa9 (au.below F78.out b85)
 clear F78
 have F94:=aa9 (au.below F81.out b85)
 clear F81
 have hz95:w59.heap.size≤X84.heap.size:=b85.size
 replace hb:=hb.trans (b85.mono hb.size)
 clear b85
 obtain ⟨y96,y97,y98,y99,y100,y101,y102,y103,y104,y105,y106⟩:=cC11 F86.out
 obtain ⟨y107,y108,y109,y110,y111,y112,y113,y114,y115,y116,y117⟩:=cC11 F91.out
 go_wp2_with fail
 refine (ed (qT l_List) _ _ _ _ _ (au.rd _ _ _ F93.out) (au.rd _ _ _ F89.out) (au.rd _ _ _ F94.out) (au.rd _ _ _ F90.out) (by have:=SZ_r0.out;omega)).mono ?_
 rintro e w118 ⟨rfl,b119⟩
 clear y96 y97 y98 y99 y100 y101 y102 y103 y104 y105 y106 y107 y108 y109 y110 y111 y112 y113 y114 y115 y116 y117
 have F120:=aa9 (au.below F88.out b119)
 clear F88
 have F121:=aa9 (au.below F89.out b119)
 clear F89
 have F122:=aa9 (au.below F90.out b119)
 clear F90
 have F123:=aa9 ((b119.block (w15.heap.size) (Array.getElem?_eq_some_iff.1 F91.out).1).trans F91.out)
 clear F91
 have F124:=aa9 (au.below F92.out b119)
 clear F92
 have F125:=aa9 (au.below F93.out b119)
 clear F93
 have F126:=aa9 (au.below F94.out b119)
 clear F94
 have F127:=aa9 ((b119.block (w59.heap.size) (Array.getElem?_eq_some_iff.1 F86.out).1).trans F86.out)
 clear F86
 have hz128:X84.heap.size≤w118.heap.size:=b119.size
 replace hb:=hb.trans (b119.mono hb.size)
 clear b119
 go_wp2_with fail
 refine (C_to_List.out _ (az.below hb _ _ H_v_List.out)).mono ?_
 rintro e w129 ⟨z132,f133,rfl,t134,b130⟩
 have F135:=aa9 (au.below F120.out b130)
 clear F120
 have F136:=aa9 (au.below F121.out b130)
 clear F121
 have F137:=aa9 (au.below F122.out b130)
 clear F122
 have F138:=aa9 ((b130.block (w15.heap.size) (Array.getElem?_eq_some_iff.1 F123.out).1).trans F123.out)
 clear F123
 have F139:=aa9 (au.below F124.out b130)
 clear F124
 have F140:=aa9 (au.below F125.out b130)
 clear F125
 have F141:=aa9 (au.below F126.out b130)
 clear F126
 have F142:=aa9 ((b130.block (w59.heap.size) (Array.getElem?_eq_some_iff.1 F127.out).1).trans F127.out)
 clear F127
 have hz143:w118.heap.size≤w129.heap.size:=b130.size
 replace hb:=hb.trans (b130.mono hb.size)
 have LO144:=aa9 (show ∀ q∈f133,w118.heap.size≤q from t134.low)
 have HI145:=aa9 (show ∀ q∈f133,q < w129.heap.size from fun q hq=>au.lt _ _ _ t134.is q hq)
 have ND146:=aa9 t134.nodup
 have F147:=aa9 t134.is
 obtain ⟨pz132,cz132,rfl⟩:=au.slice t134.is
 clear t134
 clear b130
 go_wp2_with fail
 refine (sE _ _ l_List _ (au.rd _ _ _ F139.out) (au.rd _ _ _ F147.out) (by have:=SZ_List.out;omega)).mono ?_
 rintro e w148 ⟨rfl,b149⟩
 have F150:=aa9 (au.below F135.out b149)
 clear F135
 have F151:=aa9 (au.below F136.out b149)
 clear F136
 have F152:=aa9 (au.below F137.out b149)
 clear F137
 have F153:=aa9 ((b149.block (w15.heap.size) (Array.getElem?_eq_some_iff.1 F138.out).1).trans F138.out)
 clear F138
 have F154:=aa9 (au.below F139.out b149)
 clear F139
 have F155:=aa9 (au.below F140.out b149)
 clear F140
 have F156:=aa9 (au.below F141.out b149)
 clear F141
 have F157:=aa9 ((b149.block (w59.heap.size) (Array.getElem?_eq_some_iff.1 F142.out).1).trans F142.out)
 clear F142
 have F158:=aa9 (au.below F147.out b149)
 clear F147
 have hz159:w129.heap.size≤w148.heap.size:=b149.size
 replace hb:=hb.trans (b149.mono hb.size)
 clear b149
 go_wp2_with fail
 refine (pI _ l_List _ 1 rfl f48 _ F154.out ND57.out (by have:=CN_List.out;omega) (by have:=SZ_List.out;omega)).mono ?_
 rintro e w160 ⟨rfl,i163,g162⟩
 clear F154
 have F164:=aa9 (au.rd _ _ _ i163)
 have F165:=aa9 (au.away F150.out g162 (fun q hq hm=>by have h1:=LO11.out q hq;have h2:=HI12.out q hq;have h3:=LO55.out q hm;have h4:=HI56.out q hm;omega))
 clear F150
 have F166:=aa9 (au.away F151.out g162 (fun q hq hm=>by have h1:=LO31.out q hq;have h2:=HI32.out q hq;have h3:=LO55.out q hm;have h4:=HI56.out q hm;omega))
 clear F151
 have F167:=aa9 (au.away F152.out g162 (fun q hq hm=>by have h1:=LO34.out q hq;have h2:=HI35.out q hq;have h3:=LO55.out q hm;have h4:=HI56.out q hm;omega))
 clear F152
 have F168:=aa9 ((g162.block (w15.heap.size) (Array.getElem?_eq_some_iff.1 F153.out).1 (fun hm=>by have h3:=LO55.out _ hm;have h4:=HI56.out _ hm;omega)).trans F153.out)
 clear F153
 have F169:=aa9 (au.away F155.out g162 (fun q hq hm=>by have h1:=LO79.out q hq;have h2:=HI80.out q hq;have h3:=LO55.out q hm;have h4:=HI56.out q hm;omega))
 clear F155
 have F170:=aa9 (au.away F156.out g162 (fun q hq hm=>by have h1:=LO82.out q hq;have h2:=HI83.out q hq;have h3:=LO55.out q hm;have h4:=HI56.out q hm;omega))
 clear F156
 have F171:=aa9 ((g162.block (w59.heap.size) (Array.getElem?_eq_some_iff.1 F157.out).1 (fun hm=>by have h3:=LO55.out _ hm;have h4:=HI56.out _ hm;omega)).trans F157.out)
 clear F157
 have F172:=aa9 (au.away F158.out g162 (fun q hq hm=>by have h1:=LO144.out q hq;have h2:=HI145.out q hq;have h3:=LO55.out q hm;have h4:=HI56.out q hm;omega))
 clear F158
 have hz173:w148.heap.size≤w160.heap.size:=g162.size
 replace hb:=ac.below hb g162 hb.size (fun q hq=>by have h3:=LO55.out q hq;have h9:=hbz.out;omega)
 clear F164
 clear g162 i163
 obtain ⟨K174,hK174⟩: ∃ K:Nat,K=1+aL (aQ l_List):=⟨_,rfl⟩
 rw [←hK174]
 have hnK174: ¬(K174:Int) < 0:=by omega
 have hdK174:decide ((K174:Int) < 0)=false:=decide_eq_false hnK174
 have HK174:=aa9 hK174
 clear hK174
 obtain ⟨y175,y176,y177,y178,y179,y180,y181,y182,y183,y184,y185⟩:=cC11 F171.out
 obtain ⟨y186,y187,y188,y189,y190,y191,y192,y193,y194,y195,y196⟩:=cC11 F168.out
 go_wp2_with fail
 refine (ed (qT l_List) _ _ _ _ _ (au.rd _ _ _ F169.out) (au.rd _ _ _ F166.out) (au.rd _ _ _ F170.out) (au.rd _ _ _ F167.out) (by have:=SZ_r0.out;omega)).mono ?_
 rintro e w197 ⟨rfl,b198⟩
 clear y175 y176 y177 y178 y179 y180 y181 y182 y183 y184 y185 y186 y187 y188 y189 y190 y191 y192 y193 y194 y195 y196
 have F199:=aa9 (au.below F165.out b198)
 clear F165
 have F200:=aa9 (au.below F166.out b198)
 clear F166
 have F201:=aa9 (au.below F167.out b198)
 clear F167
 have F202:=aa9 ((b198.block (w15.heap.size) (Array.getElem?_eq_some_iff.1 F168.out).1).trans F168.out)
 clear F168
 have F203:=aa9 (au.below F169.out b198)
 clear F169
 have F204:=aa9 (au.below F170.out b198)
 clear F170
 have F205:=aa9 ((b198.block (w59.heap.size) (Array.getElem?_eq_some_iff.1 F171.out).1).trans F171.out)
 clear F171
 have F206:=aa9 (au.below F172.out b198)
 clear F172
 have hz207:w160.heap.size≤w197.heap.size:=b198.size
 replace hb:=hb.trans (b198.mono hb.size)
 clear b198
 obtain ⟨y208,y209,y210,y211,y212,y213,y214,y215,y216,y217,y218⟩:=cC11 F205.out
 go_wp2_with fail
 refine (iE (qT l_List) _ _ _ 1 rfl f63 f64 _ F203.out F204.out ND77.out (by have:=CN_r0.out;omega) (by have:=SZ_r0.out;omega)).mono ?_
 rintro e w219 ⟨rfl,i222,i223,g221⟩
 clear y208 y209 y210 y211 y212 y213 y214 y215 y216 y217 y218
 clear F203
 have F224:=aa9 (au.rd _ _ _ i222)
 clear F204
 have F225:=aa9 (au.rd _ _ _ i223)
 have F226:=aa9 (au.away F199.out g221 (fun q hq hm=>by have h1:=LO11.out q hq;have h2:=HI12.out q hq;have h3:=LO75.out q hm;have h4:=HI76.out q hm;omega))
 clear F199
 have F227:=aa9 (au.away F200.out g221 (fun q hq hm=>by have h1:=LO31.out q hq;have h2:=HI32.out q hq;have h3:=LO75.out q hm;have h4:=HI76.out q hm;omega))
 clear F200
 have F228:=aa9 (au.away F201.out g221 (fun q hq hm=>by have h1:=LO34.out q hq;have h2:=HI35.out q hq;have h3:=LO75.out q hm;have h4:=HI76.out q hm;omega))
 clear F201
 have F229:=aa9 ((g221.block (w15.heap.size) (Array.getElem?_eq_some_iff.1 F202.out).1 (fun hm=>by have h3:=LO75.out _ hm;have h4:=HI76.out _ hm;omega)).trans F202.out)
 clear F202
 have F230:=aa9 ((g221.block (w59.heap.size) (Array.getElem?_eq_some_iff.1 F205.out).1 (fun hm=>by have h3:=LO75.out _ hm;have h4:=HI76.out _ hm;omega)).trans F205.out)
 clear F205
 have F231:=aa9 (au.away F206.out g221 (fun q hq hm=>by have h1:=LO144.out q hq;have h2:=HI145.out q hq;have h3:=LO75.out q hm;have h4:=HI76.out q hm;omega))
 clear F206
 have hz232:w197.heap.size≤w219.heap.size:=g221.size
 replace hb:=ac.below hb g221 hb.size (fun q hq=>by have h3:=LO75.out q hq;have h9:=hbz.out;omega)
 clear g221 i222 i223
 obtain ⟨K233,hK233⟩: ∃ K:Nat,K=1+aL (am (qT l_List).sset)+aL (aj (qT l_List).filter.scopes):=⟨_,rfl⟩
 rw [←hK233]
 have hnK233: ¬(K233:Int) < 0:=by omega
 have hdK233:decide ((K233:Int) < 0)=false:=decide_eq_false hnK233
 have HK233:=aa9 hK233
 clear hK233
 obtain ⟨y234,y235,y236,y237,y238,y239,y240,y241,y242,y243,y244⟩:=cC11 F230.out
 go_wp2_with fail
 refine (dS (qT l_List) _ _ _ 1 rfl _ F224.out F225.out (by have:=CN_r0.out;omega) (by have:=SZ_r0.out;omega)).mono ?_
 rintro e w245 ⟨rfl,b246⟩
 clear y234 y235 y236 y237 y238 y239 y240 y241 y242 y243 y244
 rw [←HK233.out]
 have F247:=aa9 (au.below F226.out b246)
 clear F226
 have F248:=aa9 (au.below F227.out b246)
 clear F227
 have F249:=aa9 (au.below F228.out b246)
 clear F228
 have F250:=aa9 ((b246.block (w15.heap.size) (Array.getElem?_eq_some_iff.1 F229.out).1).trans F229.out)
 clear F229
 have F251:=aa9 ((b246.block (w59.heap.size) (Array.getElem?_eq_some_iff.1 F230.out).1).trans F230.out)
 clear F230
 have F252:=aa9 (au.below F231.out b246)
 clear F231
 have F253:=aa9 (az.below b246 _ _ F224.out)
 clear F224
 have F254:=aa9 (az.below b246 _ _ F225.out)
 clear F225
 have hz255:w219.heap.size≤w245.heap.size:=b246.size
 replace hb:=hb.trans (b246.mono hb.size)
 clear b246
 go_wp2_with fail
 refine (C_to_List.out _ (az.below hb _ _ H_v_List.out)).mono ?_
 rintro e w256 ⟨z259,f260,rfl,t261,b257⟩
 have F262:=aa9 (au.below F247.out b257)
 clear F247
 have F263:=aa9 (au.below F248.out b257)
 clear F248
 have F264:=aa9 (au.below F249.out b257)
 clear F249
 have F265:=aa9 ((b257.block (w15.heap.size) (Array.getElem?_eq_some_iff.1 F250.out).1).trans F250.out)
 clear F250
 have F266:=aa9 ((b257.block (w59.heap.size) (Array.getElem?_eq_some_iff.1 F251.out).1).trans F251.out)
 clear F251
 have F267:=aa9 (au.below F252.out b257)
 clear F252
 have F268:=aa9 (az.below b257 _ _ F253.out)
 clear F253
 have F269:=aa9 (az.below b257 _ _ F254.out)
 clear F254
 have hz270:w245.heap.size≤w256.heap.size:=b257.size
 replace hb:=hb.trans (b257.mono hb.size)
 have LO271:=aa9 (show ∀ q∈f260,w245.heap.size≤q from t261.low)
 have HI272:=aa9 (show ∀ q∈f260,q < w256.heap.size from fun q hq=>au.lt _ _ _ t261.is q hq)
 have ND273:=aa9 t261.nodup
 have F274:=aa9 t261.is
 obtain ⟨pz259,cz259,rfl⟩:=au.slice t261.is
 clear t261
 clear b257
 go_wp2_with fail
 refine (C_impl.out _ _ (hK _ _ hG hb) (au.rd _ _ _ F274.out) (c7.of_toks F274.out)).mono ?_
 rintro e w275 ⟨z277,f279,z278,f280,rfl,i281,i282,nd283,lo284,b276⟩
 have F285:=aa9 (au.below F262.out b276)
 clear F262
 have F286:=aa9 (au.below F263.out b276)
 clear F263
 have F287:=aa9 (au.below F264.out b276)
 clear F264
 have F288:=aa9 ((b276.block (w15.heap.size) (Array.getElem?_eq_some_iff.1 F265.out).1).trans F265.out)
 clear F265
 have F289:=aa9 ((b276.block (w59.heap.size) (Array.getElem?_eq_some_iff.1 F266.out).1).trans F266.out)
 clear F266
 have F290:=aa9 (au.below F267.out b276)
 clear F267
 have F291:=aa9 (az.below b276 _ _ F268.out)
 clear F268
 have F292:=aa9 (az.below b276 _ _ F269.out)
 clear F269
 have F293:=aa9 (au.below F274.out b276)
 clear F274
 have hz294:w256.heap.size≤w275.heap.size:=b276.size
 replace hb:=hb.trans (b276.mono hb.size)
 have LO295:=aa9 (show ∀ q∈f279++f280,w256.heap.size≤q from lo284)
 have HI296:=aa9 (show ∀ q∈f279++f280,q < w275.heap.size from fun q hq=>by simp only [List.mem_append] at hq;rcases hq with hq | hq <;> first | exact au.lt _ _ _ i281 q hq | exact au.lt _ _ _ i282 q hq)
 have ND297:=aa9 nd283
 have F298:=aa9 i281
 have LO299:=aa9 (show ∀ q∈f279,w256.heap.size≤q from fun q hq=>LO295.out q (by simp [hq]))
 have HI300:=aa9 (show ∀ q∈f279,q < w275.heap.size from fun q hq=>HI296.out q (by simp [hq]))
 obtain ⟨pz277,cz277,rfl⟩:=au.slice i281
 have F301:=aa9 i282
 have LO302:=aa9 (show ∀ q∈f280,w256.heap.size≤q from fun q hq=>LO295.out q (by simp [hq]))
 have HI303:=aa9 (show ∀ q∈f280,q < w275.heap.size from fun q hq=>HI296.out q (by simp [hq]))
 obtain ⟨pz278,cz278,rfl⟩:=au.slice i282
 clear i281
 clear i282
 clear nd283 lo284
 clear b276
 have b305:Below w275.heap.size w275 (w275.alloc (.cells #[sv (qT l_List).tag,.int .i64 (qT l_List).kind,sv (qT l_List).box,sv (qT l_List).dst,.bool (qT l_List).uid,(.slice pz277 (qT l_List).sset.length cz277),.int .i64 (qT l_List).op,.int .i64 (qT l_List).flags,sv (qT l_List).text,.bool (qT l_List).filter.on,(.slice pz278 (qT l_List).filter.scopes.length cz278)] 29)):=(Below.refl _ _).alloc (Nat.le_refl _) _
 have F306:=aa9 (heap_alloc_new w275 (.cells #[sv (qT l_List).tag,.int .i64 (qT l_List).kind,sv (qT l_List).box,sv (qT l_List).dst,.bool (qT l_List).uid,(.slice pz277 (qT l_List).sset.length cz277),.int .i64 (qT l_List).op,.int .i64 (qT l_List).flags,sv (qT l_List).text,.bool (qT l_List).filter.on,(.slice pz278 (qT l_List).filter.scopes.length cz278)] 29))
 have hz307:w275.heap.size < (w275.alloc (.cells #[sv (qT l_List).tag,.int .i64 (qT l_List).kind,sv (qT l_List).box,sv (qT l_List).dst,.bool (qT l_List).uid,(.slice pz277 (qT l_List).sset.length cz277),.int .i64 (qT l_List).op,.int .i64 (qT l_List).flags,sv (qT l_List).text,.bool (qT l_List).filter.on,(.slice pz278 (qT l_List).filter.scopes.length cz278)] 29)).heap.size:=by simp
 generalize hX304:w275.alloc (.cells #[sv (qT l_List).tag,.int .i64 (qT l_List).kind,sv (qT l_List).box,sv (qT l_List).dst,.bool (qT l_List).uid,(.slice pz277 (qT l_List).sset.length cz277),.int .i64 (qT l_List).op,.int .i64 (qT l_List).flags,sv (qT l_List).text,.bool (qT l_List).filter.on,(.slice pz278 (qT l_List).filter.scopes.length cz278)] 29)=X304 at *
 have F308:=aa9 (au.below F285.out b305)
 clear F285
 have F309:=aa9 (au.below F286.out b305)
 clear F286
 have F310:=aa9 (au.below F287.out b305)
 clear F287
 have F311:=aa9 ((b305.block (w15.heap.size) (Array.getElem?_eq_some_iff.1 F288.out).1).trans F288.out)
 clear F288
 have F312:=aa9 ((b305.block (w59.heap.size) (Array.getElem?_eq_some_iff.1 F289.out).1).trans F289.out)
 clear F289
 have F313:=aa9 (au.below F290.out b305)
 clear F290
 have F314:=aa9 (az.below b305 _ _ F291.out)
 clear F291
 have F315:=aa9 (az.below b305 _ _ F292.out)
 clear F292
 have F316:=aa9 (au.below F293.out b305)
 clear F293
 have F317:=aa9 (au.below F298.out b305)
 clear F298
 have F318:=aa9 (au.below F301.out b305)
 clear F301
 have hz319:w275.heap.size≤X304.heap.size:=b305.size
 replace hb:=hb.trans (b305.mono hb.size)
 clear b305
 obtain ⟨y320,y321,y322,y323,y324,y325,y326,y327,y328,y329,y330⟩:=cC11 F306.out
 obtain ⟨y331,y332,y333,y334,y335,y336,y337,y338,y339,y340,y341⟩:=cC11 F311.out
 go_wp2_with fail
 refine (ed (qT l_List) _ _ _ _ _ (au.rd _ _ _ F317.out) (au.rd _ _ _ F309.out) (au.rd _ _ _ F318.out) (au.rd _ _ _ F310.out) (by have:=SZ_r0.out;omega)).mono ?_
 rintro e w342 ⟨rfl,b343⟩
 clear y320 y321 y322 y323 y324 y325 y326 y327 y328 y329 y330 y331 y332 y333 y334 y335 y336 y337 y338 y339 y340 y341
 have F344:=aa9 (au.below F308.out b343)
 clear F308
 have F345:=aa9 (au.below F309.out b343)
 clear F309
 have F346:=aa9 (au.below F310.out b343)
 clear F310
 have F347:=aa9 ((b343.block (w15.heap.size) (Array.getElem?_eq_some_iff.1 F311.out).1).trans F311.out)
 clear F311
 have F348:=aa9 ((b343.block (w59.heap.size) (Array.getElem?_eq_some_iff.1 F312.out).1).trans F312.out)
 clear F312
 have F349:=aa9 (au.below F313.out b343)
 clear F313
 have F350:=aa9 (az.below b343 _ _ F314.out)
 clear F314
 have F351:=aa9 (az.below b343 _ _ F315.out)
 clear F315
 have F352:=aa9 (au.below F316.out b343)
 clear F316
 have F353:=aa9 (au.below F317.out b343)
 clear F317
 have F354:=aa9 (au.below F318.out b343)
 clear F318
 have F355:=aa9 ((b343.block (w275.heap.size) (Array.getElem?_eq_some_iff.1 F306.out).1).trans F306.out)
 clear F306
 have hz356:X304.heap.size≤w342.heap.size:=b343.size
 replace hb:=hb.trans (b343.mono hb.size)
 clear b343
 obtain ⟨y357,y358,y359,y360,y361,y362,y363,y364,y365,y366,y367⟩:=cC11 F348.out
 go_wp2_with fail
 refine (dS (qT l_List) _ _ _ 1 rfl _ F350.out F351.out (by have:=CN_r0.out;omega) (by have:=SZ_r0.out;omega)).mono ?_
 rintro e w368 ⟨rfl,b369⟩
 clear y357 y358 y359 y360 y361 y362 y363 y364 y365 y366 y367
 rw [←HK233.out]
 have F370:=aa9 (au.below F344.out b369)
 clear F344
 have F371:=aa9 (au.below F345.out b369)
 clear F345
 have F372:=aa9 (au.below F346.out b369)
 clear F346
 have F373:=aa9 ((b369.block (w15.heap.size) (Array.getElem?_eq_some_iff.1 F347.out).1).trans F347.out)
 clear F347
 have F374:=aa9 ((b369.block (w59.heap.size) (Array.getElem?_eq_some_iff.1 F348.out).1).trans F348.out)
 clear F348
 have F375:=aa9 (au.below F349.out b369)
 clear F349
 have F376:=aa9 (az.below b369 _ _ F350.out)
 clear F350
 have F377:=aa9 (az.below b369 _ _ F351.out)
 clear F351
 have F378:=aa9 (au.below F352.out b369)
 clear F352
 have F379:=aa9 (au.below F353.out b369)
 clear F353
 have F380:=aa9 (au.below F354.out b369)
 clear F354
 have F381:=aa9 ((b369.block (w275.heap.size) (Array.getElem?_eq_some_iff.1 F355.out).1).trans F355.out)
 clear F355
 have hz382:w342.heap.size≤w368.heap.size:=b369.size
 replace hb:=hb.trans (b369.mono hb.size)
 clear b369
 go_wp2
 go_ret
 exact ⟨rfl,hb⟩
end Go.Proofs.YtmlgkoeacbeopaaGreatDoor
