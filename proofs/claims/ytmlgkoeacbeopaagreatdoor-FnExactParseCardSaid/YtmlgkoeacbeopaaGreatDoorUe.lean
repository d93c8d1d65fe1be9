/- Ue -/
import Derived.Test.YtmlgkoeacbeopaaGreatDoorUd
set_option maxHeartbeats 6400000
namespace Go.Proofs.YtmlgkoeacbeopaaGreatDoor
open Go.RowKit
def oL3 : List (Nat × Bool) := [(0, true), (1, true), (2, true), (3, true), (4, true), (5, true), (6, true), (7, true), (8, false), (9, true)]
def inR (b:UInt8) (lo hi:Int):Bool:=decide (lo≤(b.toNat:Int)) && decide ((b.toNat:Int)≤hi)
def ra (b:UInt8):Bool:=inR b 97 122 || inR b 65 90 || inR b 48 57
def jq (l:List UInt8):Bool:=l.all ra && (decide ((1:Int)≤(l.length:Int)) && decide ((l.length:Int)≤8))
def tz:List (List UInt8):=[[],[108,111,103,105,110],[115,101,108,101,99,116],[99,108,111,115,101],[110,111,111,112],[105,100,108,101],[110,111,116,105,102,121],[102,101,116,99,104],[115,116,111,114,101],[101,120,112,117,110,103,101],[99,111,112,121],[97,112,112,101,110,100],[99,114,101,97,116,101],[100,101,108,101,116,101],[114,101,110,97,109,101],[108,111,103,111,117,116]]
def kdW (k:Int):List UInt8:=if 1≤k∧k≤15 then tz.getD k.toNat [] else []
theorem wP {k:Int} (h: ¬(1≤k∧k≤15)):kdW k=[]:=by unfold kdW;rw [if_neg h]
theorem qb (s:ByteArray) (k:Nat) (h:k < s.size) (hb:ra s[k]=false):jq s.data.toList=false:=by
 have hm:s[k]∈s.data.toList:=List.mem_of_mem_take (i:=k+1) (by rw [hI s k h];simp)
 have:s.data.toList.all ra=false:=by
  rw [List.all_eq_false]
  exact ⟨_,hm,by rw [hb];simp⟩
 unfold jq
 rw [this]
 rfl
def tA (G:World→Prop):Prop:= ∀ (s:ByteArray) (W:World),G W→s.size≤1048576→
 Calls Tryz.prog 40 #[.string s] W fun e w'=>e= .returned (.bool (jq s.data.toList))∧Below W.heap.size W w'
def Spn.lf (x:Spn):List Lf:=[.int x.low,.int x.high]
theorem Spn.len (x:Spn):x.lf.length=2:=rfl
def am (l:List Spn):Lf:= .rows 62 2 l.length (l.flatMap Spn.lf)
theorem Spn.fit (x:Spn):ec x.lf:=⟨trivial,trivial,trivial⟩
theorem jr (l:List Spn):m8 (am l):=⟨by omega,ce Spn.len l,ec.flat Spn.fit l⟩
theorem Spn.sz (x:Spn):bg x.lf=0:=by simp only [Spn.lf,bg,kf] <;> omega
theorem Spn.cnt (x:Spn):aW x.lf=1+1:=by simp only [Spn.lf,aW,iu] <;> omega
theorem Spn.rd {W:World} {x:Spn} {vs:List Value} :di W x.lf vs↔vs=[.int .i64 x.low,.int .i64 x.high]:=by
 constructor
 · rintro ⟨a0,s0,rfl,h0,a1,s1,rfl,h1,rfl⟩
   exact by rw [h0,h1]
 · rintro rfl
   exact ⟨_,_,rfl,rfl,_,_,rfl,rfl,rfl⟩
theorem Spn.mark (x:Spn) (k:Nat):(aO x.lf k).1=[.int ((k:Nat):Int),.int ((k+1:Nat):Int)]:=by simp only [Spn.lf,aO,gq]
theorem Spn.rdm {W:World} {x:Spn} {k:Nat} {vs:List Value} :di W (aO x.lf k).1 vs↔vs=[.int .i64 ((k:Nat):Int),.int .i64 ((k+1:Nat):Int)]:=by
 rw [Spn.mark]
 constructor
 · rintro ⟨a0,s0,rfl,h0,a1,s1,rfl,h1,rfl⟩
   exact by rw [h0,h1]
 · rintro rfl
   exact ⟨_,_,rfl,rfl,_,_,rfl,rfl,rfl⟩
theorem Spn.in_of {W:World} {z0:Int} {z1:Int} {vs:List Value} {fp:List Nat} (h:bS W [.int z0,.int z1] vs fp):vs=[.int .i64 z0,.int .i64 z1]∧fp=[]:=by
 obtain ⟨a0,s0,f0,g0,rfl,h0,⟨a1,s1,f1,g1,rfl,h1,⟨rfl,rfl⟩,rfl⟩,rfl⟩:=h
 exact ⟨by rw [h0.1,h1.1],by rw [h0.2,h1.2];simp⟩
theorem Spn.in_mk {W:World} {z0:Int} {z1:Int} :bS W [.int z0,.int z1] [.int .i64 z0,.int .i64 z1] ([]):=by
 have h:bS W [.int z0,.int z1] [.int .i64 z0,.int .i64 z1] ([]++([]++([]))):=⟨_,_,[],_,rfl,⟨rfl,rfl⟩,⟨_,_,[],_,rfl,⟨rfl,rfl⟩,⟨rfl,rfl⟩,rfl⟩,rfl⟩
 simpa using h
theorem Spn.at {W:World} {l:List Spn} {v:Value} (h:az W (am l) v): ∃ p cap,v= .slice p l.length cap∧(l=[]∨ ∃ b off,p=some ⟨b,off,none⟩∧b < W.heap.size∧ ∀ i x,l[i]? =some x→W.cell? ⟨b,off+i * 2,none⟩=some (.int .i64 x.low)∧W.cell? ⟨b,off+i * 2+1,none⟩=some (.int .i64 x.high)):=by
 obtain ⟨p,cap,hv,hc⟩:=jk Spn.len h
 refine ⟨p,cap,hv,hc.imp id fun ⟨b,off,hp,hlt,hc⟩=>⟨b,off,hp,hlt,fun i x hi=> ?_⟩⟩
 obtain ⟨us,h1,h2⟩:=hc i x hi
 obtain rfl:=Spn.rd.1 h1
 exact ⟨h2 0 _ rfl,h2 1 _ rfl⟩
theorem Spn.atm {W:World} {l:List Spn} {v:Value} {k0:Nat} (h:az W (aX (am l) k0).1 v): ∃ p cap,v= .slice p l.length cap∧(l=[]∨ ∃ b off,p=some ⟨b,off,none⟩∧b < W.heap.size∧ ∀ i x k,l[i]? =some x→k=k0+aW ((l.take i).flatMap Spn.lf)→W.cell? ⟨b,off+i * 2,none⟩=some (.int .i64 ((k:Nat):Int))∧W.cell? ⟨b,off+i * 2+1,none⟩=some (.int .i64 ((k+1:Nat):Int))):=by
 obtain ⟨p,cap,hv,hc⟩:=dG Spn.len h
 refine ⟨p,cap,hv,hc.imp id fun ⟨b,off,hp,hlt,hc⟩=>⟨b,off,hp,hlt,fun i x k hi hk=> ?_⟩⟩
 obtain ⟨us,h1,h2⟩:=hc i x hi
 rw [←hk] at h1
 obtain rfl:=Spn.rdm.1 h1
 exact ⟨h2 0 _ rfl,h2 1 _ rfl⟩
theorem vE (x:Spn) (w:World) (_hs:bg x.lf≤1000000000000):
 Calls Tryz.prog 132 #[.agg #[.int .i64 x.low,.int .i64 x.high],.agg #[.int .i64 x.low,.int .i64 x.high]] w fun e w'=>e= .returned (.bool true)∧Below w.heap.size w w':=by
 go_enter Tryz.func132,Tryz.ntmps132
 go_wp2
 go_ret
 exact ⟨rfl,((Below.refl _ _).alloc (Nat.le_refl _) _).alloc (by simp) _⟩
theorem tB (a b:Value) (l:List Spn) (w:World) (ha:az w (am l) a) (hb:az w (am l) b) (hs:co (am l)≤1000000000000):
 Calls Tryz.prog 67 #[a,b] w fun e w'=>e= .returned (.bool true)∧Below w.heap.size w w':=by
 have hs2:l.length+bg (l.flatMap Spn.lf)≤1000000000000:=hs
 clear hs
 obtain ⟨p,c1,rfl,hp⟩:=Spn.at ha
 obtain ⟨q,c2,rfl,hq⟩:=Spn.at hb
 clear ha hb
 have HP:=aa9 hp
 have HQ:=aa9 hq
 clear hp hq
 have HL:=aa9 hs2
 have hll:l.length≤1000000000000:=by omega
 clear hs2
 go_enter Tryz.func67,Tryz.ntmps67
 go_wp2
 go_loopw [5] (fun i wr=> ∃ k:Nat,k≤l.length∧i= .int .i64 k∧Below w.heap.size w wr) (fun i _=>l.length - (intOf i).toNat)
 case atStart=>exact ⟨0,by omega,rfl,Below.refl _ _⟩
 case round=>
  obtain ⟨k,hk,rfl,hbr⟩:=hrel
  have hbr0:=hbr.size
  by_cases hlt:k < l.length
  · obtain ⟨b1,o1,rfl,hb1,hc1⟩:=HP.out.resolve_left (by intro h;subst h;simp at hlt)
    obtain ⟨b2,o2,rfl,hb2,hc2⟩:=HQ.out.resolve_left (by intro h;subst h;simp at hlt)
    obtain ⟨s,hs⟩: ∃ s,l[k]? =some s:=⟨_,List.getElem?_eq_getElem hlt⟩
    obtain ⟨x0,x1⟩:=hc1 k s hs
    obtain ⟨y0,y1⟩:=hc2 k s hs
    have e0:wr.drew.cell? ⟨b1,o1+k * 2,none⟩=some (.int .i64 s.low):=(hbr.cell (p:=⟨b1,o1+k * 2,none⟩) hb1).trans x0
    have f0:wr.drew.cell? ⟨b2,o2+k * 2,none⟩=some (.int .i64 s.low):=(hbr.cell (p:=⟨b2,o2+k * 2,none⟩) hb2).trans y0
    have e1:wr.drew.cell? ⟨b1,o1+k * 2+1,none⟩=some (.int .i64 s.high):=(hbr.cell (p:=⟨b1,o1+k * 2+1,none⟩) hb1).trans x1
    have f1:wr.drew.cell? ⟨b2,o2+k * 2+1,none⟩=some (.int .i64 s.high):=(hbr.cell (p:=⟨b2,o2+k * 2+1,none⟩) hb2).trans y1
    have hsm:=dy Spn.lf (List.mem_of_getElem? hs)
    have CE:=aa9 (vE s wr.drew (by have:=HL.out;omega))
    clear hc1 hc2 hs HP HQ hsm x0 y0 x1 y1
    go_wp2
    refine ah oL3 (fun W=>(W.cell? ⟨b1,o1+k * 2,none⟩=some (.int .i64 s.low)∧W.cell? ⟨b1,o1+k * 2+1,none⟩=some (.int .i64 s.high))∧W.cell? ⟨b2,o2+k * 2,none⟩=some (.int .i64 s.low)∧W.cell? ⟨b2,o2+k * 2+1,none⟩=some (.int .i64 s.high)) (by kernel_rfl) (by kernel_rfl) rfl (by kernel_rfl) ?_
    intro ops' hops
    clear hops
    simp only [oL3,List.map_cons,List.map_nil,ae,ag]
    iterate 8 (refine aa ?_ (fun _ _ _ h=>h) rfl ?_ ⟨⟨e0,e1⟩,f0,f1⟩ ?_;rotate_left;focus (intro W hS;obtain ⟨⟨s0,s1⟩,t0,t1⟩:=hS;go_simp;rfl))
    refine al rfl ?_
    go_simp
    refine (CE.out).mono ?_
    rintro e w2 ⟨rfl,bb⟩
    have hb2':=hbr.drew.trans (bb.mono (by show w.heap.size≤wr.heap.size;omega))
    have hlt1:b1 < wr.drew.heap.size:=Nat.lt_of_lt_of_le hb1 hbr0
    have hlt2:b2 < wr.drew.heap.size:=Nat.lt_of_lt_of_le hb2 hbr0
    have HE:=aa9 (show (fun W:World=>(W.cell? ⟨b1,o1+k * 2,none⟩=some (.int .i64 s.low)∧W.cell? ⟨b1,o1+k * 2+1,none⟩=some (.int .i64 s.high))∧W.cell? ⟨b2,o2+k * 2,none⟩=some (.int .i64 s.low)∧W.cell? ⟨b2,o2+k * 2+1,none⟩=some (.int .i64 s.high)) w2 from ⟨⟨(bb.cell (p:=⟨b1,o1+k * 2,none⟩) hlt1).trans e0,(bb.cell (p:=⟨b1,o1+k * 2+1,none⟩) hlt1).trans e1⟩,(bb.cell (p:=⟨b2,o2+k * 2,none⟩) hlt2).trans f0,(bb.cell (p:=⟨b2,o2+k * 2+1,none⟩) hlt2).trans f1⟩)
    refine ⟨HE.out,?_⟩
    iterate 1 (refine aa ?_ (fun _ _ _ h=>h) rfl ?_ HE.out ?_;rotate_left;focus (intro W hS;obtain ⟨⟨s0,s1⟩,t0,t1⟩:=hS;go_simp;rfl))
    refine ai ?_
    go_simp
    clear e0 f0 e1 f1 bb hbr hbr0 CE HE
    go_wp2
    go_roundw
    case rel=>exact ⟨k+1,by omega,by go_num,hb2'⟩
    case measure=>simp [intOf];omega
  · obtain rfl:k=l.length:=by omega
    go_wp2
    go_ret
    exact ⟨rfl,hbr⟩
set_option maxRecDepth 20000 in
theorem qd (v:Value) (l:List Spn) (kk:Int) (k:Nat) (hkk:kk=(k:Int)) (fp:List Nat) (w:World) (hi:au w (am l) v fp) (hnd:fp.Nodup) (hk:k+aL (am l)≤1000000000000) (hs:co (am l)≤1000000000000):
 Calls Tryz.prog 71 #[v,.int .i64 kk] w fun e w'=>e= .returned (.int .i64 ((k+aL (am l):Nat):Int))∧au w' (aX (am l) k).1 v fp∧ac w w' fp:=by
 subst hkk
 have hs2:l.length+bg (l.flatMap Spn.lf)≤1000000000000:=hs
 have hll:l.length≤1000000000000:=by omega
 have HSZ:=aa9 hs2
 have HCN:=aa9 (show k+aW (l.flatMap Spn.lf)≤1000000000000 from hk)
 clear hk hs hs2
 obtain ⟨hfl,xs,fq,hown0,hin0,rfl⟩:=hi
 have hex: ∃ p c,v= .slice p l.length c∧(0 < l.length→ ∃ g,p=some ⟨g,0,none⟩):=by
  rcases h:hown0.2 with ⟨hv,h0⟩ | ⟨g,cap,cur,hv,_⟩
  · exact ⟨none,0,by rw [hv,h0],fun h=>by omega⟩
  · exact ⟨_,cap,hv,fun _=>⟨g,rfl⟩⟩
 obtain ⟨p,c,rfl,hp⟩:=hex
 have HP:=aa9 hp
 have HND:=aa9 hnd
 clear hp hnd hfl
 generalize hFP:(Value.slice p l.length c).ownBlock.toList++fq=fp at *
 have HFP:=aa9 hFP
 clear hFP
 go_enter Tryz.func71,Tryz.ntmps71
 go_wp2
 go_loopw [1,5] (fun kk i wr=> ∃ (j q:Nat) (A R:List Value) (fA fR:List Nat),j≤l.length∧i= .int .i64 j∧kk= .int .i64 (q:Int)∧q=k+aW ((l.take j).flatMap Spn.lf)∧A.length=j * 2∧wr.ownsRow 0 62 2 (.slice p l.length c) l.length (A++R)∧bS wr (aO ((l.take j).flatMap Spn.lf) k).1 A fA∧bS wr ((l.drop j).flatMap Spn.lf) R fR∧fA++fR=fq∧ac w wr fp) (fun _ i _=>l.length - (intOf i).toNat)
 case atStart=>exact ⟨0,k,[],xs,[],fq,by omega,rfl,rfl,by simp [aW],by simp,hown0,⟨rfl,rfl⟩,hin0,rfl,ac.refl _ _⟩
 case round=>
  obtain ⟨j,q,A,R,fA,fR,hj,rfl,rfl,hq,hA,hown,hiA,hiR,hff,hgr⟩:=hrel
  clear hown0 hin0
  by_cases hlt:j < l.length
  · obtain ⟨g,rfl⟩:=HP.out (by omega)
    obtain ⟨s,hs⟩: ∃ s,l[j]? =some s:=⟨_,List.getElem?_eq_getElem hlt⟩
    have hdr:l.drop j=s::l.drop (j+1):=by
     obtain ⟨h1,h2⟩:=List.getElem?_eq_some_iff.1 hs
     rw [List.drop_eq_getElem_cons h1,h2]
    rw [hdr,List.flatMap_cons] at hiR
    obtain ⟨u1,R2,f_,f2,rfl,hi1,hiR2,rfl⟩:=bS.append.1 hiR
    obtain ⟨rfl,rfl⟩:=Spn.in_of hi1
    simp only [List.cons_append,List.nil_append] at hown
    have HMK:=aa9 (show (aO ((l.take (j+1)).flatMap Spn.lf) k).1=(aO ((l.take j).flatMap Spn.lf) k).1++(aO s.lf q).1 by rw [bC Spn.lf hs,gu,hq])
    have HEN:=aa9 (show k+aW ((l.take (j+1)).flatMap Spn.lf)=q+aW s.lf by rw [bC Spn.lf hs,bZ,hq];omega)
    have hcb:q+aW s.lf≤1000000000000:=by have h1:=cD Spn.lf l (j+1);have h2:=HEN.out;have h3:=HCN.out;omega
    rw [Spn.cnt] at hcb
    have hsb:bg s.lf≤1000000000000:=by have h1:=dy Spn.lf (List.mem_of_getElem? hs);have h2:=HSZ.out;omega
    rw [Spn.sz] at hsb
    have hnd2:(g::(fA++([]++f2))).Nodup:=by have h1:=HND.out;have h2:=HFP.out;rw [←hff] at h2;rw [←h2] at h1;exact h1
    obtain ⟨hg0,hn0⟩:=List.nodup_cons.1 hnd2
    obtain ⟨dA,_,hn1⟩:=fh hn0
    obtain ⟨dF,hnr,_⟩:=fh hn1
    have gA:g ∉ fA:=fun hm=>hg0 (by simp [hm])
    have gF:g ∉ f2:=fun hm=>hg0 (by simp [hm])
    have hgf:g∈fp:=by rw [←HFP.out];simp [Value.ownBlock]
    have HQ:=aa9 hq
    have HFF:=aa9 hff
    have HCB:=aa9 hcb
    have HSB:=aa9 hsb
    have hqb:q≤1000000000000:=by omega
    clear hq hff hcb hsb hs hdr hi1 hiR hnd2 hn0 hn1 hnr HP
    have c0:=dQ (L:=(.int .i64 s.low)::(.int .i64 s.high)::R2) hown hA 0 _ rfl
    have z0:wr.frozen? ⟨g,j * 2,none⟩=false:=er hown _
    rw [Nat.add_zero] at c0
    have p0:(wr.setCell ⟨g,j * 2,none⟩ (.int .i64 (q:Int))).ownsRow 0 62 2 (.slice (some ⟨g,0,none⟩) l.length c) l.length (A++(.int .i64 (q:Int))::(.int .i64 s.high)::R2):=jT (L:=(.int .i64 s.low)::(.int .i64 s.high)::R2) hown hA 0 (.int .i64 (q:Int))
    have c1:=dQ (L:=(.int .i64 (q:Int))::(.int .i64 s.high)::R2) p0 hA 1 _ rfl
    have z1:(wr.setCell ⟨g,j * 2,none⟩ (.int .i64 (q:Int))).frozen? ⟨g,j * 2+1,none⟩=false:=er p0 _
    have p1:((wr.setCell ⟨g,j * 2,none⟩ (.int .i64 (q:Int))).setCell ⟨g,j * 2+1,none⟩ (.int .i64 ((q:Int)+1))).ownsRow 0 62 2 (.slice (some ⟨g,0,none⟩) l.length c) l.length (A++(.int .i64 (q:Int))::(.int .i64 ((q:Int)+1))::R2):=jT (L:=(.int .i64 (q:Int))::(.int .i64 s.high)::R2) p0 hA 1 (.int .i64 ((q:Int)+1))
    have gs:ac wr ((wr.setCell ⟨g,j * 2,none⟩ (.int .i64 (q:Int))).setCell ⟨g,j * 2+1,none⟩ (.int .i64 ((q:Int)+1))) [g]:=((ac.refl wr [g]).trans (ac.set (by simp))).trans (ac.set (by simp))
    replace hiA:=bS.apart hiA gs (fun q hq hm=>by simp at hm;exact gA (hm ▸ hq))
    replace hiR2:=bS.apart hiR2 gs (fun q hq hm=>by simp at hm;exact gF (hm ▸ hq))
    replace hgr:=hgr.trans (gs.mono (fun q hq=>by simp at hq;exact hq ▸ hgf))
    clear gs
    have PP:=aa9 p1
    have IA:=aa9 hiA
    have IR:=aa9 hiR2
    have GR:=aa9 hgr
    clear hiA hiR2 hgr hown p0 p1
    go_wp2
    go_roundw
    case rel=>
     refine ⟨j+1,q+aW s.lf,A++[(.int .i64 (q:Int)),(.int .i64 ((q:Int)+1))],R2,fA++([]),f2,by omega,by go_num,?_,HEN.out.symm,by simp;omega,by simpa using PP.out,?_,IR.out,by rw [List.append_assoc];exact HFF.out,GR.out⟩
     · rw [Spn.cnt]
       congr 1 <;> omega
     · rw [HMK.out,Spn.mark]
       exact bS.append.2 ⟨A,_,fA,_,rfl,IA.out,Spn.in_mk,rfl⟩
    case measure=>simp [intOf];omega
  · obtain rfl:j=l.length:=by omega
    have hR0:R=[]∧fR=[]:=by rw [List.drop_length] at hiR;exact hiR
    obtain ⟨rfl,rfl⟩:=hR0
    rw [List.append_nil] at hown hff
    rw [List.take_length] at hiA hq
    subst hff
    have HT:=aa9 (show au wr (aX (am l) k).1 (.slice p l.length c) fp from ⟨by rw [cY];exact ce Spn.len l,A,fA,dz hown,hiA,HFP.out.symm⟩)
    have HV:=aa9 (show q=k+aL (am l) from hq)
    clear hiA hiR hown hA hq
    go_wp2
    go_ret
    exact ⟨by rw [HV.out];rfl,HT.out,hgr⟩
set_option maxRecDepth 20000 in
theorem qe (v:Value) (l:List Spn) (kk:Int) (k:Nat) (hkk:kk=(k:Int)) (w:World) (hr:az w (aX (am l) k).1 v) (hk:k+aL (am l)≤1000000000000) (hs:co (am l)≤1000000000000):
 Calls Tryz.prog 73 #[v,.int .i64 kk] w fun e w'=>e= .returned (.int .i64 ((k+aL (am l):Nat):Int))∧Below w.heap.size w w':=by
 subst hkk
 have hs2:l.length+bg (l.flatMap Spn.lf)≤1000000000000:=hs
 have hll:l.length≤1000000000000:=by omega
 have HSZ:=aa9 hs2
 have HCN:=aa9 (show k+aW (l.flatMap Spn.lf)≤1000000000000 from hk)
 have HV:=aa9 (show aL (am l)=aW (l.flatMap Spn.lf) from rfl)
 clear hk hs hs2
 obtain ⟨p,c,rfl,hp⟩:=Spn.atm hr
 have HP:=aa9 hp
 clear hp hr
 go_enter Tryz.func73,Tryz.ntmps73
 go_wp2
 go_loopw [1,5] (fun kk i wr=> ∃ j q:Nat,j≤l.length∧i= .int .i64 j∧kk= .int .i64 (q:Int)∧q=k+aW ((l.take j).flatMap Spn.lf)∧Below w.heap.size w wr) (fun _ i _=>l.length - (intOf i).toNat)
 case atStart=>exact ⟨0,k,by omega,rfl,rfl,by simp [aW],Below.refl _ _⟩
 case round=>
  obtain ⟨j,q,hj,rfl,rfl,hq,hbr⟩:=hrel
  have hbr0:=hbr.size
  by_cases hlt:j < l.length
  · obtain ⟨b1,o1,rfl,hb1,hc1⟩:=HP.out.resolve_left (by intro h;subst h;simp at hlt)
    obtain ⟨s,hs⟩: ∃ s,l[j]? =some s:=⟨_,List.getElem?_eq_getElem hlt⟩
    obtain ⟨x0,x1⟩:=hc1 j s q hs hq
    have HEN:=aa9 (show q+aW s.lf=k+aW ((l.take (j+1)).flatMap Spn.lf) by rw [bC Spn.lf hs,bZ,hq];omega)
    have hcb:q+aW s.lf≤1000000000000:=by have h1:=cD Spn.lf l (j+1);have h2:=HEN.out;have h3:=HCN.out;omega
    rw [Spn.cnt] at hcb
    have hsb:bg s.lf≤1000000000000:=by have h1:=dy Spn.lf (List.mem_of_getElem? hs);have h2:=HSZ.out;omega
    rw [Spn.sz] at hsb
    have e0:wr.cell? ⟨b1,o1+j * 2,none⟩=some (.int .i64 (q:Int)):=by
     rw [(hbr.cell (p:=⟨b1,o1+j * 2,none⟩) hb1),x0]
     all_goals rfl
    have e1:wr.cell? ⟨b1,o1+j * 2+1,none⟩=some (.int .i64 ((q:Int)+1)):=by
     rw [(hbr.cell (p:=⟨b1,o1+j * 2+1,none⟩) hb1),x1]
     all_goals rfl
    have hlb:b1 < wr.heap.size:=Nat.lt_of_lt_of_le hb1 hbr0
    have hqb:q≤1000000000000:=by omega
    have HQ:=aa9 hq
    have HCB:=aa9 hcb
    have HSB:=aa9 hsb
    clear hc1 hs HP hcb hsb hq x0 x1
    go_wp2
    go_roundw
    case rel=>
     refine ⟨j+1,q+aW s.lf,by omega,by go_num,?_,HEN.out,hbr⟩
     rw [Spn.cnt]
     congr 1 <;> omega
    case measure=>simp [intOf];omega
  · obtain rfl:j=l.length:=by omega
    rw [List.take_length] at hq
    have HW:=aa9 (show q=k+aL (am l) from hq)
    clear hq
    go_wp2
    go_ret
    exact ⟨by rw [HW.out];rfl,hbr⟩
theorem Scp.len (x:Scp):x.lf.length=3:=rfl
theorem Scp.fit (x:Scp):ec x.lf:=⟨trivial,rQ x.names,trivial,trivial⟩
theorem gv (l:List Scp):m8 (aj l):=⟨by omega,ce Scp.len l,ec.flat Scp.fit l⟩
theorem Scp.sz (x:Scp):bg x.lf=co (bo x.names):=by simp only [Scp.lf,bg,kf] <;> omega
theorem Scp.cnt (x:Scp):aW x.lf=1+aL (bo x.names)+1:=by simp only [Scp.lf,aW,iu] <;> omega
theorem Scp.rd {W:World} {x:Scp} {vs:List Value} :di W x.lf vs↔ ∃ r1,vs=[.int .i64 x.kind,r1,.int .i64 x.events]∧az W (bo x.names) r1:=by
 constructor
 · rintro ⟨a0,s0,rfl,h0,a1,s1,rfl,h1,a2,s2,rfl,h2,rfl⟩
   exact ⟨a1,by rw [h0,h2],h1⟩
 · rintro ⟨r1,rfl,h1⟩
   exact ⟨_,_,rfl,rfl,_,_,rfl,h1,_,_,rfl,rfl,rfl⟩
theorem Scp.mark (x:Scp) (k:Nat):(aO x.lf k).1=[.int ((k:Nat):Int),(aX (bo x.names) (k+1)).1,.int ((k+1+aL (bo x.names):Nat):Int)]:=by simp only [Scp.lf,aO,gq,gp]
theorem Scp.rdm {W:World} {x:Scp} {k:Nat} {vs:List Value} :di W (aO x.lf k).1 vs↔ ∃ r1,vs=[.int .i64 ((k:Nat):Int),r1,.int .i64 ((k+1+aL (bo x.names):Nat):Int)]∧az W (aX (bo x.names) (k+1)).1 r1:=by
 rw [Scp.mark]
 constructor
 · rintro ⟨a0,s0,rfl,h0,a1,s1,rfl,h1,a2,s2,rfl,h2,rfl⟩
   exact ⟨a1,by rw [h0,h2],h1⟩
 · rintro ⟨r1,rfl,h1⟩
   exact ⟨_,_,rfl,rfl,_,_,rfl,h1,_,_,rfl,rfl,rfl⟩
theorem Scp.in_of {W:World} {z0:Int} {z1:Lf} {z2:Int} {vs:List Value} {fp:List Nat} (h:bS W [.int z0,z1,.int z2] vs fp): ∃ r1 f1,vs=[.int .i64 z0,r1,.int .i64 z2]∧au W z1 r1 f1∧fp=f1:=by
 obtain ⟨a0,s0,f0,g0,rfl,h0,⟨a1,s1,f1,g1,rfl,h1,⟨a2,s2,f2,g2,rfl,h2,⟨rfl,rfl⟩,rfl⟩,rfl⟩,rfl⟩:=h
 exact ⟨a1,f1,by rw [h0.1,h2.1],h1,by rw [h0.2,h2.2];simp⟩
theorem Scp.in_mk {W:World} {z0:Int} {z1:Lf} {z2:Int} {r1:Value} {f1:List Nat} (h1:au W z1 r1 f1):bS W [.int z0,z1,.int z2] [.int .i64 z0,r1,.int .i64 z2] (f1):=by
 have h:bS W [.int z0,z1,.int z2] [.int .i64 z0,r1,.int .i64 z2] ([]++(f1++([]++([])))):=⟨_,_,[],_,rfl,⟨rfl,rfl⟩,⟨_,_,f1,_,rfl,h1,⟨_,_,[],_,rfl,⟨rfl,rfl⟩,⟨rfl,rfl⟩,rfl⟩,rfl⟩,rfl⟩
 simpa using h
theorem Scp.at {W:World} {l:List Scp} {v:Value} (h:az W (aj l) v): ∃ p cap,v= .slice p l.length cap∧(l=[]∨ ∃ b off,p=some ⟨b,off,none⟩∧b < W.heap.size∧ ∀ i x,l[i]? =some x→ ∃ r1,az W (bo x.names) r1∧W.cell? ⟨b,off+i * 3,none⟩=some (.int .i64 x.kind)∧W.cell? ⟨b,off+i * 3+1,none⟩=some (r1)∧W.cell? ⟨b,off+i * 3+2,none⟩=some (.int .i64 x.events)):=by
 obtain ⟨p,cap,hv,hc⟩:=jk Scp.len h
 refine ⟨p,cap,hv,hc.imp id fun ⟨b,off,hp,hlt,hc⟩=>⟨b,off,hp,hlt,fun i x hi=> ?_⟩⟩
 obtain ⟨us,h1,h2⟩:=hc i x hi
 obtain ⟨r1,rfl,k1⟩:=Scp.rd.1 h1
 exact ⟨r1,k1,h2 0 _ rfl,h2 1 _ rfl,h2 2 _ rfl⟩
theorem Scp.atm {W:World} {l:List Scp} {v:Value} {k0:Nat} (h:az W (aX (aj l) k0).1 v): ∃ p cap,v= .slice p l.length cap∧(l=[]∨ ∃ b off,p=some ⟨b,off,none⟩∧b < W.heap.size∧ ∀ i x k,l[i]? =some x→k=k0+aW ((l.take i).flatMap Scp.lf)→ ∃ r1,az W (aX (bo x.names) (k+1)).1 r1∧W.cell? ⟨b,off+i * 3,none⟩=some (.int .i64 ((k:Nat):Int))∧W.cell? ⟨b,off+i * 3+1,none⟩=some (r1)∧W.cell? ⟨b,off+i * 3+2,none⟩=some (.int .i64 ((k+1+aL (bo x.names):Nat):Int))):=by
 obtain ⟨p,cap,hv,hc⟩:=dG Scp.len h
 refine ⟨p,cap,hv,hc.imp id fun ⟨b,off,hp,hlt,hc⟩=>⟨b,off,hp,hlt,fun i x k hi hk=> ?_⟩⟩
 obtain ⟨us,h1,h2⟩:=hc i x hi
 rw [←hk] at h1
 obtain ⟨r1,rfl,k1⟩:=Scp.rdm.1 h1
 exact ⟨r1,k1,h2 0 _ rfl,h2 1 _ rfl,h2 2 _ rfl⟩
theorem tC (x:Scp) (ra1 rb1:Value) (w:World) (ha1:az w (bo x.names) ra1) (hb1:az w (bo x.names) rb1) (hs:bg x.lf≤1000000000000):
 Calls Tryz.prog 186 #[.agg #[.int .i64 x.kind,ra1,.int .i64 x.events],.agg #[.int .i64 x.kind,rb1,.int .i64 x.events]] w fun e w'=>e= .returned (.bool true)∧Below w.heap.size w w':=by
 have hra1:=ha1
 have hrb1:=hb1
 obtain ⟨p1a,c1a,rfl⟩:=az.slice ha1
 obtain ⟨p1b,c1b,rfl⟩:=az.slice hb1
 have hb1:Below w.heap.size w ((w.alloc (.cells #[.int .i64 x.kind,(.slice p1a x.names.length c1a),.int .i64 x.events] 123)).alloc (.cells #[.int .i64 x.kind,(.slice p1b x.names.length c1b),.int .i64 x.events] 123)):=((Below.refl _ _).alloc (Nat.le_refl _) _).alloc (by simp) _
 have HA1:=aa9 (show ((w.alloc (.cells #[.int .i64 x.kind,(.slice p1a x.names.length c1a),.int .i64 x.events] 123)).alloc (.cells #[.int .i64 x.kind,(.slice p1b x.names.length c1b),.int .i64 x.events] 123)).heap[w.heap.size]? =some (.cells #[.int .i64 x.kind,(.slice p1a x.names.length c1a),.int .i64 x.events] 123 (0,0)) from (Below.heap_alloc _ _ _ (by simp)).trans (heap_alloc_new w _))
 have HB1:=aa9 (show ((w.alloc (.cells #[.int .i64 x.kind,(.slice p1a x.names.length c1a),.int .i64 x.events] 123)).alloc (.cells #[.int .i64 x.kind,(.slice p1b x.names.length c1b),.int .i64 x.events] 123)).heap[w.heap.size+1]? =some (.cells #[.int .i64 x.kind,(.slice p1b x.names.length c1b),.int .i64 x.events] 123 (0,0)) from by
  have:=heap_alloc_new (w.alloc (.cells #[.int .i64 x.kind,(.slice p1a x.names.length c1a),.int .i64 x.events] 123)) (.cells #[.int .i64 x.kind,(.slice p1b x.names.length c1b),.int .i64 x.events] 123)
  rwa [World.size_alloc] at this)
 have hz1:((w.alloc (.cells #[.int .i64 x.kind,(.slice p1a x.names.length c1a),.int .i64 x.events] 123)).alloc (.cells #[.int .i64 x.kind,(.slice p1b x.names.length c1b),.int .i64 x.events] 123)).heap.size=w.heap.size+2:=by simp
 have HZ1:=aa9 (Nat.le_of_eq hz1.symm)
 clear hz1
 have hsz:=Scp.sz x
 have C1:=aa9 (fun W (g:az W (bo x.names) (.slice p1a x.names.length c1a)) (g2:az W (bo x.names) (.slice p1b x.names.length c1b))=>pY _ _ x.names W g g2 (by omega))
 clear hs hsz
 go_enter Tryz.func186,Tryz.ntmps186
 go_wp2_with fail
 refine (C1.out _ (az.below hb1 _ _ hra1) (az.below hb1 _ _ hrb1)).mono ?_
 rintro e w2 ⟨rfl,b2⟩
 have hb2:=hb1.trans (b2.mono hb1.size)
 have HZ2:=aa9 (Nat.le_trans HZ1.out b2.size)
 have HA2:=aa9 ((b2.block w.heap.size (by have:=HZ1.out;omega)).trans HA1.out)
 have HB2:=aa9 ((b2.block (w.heap.size+1) (by have:=HZ1.out;omega)).trans HB1.out)
 have y2_2:=(aa8 HA2.out 2).trans (show _=some (.int .i64 x.events) from rfl)
 have z2_2:=(aa8 HB2.out 2).trans (show _=some (.int .i64 x.events) from rfl)
 clear b2
 go_wp2
 go_ret
 exact ⟨rfl,hb2⟩
theorem rS (a b:Value) (l:List Scp) (w:World) (ha:az w (aj l) a) (hb:az w (aj l) b) (hs:co (aj l)≤1000000000000):
 Calls Tryz.prog 133 #[a,b] w fun e w'=>e= .returned (.bool true)∧Below w.heap.size w w':=by
 have hs2:l.length+bg (l.flatMap Scp.lf)≤1000000000000:=hs
 clear hs
 obtain ⟨p,c1,rfl,hp⟩:=Scp.at ha
 obtain ⟨q,c2,rfl,hq⟩:=Scp.at hb
 clear ha hb
 have HP:=aa9 hp
 have HQ:=aa9 hq
 clear hp hq
 have HL:=aa9 hs2
 have hll:l.length≤1000000000000:=by omega
 clear hs2
 go_enter Tryz.func133,Tryz.ntmps133
 go_wp2
 go_loopw [5] (fun i wr=> ∃ k:Nat,k≤l.length∧i= .int .i64 k∧Below w.heap.size w wr) (fun i _=>l.length - (intOf i).toNat)
 case atStart=>exact ⟨0,by omega,rfl,Below.refl _ _⟩
 case round=>
  obtain ⟨k,hk,rfl,hbr⟩:=hrel
  have hbr0:=hbr.size
  by_cases hlt:k < l.length
  · obtain ⟨b1,o1,rfl,hb1,hc1⟩:=HP.out.resolve_left (by intro h;subst h;simp at hlt)
    obtain ⟨b2,o2,rfl,hb2,hc2⟩:=HQ.out.resolve_left (by intro h;subst h;simp at hlt)
    obtain ⟨s,hs⟩: ∃ s,l[k]? =some s:=⟨_,List.getElem?_eq_getElem hlt⟩
    obtain ⟨v1,n1,x0,x1,x2⟩:=hc1 k s hs
    obtain ⟨u1,t1,y0,y1,y2⟩:=hc2 k s hs
    have e0:wr.drew.cell? ⟨b1,o1+k * 3,none⟩=some (.int .i64 s.kind):=(hbr.cell (p:=⟨b1,o1+k * 3,none⟩) hb1).trans x0
    have f0:wr.drew.cell? ⟨b2,o2+k * 3,none⟩=some (.int .i64 s.kind):=(hbr.cell (p:=⟨b2,o2+k * 3,none⟩) hb2).trans y0
    have e1:wr.drew.cell? ⟨b1,o1+k * 3+1,none⟩=some (v1):=(hbr.cell (p:=⟨b1,o1+k * 3+1,none⟩) hb1).trans x1
    have f1:wr.drew.cell? ⟨b2,o2+k * 3+1,none⟩=some (u1):=(hbr.cell (p:=⟨b2,o2+k * 3+1,none⟩) hb2).trans y1
    have e2:wr.drew.cell? ⟨b1,o1+k * 3+2,none⟩=some (.int .i64 s.events):=(hbr.cell (p:=⟨b1,o1+k * 3+2,none⟩) hb1).trans x2
    have f2:wr.drew.cell? ⟨b2,o2+k * 3+2,none⟩=some (.int .i64 s.events):=(hbr.cell (p:=⟨b2,o2+k * 3+2,none⟩) hb2).trans y2
    have hsm:=dy Scp.lf (List.mem_of_getElem? hs)
    have CE:=aa9 (tC s v1 u1 wr.drew (az.below hbr.drew _ _ n1) (az.below hbr.drew _ _ t1) (by have:=HL.out;omega))
    clear hc1 hc2 hs HP HQ hsm x0 y0 x1 y1 x2 y2 n1 t1
    go_wp2
    refine ah oL3 (fun W=>(W.cell? ⟨b1,o1+k * 3,none⟩=some (.int .i64 s.kind)∧W.cell? ⟨b1,o1+k * 3+1,none⟩=some (v1)∧W.cell? ⟨b1,o1+k * 3+2,none⟩=some (.int .i64 s.events))∧W.cell? ⟨b2,o2+k * 3,none⟩=some (.int .i64 s.kind)∧W.cell? ⟨b2,o2+k * 3+1,none⟩=some (u1)∧W.cell? ⟨b2,o2+k * 3+2,none⟩=some (.int .i64 s.events)) (by kernel_rfl) (by kernel_rfl) rfl (by kernel_rfl) ?_
    intro ops' hops
    clear hops
    simp only [oL3,List.map_cons,List.map_nil,ae,ag]
    iterate 8 (refine aa ?_ (fun _ _ _ h=>h) rfl ?_ ⟨⟨e0,e1,e2⟩,f0,f1,f2⟩ ?_;rotate_left;focus (intro W hS;obtain ⟨⟨s0,s1,s2⟩,t0,t1,t2⟩:=hS;go_simp;rfl))
    refine al rfl ?_
    go_simp
    refine (CE.out).mono ?_
    rintro e w2 ⟨rfl,bb⟩
    have hb2':=hbr.drew.trans (bb.mono (by show w.heap.size≤wr.heap.size;omega))
    have hlt1:b1 < wr.drew.heap.size:=Nat.lt_of_lt_of_le hb1 hbr0
    have hlt2:b2 < wr.drew.heap.size:=Nat.lt_of_lt_of_le hb2 hbr0
    have HE:=aa9 (show (fun W:World=>(W.cell? ⟨b1,o1+k * 3,none⟩=some (.int .i64 s.kind)∧W.cell? ⟨b1,o1+k * 3+1,none⟩=some (v1)∧W.cell? ⟨b1,o1+k * 3+2,none⟩=some (.int .i64 s.events))∧W.cell? ⟨b2,o2+k * 3,none⟩=some (.int .i64 s.kind)∧W.cell? ⟨b2,o2+k * 3+1,none⟩=some (u1)∧W.cell? ⟨b2,o2+k * 3+2,none⟩=some (.int .i64 s.events)) w2 from ⟨⟨(bb.cell (p:=⟨b1,o1+k * 3,none⟩) hlt1).trans e0,(bb.cell (p:=⟨b1,o1+k * 3+1,none⟩) hlt1).trans e1,(bb.cell (p:=⟨b1,o1+k * 3+2,none⟩) hlt1).trans e2⟩,(bb.cell (p:=⟨b2,o2+k * 3,none⟩) hlt2).trans f0,(bb.cell (p:=⟨b2,o2+k * 3+1,none⟩) hlt2).trans f1,(bb.cell (p:=⟨b2,o2+k * 3+2,none⟩) hlt2).trans f2⟩)
    refine ⟨HE.out,?_⟩
    iterate 1 (refine aa ?_ (fun _ _ _ h=>h) rfl ?_ HE.out ?_;rotate_left;focus (intro W hS;obtain ⟨⟨s0,s1,s2⟩,t0,t1,t2⟩:=hS;go_simp;rfl))
    refine ai ?_
    go_simp
    clear e0 f0 e1 f1 e2 f2 bb hbr hbr0 CE HE
    go_wp2
    go_roundw
    case rel=>exact ⟨k+1,by omega,by go_num,hb2'⟩
    case measure=>simp [intOf];omega
  · obtain rfl:k=l.length:=by omega
    go_wp2
    go_ret
    exact ⟨rfl,hbr⟩
set_option maxRecDepth 20000 in
theorem ou (v:Value) (l:List Scp) (kk:Int) (k:Nat) (hkk:kk=(k:Int)) (fp:List Nat) (w:World) (hi:au w (aj l) v fp) (hnd:fp.Nodup) (hk:k+aL (aj l)≤1000000000000) (hs:co (aj l)≤1000000000000):
 Calls Tryz.prog 134 #[v,.int .i64 kk] w fun e w'=>e= .returned (.int .i64 ((k+aL (aj l):Nat):Int))∧au w' (aX (aj l) k).1 v fp∧ac w w' fp:=by
 subst hkk
 have hs2:l.length+bg (l.flatMap Scp.lf)≤1000000000000:=hs
 have hll:l.length≤1000000000000:=by omega
 have HSZ:=aa9 hs2
 have HCN:=aa9 (show k+aW (l.flatMap Scp.lf)≤1000000000000 from hk)
 clear hk hs hs2
 obtain ⟨hfl,xs,fq,hown0,hin0,rfl⟩:=hi
 have hex: ∃ p c,v= .slice p l.length c∧(0 < l.length→ ∃ g,p=some ⟨g,0,none⟩):=by
  rcases h:hown0.2 with ⟨hv,h0⟩ | ⟨g,cap,cur,hv,_⟩
  · exact ⟨none,0,by rw [hv,h0],fun h=>by omega⟩
  · exact ⟨_,cap,hv,fun _=>⟨g,rfl⟩⟩
 obtain ⟨p,c,rfl,hp⟩:=hex
 have HP:=aa9 hp
 have HND:=aa9 hnd
 clear hp hnd hfl
 generalize hFP:(Value.slice p l.length c).ownBlock.toList++fq=fp at *
 have HFP:=aa9 hFP
 clear hFP
 go_enter Tryz.func134,Tryz.ntmps134
 go_wp2
 go_loopw [1,5] (fun kk i wr=> ∃ (j q:Nat) (A R:List Value) (fA fR:List Nat),j≤l.length∧i= .int .i64 j∧kk= .int .i64 (q:Int)∧q=k+aW ((l.take j).flatMap Scp.lf)∧A.length=j * 3∧wr.ownsRow 0 123 3 (.slice p l.length c) l.length (A++R)∧bS wr (aO ((l.take j).flatMap Scp.lf) k).1 A fA∧bS wr ((l.drop j).flatMap Scp.lf) R fR∧fA++fR=fq∧ac w wr fp) (fun _ i _=>l.length - (intOf i).toNat)
 case atStart=>exact ⟨0,k,[],xs,[],fq,by omega,rfl,rfl,by simp [aW],by simp,hown0,⟨rfl,rfl⟩,hin0,rfl,ac.refl _ _⟩
 case round=>
  obtain ⟨j,q,A,R,fA,fR,hj,rfl,rfl,hq,hA,hown,hiA,hiR,hff,hgr⟩:=hrel
  clear hown0 hin0
  by_cases hlt:j < l.length
  · obtain ⟨g,rfl⟩:=HP.out (by omega)
    obtain ⟨s,hs⟩: ∃ s,l[j]? =some s:=⟨_,List.getElem?_eq_getElem hlt⟩
    have hdr:l.drop j=s::l.drop (j+1):=by
     obtain ⟨h1,h2⟩:=List.getElem?_eq_some_iff.1 hs
     rw [List.drop_eq_getElem_cons h1,h2]
    rw [hdr,List.flatMap_cons] at hiR
    obtain ⟨u1,R2,f_,f2,rfl,hi1,hiR2,rfl⟩:=bS.append.1 hiR
    obtain ⟨r1,f1,rfl,i1,hfq⟩:=Scp.in_of hi1
    have hfq2:=hfq.symm
    clear hfq
    subst hfq2
    obtain ⟨pv1,cv1,rfl⟩:=au.slice i1
    simp only [List.cons_append,List.nil_append] at hown
    have HMK:=aa9 (show (aO ((l.take (j+1)).flatMap Scp.lf) k).1=(aO ((l.take j).flatMap Scp.lf) k).1++(aO s.lf q).1 by rw [bC Scp.lf hs,gu,hq])
    have HEN:=aa9 (show k+aW ((l.take (j+1)).flatMap Scp.lf)=q+aW s.lf by rw [bC Scp.lf hs,bZ,hq];omega)
    have hcb:q+aW s.lf≤1000000000000:=by have h1:=cD Scp.lf l (j+1);have h2:=HEN.out;have h3:=HCN.out;omega
    rw [Scp.cnt] at hcb
    have hsb:bg s.lf≤1000000000000:=by have h1:=dy Scp.lf (List.mem_of_getElem? hs);have h2:=HSZ.out;omega
    rw [Scp.sz] at hsb
    have hnd2:(g::(fA++(f1++f2))).Nodup:=by have h1:=HND.out;have h2:=HFP.out;rw [←hff] at h2;rw [←h2] at h1;exact h1
    obtain ⟨hg0,hn0⟩:=List.nodup_cons.1 hnd2
    obtain ⟨dA,_,hn1⟩:=fh hn0
    obtain ⟨dF,hnr,_⟩:=fh hn1
    have nd_1:=hnr
    have gA:g ∉ fA:=fun hm=>hg0 (by simp [hm])
    have gF:g ∉ f2:=fun hm=>hg0 (by simp [hm])
    have g_1:g ∉ f1:=fun hm=>hg0 (by simp [hm])
    have dA_1: ∀ q∈fA,q ∉ f1:=fun q hq hm=>dA q hq (by simp [hm])
    have dF_1: ∀ q∈f2,q ∉ f1:=fun q hq hm=>dF q (by simp [hm]) hq
    have hgf:g∈fp:=by rw [←HFP.out];simp [Value.ownBlock]
    have hf_1: ∀ q∈f1,q∈fp:=fun q hq=>by rw [←HFP.out,←hff];simp [hq]
    have HQ:=aa9 hq
    have HFF:=aa9 hff
    have HCB:=aa9 hcb
    have HSB:=aa9 hsb
    have hqb:q≤1000000000000:=by omega
    clear hq hff hcb hsb hs hdr hi1 hiR hnd2 hn0 hn1 hnr HP
    have c0:=dQ (L:=(.int .i64 s.kind)::(.slice pv1 s.names.length cv1)::(.int .i64 s.events)::R2) hown hA 0 _ rfl
    have z0:wr.frozen? ⟨g,j * 3,none⟩=false:=er hown _
    rw [Nat.add_zero] at c0
    have p0:(wr.setCell ⟨g,j * 3,none⟩ (.int .i64 (q:Int))).ownsRow 0 123 3 (.slice (some ⟨g,0,none⟩) l.length c) l.length (A++(.int .i64 (q:Int))::(.slice pv1 s.names.length cv1)::(.int .i64 s.events)::R2):=jT (L:=(.int .i64 s.kind)::(.slice pv1 s.names.length cv1)::(.int .i64 s.events)::R2) hown hA 0 (.int .i64 (q:Int))
    have c1:=dQ (L:=(.int .i64 (q:Int))::(.slice pv1 s.names.length cv1)::(.int .i64 s.events)::R2) p0 hA 1 _ rfl
    have gs:ac wr (wr.setCell ⟨g,j * 3,none⟩ (.int .i64 (q:Int))) [g]:=(ac.refl wr [g]).trans (ac.set (by simp))
    replace hiA:=bS.apart hiA gs (fun q hq hm=>by simp at hm;exact gA (hm ▸ hq))
    replace hiR2:=bS.apart hiR2 gs (fun q hq hm=>by simp at hm;exact gF (hm ▸ hq))
    replace i1:=au.away i1 gs (fun q hq hm=>by simp at hm;exact g_1 (hm ▸ hq))
    replace hgr:=hgr.trans (gs.mono (fun q hq=>by simp at hq;exact hq ▸ hgf))
    clear gs
    have PP:=aa9 p0
    have IA:=aa9 hiA
    have IR:=aa9 hiR2
    have GR:=aa9 hgr
    have I1:=aa9 i1
    clear hiA hiR2 hgr hown p0 i1
    go_wp2_with fail
    refine (nb _ s.names ((q:Int)+1) (q+1) (by omega) f1 _ I1.out nd_1 (by have:=HCB.out;omega) (by have:=HSB.out;omega)).mono ?_
    rintro e w1 ⟨rfl,ii,gb⟩
    have hiA:=IA.out
    have hiR2:=IR.out
    have hgr:=GR.out
    have hown:=PP.out
    clear IA IR GR PP c0 z0 c1
    have i1:=I1.out
    clear I1
    replace hown:=iz hown gb (fun y hy hm=>by injection hy with hy;subst hy;exact g_1 hm)
    replace hiA:=bS.apart hiA gb dA_1
    replace hiR2:=bS.apart hiR2 gb dF_1
    replace hgr:=hgr.trans (gb.mono hf_1)
    replace i1:=ii
    clear gb
    obtain ⟨q1,hq1⟩: ∃ y,y=(q+1)+aL (bo s.names):=⟨_,rfl⟩
    rw [←hq1]
    have hqb1:q1≤1000000000000:=by have:=HCB.out;omega
    have HQ1:=aa9 hq1
    clear hq1
    have c2:=dQ (L:=(.int .i64 (q:Int))::(.slice pv1 s.names.length cv1)::(.int .i64 s.events)::R2) hown hA 2 _ rfl
    have z2:w1.frozen? ⟨g,j * 3+2,none⟩=false:=er hown _
    have p2:(w1.setCell ⟨g,j * 3+2,none⟩ (.int .i64 (q1:Int))).ownsRow 0 123 3 (.slice (some ⟨g,0,none⟩) l.length c) l.length (A++(.int .i64 (q:Int))::(.slice pv1 s.names.length cv1)::(.int .i64 (q1:Int))::R2):=jT (L:=(.int .i64 (q:Int))::(.slice pv1 s.names.length cv1)::(.int .i64 s.events)::R2) hown hA 2 (.int .i64 (q1:Int))
    have gs:ac w1 (w1.setCell ⟨g,j * 3+2,none⟩ (.int .i64 (q1:Int))) [g]:=(ac.refl w1 [g]).trans (ac.set (by simp))
    replace hiA:=bS.apart hiA gs (fun q hq hm=>by simp at hm;exact gA (hm ▸ hq))
    replace hiR2:=bS.apart hiR2 gs (fun q hq hm=>by simp at hm;exact gF (hm ▸ hq))
    replace i1:=au.away i1 gs (fun q hq hm=>by simp at hm;exact g_1 (hm ▸ hq))
    replace hgr:=hgr.trans (gs.mono (fun q hq=>by simp at hq;exact hq ▸ hgf))
    clear gs
    have PP:=aa9 p2
    have IA:=aa9 hiA
    have IR:=aa9 hiR2
    have GR:=aa9 hgr
    have I1:=aa9 i1
    clear hiA hiR2 hgr hown p2 i1
    go_wp2
    go_roundw
    case rel=>
     have e1:=HQ1.out
     refine ⟨j+1,q+aW s.lf,A++[(.int .i64 (q:Int)),(.slice pv1 s.names.length cv1),(.int .i64 (q1:Int))],R2,fA++f1,f2,by omega,by go_num,?_,HEN.out.symm,by simp;omega,by simpa using PP.out,?_,IR.out,by rw [List.append_assoc];exact HFF.out,GR.out⟩
     · rw [Scp.cnt]
       congr 1 <;> omega
     · rw [HMK.out,Scp.mark]
       subst e1
       exact bS.append.2 ⟨A,_,fA,_,rfl,IA.out,Scp.in_mk (h1:=I1.out),rfl⟩
    case measure=>simp [intOf];omega
  · obtain rfl:j=l.length:=by omega
    have hR0:R=[]∧fR=[]:=by rw [List.drop_length] at hiR;exact hiR
    obtain ⟨rfl,rfl⟩:=hR0
    rw [List.append_nil] at hown hff
    rw [List.take_length] at hiA hq
    subst hff
    have HT:=aa9 (show au wr (aX (aj l) k).1 (.slice p l.length c) fp from ⟨by rw [cY];exact ce Scp.len l,A,fA,dz hown,hiA,HFP.out.symm⟩)
    have HV:=aa9 (show q=k+aL (aj l) from hq)
    clear hiA hiR hown hA hq
    go_wp2
    go_ret
    exact ⟨by rw [HV.out];rfl,HT.out,hgr⟩
set_option maxRecDepth 20000 in
theorem ov (v:Value) (l:List Scp) (kk:Int) (k:Nat) (hkk:kk=(k:Int)) (w:World) (hr:az w (aX (aj l) k).1 v) (hk:k+aL (aj l)≤1000000000000) (hs:co (aj l)≤1000000000000):
 Calls Tryz.prog 135 #[v,.int .i64 kk] w fun e w'=>e= .returned (.int .i64 ((k+aL (aj l):Nat):Int))∧Below w.heap.size w w':=by
 subst hkk
 have hs2:l.length+bg (l.flatMap Scp.lf)≤1000000000000:=hs
 have hll:l.length≤1000000000000:=by omega
 have HSZ:=aa9 hs2
 have HCN:=aa9 (show k+aW (l.flatMap Scp.lf)≤1000000000000 from hk)
 have HV:=aa9 (show aL (aj l)=aW (l.flatMap Scp.lf) from rfl)
 clear hk hs hs2
 obtain ⟨p,c,rfl,hp⟩:=Scp.atm hr
 have HP:=aa9 hp
 clear hp hr
 go_enter Tryz.func135,Tryz.ntmps135
 go_wp2
 go_loopw [1,5] (fun kk i wr=> ∃ j q:Nat,j≤l.length∧i= .int .i64 j∧kk= .int .i64 (q:Int)∧q=k+aW ((l.take j).flatMap Scp.lf)∧Below w.heap.size w wr) (fun _ i _=>l.length - (intOf i).toNat)
 case atStart=>exact ⟨0,k,by omega,rfl,rfl,by simp [aW],Below.refl _ _⟩
 case round=>
  obtain ⟨j,q,hj,rfl,rfl,hq,hbr⟩:=hrel
  have hbr0:=hbr.size
  by_cases hlt:j < l.length
  · obtain ⟨b1,o1,rfl,hb1,hc1⟩:=HP.out.resolve_left (by intro h;subst h;simp at hlt)
    obtain ⟨s,hs⟩: ∃ s,l[j]? =some s:=⟨_,List.getElem?_eq_getElem hlt⟩
    obtain ⟨v1,n1,x0,x1,x2⟩:=hc1 j s q hs hq
    have HEN:=aa9 (show q+aW s.lf=k+aW ((l.take (j+1)).flatMap Scp.lf) by rw [bC Scp.lf hs,bZ,hq];omega)
    have hcb:q+aW s.lf≤1000000000000:=by have h1:=cD Scp.lf l (j+1);have h2:=HEN.out;have h3:=HCN.out;omega
    rw [Scp.cnt] at hcb
    have hsb:bg s.lf≤1000000000000:=by have h1:=dy Scp.lf (List.mem_of_getElem? hs);have h2:=HSZ.out;omega
    rw [Scp.sz] at hsb
    obtain ⟨q1,hq1⟩: ∃ y,y=(q+1)+aL (bo s.names):=⟨_,rfl⟩
    have hqb9:q1+1≤1000000000000:=by omega
    have e0:wr.cell? ⟨b1,o1+j * 3,none⟩=some (.int .i64 (q:Int)):=by
     rw [(hbr.cell (p:=⟨b1,o1+j * 3,none⟩) hb1),x0]
     all_goals rfl
    have e1:wr.cell? ⟨b1,o1+j * 3+1,none⟩=some (v1):=by
     rw [(hbr.cell (p:=⟨b1,o1+j * 3+1,none⟩) hb1),x1]
     all_goals rfl
    have e2:wr.cell? ⟨b1,o1+j * 3+2,none⟩=some (.int .i64 (q1:Int)):=by
     rw [(hbr.cell (p:=⟨b1,o1+j * 3+2,none⟩) hb1),x2]
     simp only [hq1]
     all_goals rfl
    have HR1:=aa9 (show az wr (aX (bo s.names) (q+1)).1 v1 from by have h:=az.below hbr _ _ n1;exact h)
    have hlb:b1 < wr.heap.size:=Nat.lt_of_lt_of_le hb1 hbr0
    have hqb:q≤1000000000000:=by omega
    have hqc1:q1≤1000000000000:=by omega
    have hnn1: ¬(q1:Int) < 0:=by omega
    have HQ1:=aa9 hq1
    have HQ:=aa9 hq
    have HCB:=aa9 hcb
    have HSB:=aa9 hsb
    clear hc1 hs HP hcb hsb hq x0 x1 x2 n1 hq1
    go_wp2_with fail
    refine (nc _ s.names ((q:Int)+1) (q+1) (by omega) _ HR1.out (by have:=HCB.out;have:=HQ1.out;omega) (by have:=HSB.out;omega)).mono ?_
    rintro e w1 ⟨rfl,b2⟩
    rw [←HQ1.out]
    have t2:w1.cell? ⟨b1,o1+j * 3+2,none⟩=_:=(b2.cell (p:=⟨b1,o1+j * 3+2,none⟩) hlb).trans e2
    replace hlb:b1 < w1.heap.size:=Nat.lt_of_lt_of_le hlb b2.size
    replace hbr:=hbr.trans (b2.mono hbr.size)
    clear b2 HR1 e1 e2
    have e2:=t2
    clear t2
    go_wp2
    go_roundw
    case rel=>
     refine ⟨j+1,q+aW s.lf,by omega,by go_num,?_,HEN.out,hbr⟩
     rw [Scp.cnt]
     have h1:=HQ1.out
     congr 1 <;> omega
    case measure=>simp [intOf];omega
  · obtain rfl:j=l.length:=by omega
    rw [List.take_length] at hq
    have HW:=aa9 (show q=k+aL (aj l) from hq)
    clear hq
    go_wp2
    go_ret
    exact ⟨by rw [HW.out];rfl,hbr⟩
def Flt.lf (x:Flt):List Lf:=[.bool x.on,aj x.scopes]
theorem Flt.len (x:Flt):x.lf.length=2:=rfl
def kU (l:List Flt):Lf:= .rows 27 2 l.length (l.flatMap Flt.lf)
theorem Flt.fit (x:Flt):ec x.lf:=⟨trivial,gv x.scopes,trivial⟩
theorem vF (l:List Flt):m8 (kU l):=⟨by omega,ce Flt.len l,ec.flat Flt.fit l⟩
theorem Flt.sz (x:Flt):bg x.lf=co (aj x.scopes):=by simp only [Flt.lf,bg,oj] <;> omega
theorem Flt.cnt (x:Flt):aW x.lf=1+aL (aj x.scopes):=by simp only [Flt.lf,aW,ml] <;> omega
theorem Flt.rd {W:World} {x:Flt} {vs:List Value} :di W x.lf vs↔ ∃ r1,vs=[.bool x.on,r1]∧az W (aj x.scopes) r1:=by
 constructor
 · rintro ⟨a0,s0,rfl,h0,a1,s1,rfl,h1,rfl⟩
   exact ⟨a1,by rw [h0],h1⟩
 · rintro ⟨r1,rfl,h1⟩
   exact ⟨_,_,rfl,rfl,_,_,rfl,h1,rfl⟩
theorem Flt.mark (x:Flt) (k:Nat):(aO x.lf k).1=[.bool ((k) % 3==0),(aX (aj x.scopes) (k+1)).1]:=by simp only [Flt.lf,aO,kJ,gp]
theorem Flt.rdm {W:World} {x:Flt} {k:Nat} {vs:List Value} :di W (aO x.lf k).1 vs↔ ∃ r1,vs=[.bool ((k) % 3==0),r1]∧az W (aX (aj x.scopes) (k+1)).1 r1:=by
 rw [Flt.mark]
 constructor
 · rintro ⟨a0,s0,rfl,h0,a1,s1,rfl,h1,rfl⟩
   exact ⟨a1,by rw [h0],h1⟩
 · rintro ⟨r1,rfl,h1⟩
   exact ⟨_,_,rfl,rfl,_,_,rfl,h1,rfl⟩
theorem Flt.in_of {W:World} {z0:Bool} {z1:Lf} {vs:List Value} {fp:List Nat} (h:bS W [.bool z0,z1] vs fp): ∃ r1 f1,vs=[.bool z0,r1]∧au W z1 r1 f1∧fp=f1:=by
 obtain ⟨a0,s0,f0,g0,rfl,h0,⟨a1,s1,f1,g1,rfl,h1,⟨rfl,rfl⟩,rfl⟩,rfl⟩:=h
 exact ⟨a1,f1,by rw [h0.1],h1,by rw [h0.2];simp⟩
theorem Flt.in_mk {W:World} {z0:Bool} {z1:Lf} {r1:Value} {f1:List Nat} (h1:au W z1 r1 f1):bS W [.bool z0,z1] [.bool z0,r1] (f1):=by
 have h:bS W [.bool z0,z1] [.bool z0,r1] ([]++(f1++([]))):=⟨_,_,[],_,rfl,⟨rfl,rfl⟩,⟨_,_,f1,_,rfl,h1,⟨rfl,rfl⟩,rfl⟩,rfl⟩
 simpa using h
theorem Flt.at {W:World} {l:List Flt} {v:Value} (h:az W (kU l) v): ∃ p cap,v= .slice p l.length cap∧(l=[]∨ ∃ b off,p=some ⟨b,off,none⟩∧b < W.heap.size∧ ∀ i x,l[i]? =some x→ ∃ r1,az W (aj x.scopes) r1∧W.cell? ⟨b,off+i * 2,none⟩=some (.bool x.on)∧W.cell? ⟨b,off+i * 2+1,none⟩=some (r1)):=by
 obtain ⟨p,cap,hv,hc⟩:=jk Flt.len h
 refine ⟨p,cap,hv,hc.imp id fun ⟨b,off,hp,hlt,hc⟩=>⟨b,off,hp,hlt,fun i x hi=> ?_⟩⟩
 obtain ⟨us,h1,h2⟩:=hc i x hi
 obtain ⟨r1,rfl,k1⟩:=Flt.rd.1 h1
 exact ⟨r1,k1,h2 0 _ rfl,h2 1 _ rfl⟩
theorem Flt.atm {W:World} {l:List Flt} {v:Value} {k0:Nat} (h:az W (aX (kU l) k0).1 v): ∃ p cap,v= .slice p l.length cap∧(l=[]∨ ∃ b off,p=some ⟨b,off,none⟩∧b < W.heap.size∧ ∀ i x k,l[i]? =some x→k=k0+aW ((l.take i).flatMap Flt.lf)→ ∃ r1,az W (aX (aj x.scopes) (k+1)).1 r1∧W.cell? ⟨b,off+i * 2,none⟩=some (.bool ((k) % 3==0))∧W.cell? ⟨b,off+i * 2+1,none⟩=some (r1)):=by
 obtain ⟨p,cap,hv,hc⟩:=dG Flt.len h
 refine ⟨p,cap,hv,hc.imp id fun ⟨b,off,hp,hlt,hc⟩=>⟨b,off,hp,hlt,fun i x k hi hk=> ?_⟩⟩
 obtain ⟨us,h1,h2⟩:=hc i x hi
 rw [←hk] at h1
 obtain ⟨r1,rfl,k1⟩:=Flt.rdm.1 h1
 exact ⟨r1,k1,h2 0 _ rfl,h2 1 _ rfl⟩
theorem rT (x:Flt) (ra1 rb1:Value) (w:World) (ha1:az w (aj x.scopes) ra1) (hb1:az w (aj x.scopes) rb1) (hs:bg x.lf≤1000000000000):
 Calls Tryz.prog 68 #[.agg #[.bool x.on,ra1],.agg #[.bool x.on,rb1]] w fun e w'=>e= .returned (.bool true)∧Below w.heap.size w w':=by
 have ne_on:(x.on != x.on)=false:=by simp
 have hra1:=ha1
 have hrb1:=hb1
 obtain ⟨p1a,c1a,rfl⟩:=az.slice ha1
 obtain ⟨p1b,c1b,rfl⟩:=az.slice hb1
 have hb1:Below w.heap.size w ((w.alloc (.cells #[.bool x.on,(.slice p1a x.scopes.length c1a)] 27)).alloc (.cells #[.bool x.on,(.slice p1b x.scopes.length c1b)] 27)):=((Below.refl _ _).alloc (Nat.le_refl _) _).alloc (by simp) _
 have HA1:=aa9 (show ((w.alloc (.cells #[.bool x.on,(.slice p1a x.scopes.length c1a)] 27)).alloc (.cells #[.bool x.on,(.slice p1b x.scopes.length c1b)] 27)).heap[w.heap.size]? =some (.cells #[.bool x.on,(.slice p1a x.scopes.length c1a)] 27 (0,0)) from (Below.heap_alloc _ _ _ (by simp)).trans (heap_alloc_new w _))
 have HB1:=aa9 (show ((w.alloc (.cells #[.bool x.on,(.slice p1a x.scopes.length c1a)] 27)).alloc (.cells #[.bool x.on,(.slice p1b x.scopes.length c1b)] 27)).heap[w.heap.size+1]? =some (.cells #[.bool x.on,(.slice p1b x.scopes.length c1b)] 27 (0,0)) from by
  have:=heap_alloc_new (w.alloc (.cells #[.bool x.on,(.slice p1a x.scopes.length c1a)] 27)) (.cells #[.bool x.on,(.slice p1b x.scopes.length c1b)] 27)
  rwa [World.size_alloc] at this)
 have hz1:((w.alloc (.cells #[.bool x.on,(.slice p1a x.scopes.length c1a)] 27)).alloc (.cells #[.bool x.on,(.slice p1b x.scopes.length c1b)] 27)).heap.size=w.heap.size+2:=by simp
 have HZ1:=aa9 (Nat.le_of_eq hz1.symm)
 clear hz1
 have hsz:=Flt.sz x
 have C1:=aa9 (fun W (g:az W (aj x.scopes) (.slice p1a x.scopes.length c1a)) (g2:az W (aj x.scopes) (.slice p1b x.scopes.length c1b))=>rS _ _ x.scopes W g g2 (by omega))
 clear hs hsz
 go_enter Tryz.func68,Tryz.ntmps68
 go_wp2_with fail
 refine (C1.out _ (az.below hb1 _ _ hra1) (az.below hb1 _ _ hrb1)).mono ?_
 rintro e w2 ⟨rfl,b2⟩
 have hb2:=hb1.trans (b2.mono hb1.size)
 have HZ2:=aa9 (Nat.le_trans HZ1.out b2.size)
 have HA2:=aa9 ((b2.block w.heap.size (by have:=HZ1.out;omega)).trans HA1.out)
 have HB2:=aa9 ((b2.block (w.heap.size+1) (by have:=HZ1.out;omega)).trans HB1.out)
 clear b2
 go_wp2
 go_ret
 exact ⟨rfl,hb2⟩
theorem ox (x:Flt) (r1:Value) (kk:Int) (k:Nat) (hkk:kk=(k:Int)) (f1:List Nat) (w:World) (h1:au w (aj x.scopes) r1 f1) (hnd:(f1).Nodup) (hk:k+aL (aj x.scopes)≤1000000000000) (hs:bg x.lf≤1000000000000):
 Calls Tryz.prog 72 #[.agg #[.bool x.on,r1],.int .i64 kk] w fun e w'=>e= .returned (.int .i64 ((k+aL (aj x.scopes):Nat):Int))∧au w' (aX (aj x.scopes) (k)).1 r1 f1∧ac w w' (f1):=by
 subst hkk
 have hsz:=Flt.sz x
 obtain ⟨p1,c1,rfl⟩:=au.slice h1
 have hb1:Below w.heap.size w (w.alloc (.cells #[.bool x.on,(.slice p1 x.scopes.length c1)] 27)):=(Below.refl _ _).alloc (Nat.le_refl _) _
 have HA1:=aa9 (heap_alloc_new w (.cells #[.bool x.on,(.slice p1 x.scopes.length c1)] 27))
 have u1: ∀ q∈f1,q < w.heap.size:=fun q hq=>au.lt _ _ _ h1 q hq
 have I1:=aa9 (au.below h1 hb1)
 clear h1
 have nd_1:=hnd
 have hg1:ac w (w.alloc (.cells #[.bool x.on,(.slice p1 x.scopes.length c1)] 27)) (f1):=ac.of_below hb1
 have hz1:w.heap.size < (w.alloc (.cells #[.bool x.on,(.slice p1 x.scopes.length c1)] 27)).heap.size:=by simp
 obtain ⟨q1,hq1⟩: ∃ q,q=k+aL (aj x.scopes):=⟨_,rfl⟩
 rw [←hq1] at hk
 rw [←hq1]
 have HQ1:=aa9 hq1
 have hn1: ¬(q1:Int) < 0:=by omega
 have C1:=aa9 (fun (kk:Int) (hkk:kk=(k:Int)) W (h:au W (aj x.scopes) (.slice p1 x.scopes.length c1) f1)=>ou (.slice p1 x.scopes.length c1) x.scopes kk k hkk f1 W h nd_1 (by omega) (by omega))
 simp only [←hq1] at C1
 clear hk hs hsz hq1
 go_enter Tryz.func72,Tryz.ntmps72
 go_wp2_with fail
 refine (C1.out _ rfl _ I1.out).mono ?_
 rintro e w2 ⟨rfl,i1,g2⟩
 have hg2:=hg1.trans (g2.mono (fun q hq=>by simp [hq]))
 have HA2:=aa9 ((g2.block w.heap.size (by omega) (fun hm=>by have:=u1 _ hm;omega)).trans HA1.out)
 have hz2:=Nat.lt_of_lt_of_le hz1 g2.size
 clear I1
 have I1:=aa9 i1
 clear i1 g2
 go_wp2
 go_ret
 exact ⟨rfl,I1.out,hg2⟩
theorem oy (x:Flt) (r1:Value) (kk:Int) (k:Nat) (hkk:kk=(k:Int)) (w:World) (h1:az w (aX (aj x.scopes) (k)).1 r1) (hk:k+aL (aj x.scopes)≤1000000000000) (hs:bg x.lf≤1000000000000):
 Calls Tryz.prog 74 #[.agg #[.bool x.on,r1],.int .i64 kk] w fun e w'=>e= .returned (.int .i64 ((k+aL (aj x.scopes):Nat):Int))∧Below w.heap.size w w':=by
 subst hkk
 have hsz:=Flt.sz x
 obtain ⟨p1,c1,rfl⟩:=jp h1
 have hb1:Below w.heap.size w (w.alloc (.cells #[.bool x.on,(.slice p1 x.scopes.length c1)] 27)):=(Below.refl _ _).alloc (Nat.le_refl _) _
 have HA1:=aa9 (heap_alloc_new w (.cells #[.bool x.on,(.slice p1 x.scopes.length c1)] 27))
 have HR1:=aa9 h1
 clear h1
 obtain ⟨q1,hq1⟩: ∃ q,q=k+aL (aj x.scopes):=⟨_,rfl⟩
 rw [←hq1] at hk
 rw [←hq1]
 have hn1: ¬(q1:Int) < 0:=by omega
 have C1:=aa9 (fun (kk:Int) (hkk:kk=(k:Int)) W (h:az W (aX (aj x.scopes) k).1 (.slice p1 x.scopes.length c1))=>ov (.slice p1 x.scopes.length c1) x.scopes kk k hkk W h (by omega) (by omega))
 simp only [←hq1] at C1
 clear hk hs hsz hq1
 go_enter Tryz.func74,Tryz.ntmps74
 go_wp2_with fail
 refine (C1.out _ rfl _ (az.below hb1 _ _ HR1.out)).mono ?_
 rintro e w2 ⟨rfl,b2⟩
 have hb2:=hb1.trans (b2.mono hb1.size)
 have HA2:=aa9 ((b2.block w.heap.size (by simp)).trans HA1.out)
 go_wp2
 go_ret
 exact ⟨rfl,hb2⟩
structure ap where
 tag:List UInt8
 kind:Int
 box:List UInt8
 dst:List UInt8
 uid:Bool
 sset:List Spn
 op:Int
 flags:Int
 text:List UInt8
 filter:Flt
def ap.lf (x:ap):List Lf:=[.str x.tag,.int x.kind,.str x.box,.str x.dst,.bool x.uid,am x.sset,.int x.op,.int x.flags,.str x.text,.bool x.filter.on,aj x.filter.scopes]
theorem ap.len (x:ap):x.lf.length=11:=rfl
def js (l:List ap):Lf:= .rows 29 11 l.length (l.flatMap ap.lf)
theorem ap.fit (x:ap):ec x.lf:=⟨trivial,trivial,trivial,trivial,trivial,jr x.sset,trivial,trivial,trivial,trivial,gv x.filter.scopes,trivial⟩
theorem vi (l:List ap):m8 (js l):=⟨by omega,ce ap.len l,ec.flat ap.fit l⟩
theorem ap.sz (x:ap):bg x.lf=x.tag.length+x.box.length+x.dst.length+co (am x.sset)+x.text.length+co (aj x.filter.scopes):=by simp only [ap.lf,bg,kf,oj,m7] <;> omega
theorem ap.cnt (x:ap):aW x.lf=1+1+1+1+1+aL (am x.sset)+1+1+1+1+aL (aj x.filter.scopes):=by simp only [ap.lf,aW,iu,ml,kI] <;> omega
theorem ap.rd {W:World} {x:ap} {vs:List Value} :di W x.lf vs↔ ∃ r5,∃ r10,vs=[sv x.tag,.int .i64 x.kind,sv x.box,sv x.dst,.bool x.uid,r5,.int .i64 x.op,.int .i64 x.flags,sv x.text,.bool x.filter.on,r10]∧az W (am x.sset) r5∧az W (aj x.filter.scopes) r10:=by
 constructor
 · rintro ⟨a0,s0,rfl,h0,a1,s1,rfl,h1,a2,s2,rfl,h2,a3,s3,rfl,h3,a4,s4,rfl,h4,a5,s5,rfl,h5,a6,s6,rfl,h6,a7,s7,rfl,h7,a8,s8,rfl,h8,a9,s9,rfl,h9,a10,s10,rfl,h10,rfl⟩
   exact ⟨a5,a10,by rw [h0,h1,h2,h3,h4,h6,h7,h8,h9],h5,h10⟩
 · rintro ⟨r5,r10,rfl,h5,h10⟩
   exact ⟨_,_,rfl,rfl,_,_,rfl,rfl,_,_,rfl,rfl,_,_,rfl,rfl,_,_,rfl,rfl,_,_,rfl,h5,_,_,rfl,rfl,_,_,rfl,rfl,_,_,rfl,rfl,_,_,rfl,rfl,_,_,rfl,h10,rfl⟩
theorem ap.mark (x:ap) (k:Nat):(aO x.lf k).1=[.str (cA (k)),.int ((k+1:Nat):Int),.str (cA (k+1+1)),.str (cA (k+1+1+1)),.bool ((k+1+1+1+1) % 3==0),(aX (am x.sset) (k+1+1+1+1+1)).1,.int ((k+1+1+1+1+1+aL (am x.sset):Nat):Int),.int ((k+1+1+1+1+1+aL (am x.sset)+1:Nat):Int),.str (cA (k+1+1+1+1+1+aL (am x.sset)+1+1)),.bool ((k+1+1+1+1+1+aL (am x.sset)+1+1+1) % 3==0),(aX (aj x.filter.scopes) (k+1+1+1+1+1+aL (am x.sset)+1+1+1+1)).1]:=by simp only [ap.lf,aO,gq,kJ,jo,gp]
theorem ap.rdm {W:World} {x:ap} {k:Nat} {vs:List Value} :di W (aO x.lf k).1 vs↔ ∃ r5,∃ r10,vs=[sv (cA (k)),.int .i64 ((k+1:Nat):Int),sv (cA (k+1+1)),sv (cA (k+1+1+1)),.bool ((k+1+1+1+1) % 3==0),r5,.int .i64 ((k+1+1+1+1+1+aL (am x.sset):Nat):Int),.int .i64 ((k+1+1+1+1+1+aL (am x.sset)+1:Nat):Int),sv (cA (k+1+1+1+1+1+aL (am x.sset)+1+1)),.bool ((k+1+1+1+1+1+aL (am x.sset)+1+1+1) % 3==0),r10]∧az W (aX (am x.sset) (k+1+1+1+1+1)).1 r5∧az W (aX (aj x.filter.scopes) (k+1+1+1+1+1+aL (am x.sset)+1+1+1+1)).1 r10:=by
 rw [ap.mark]
 constructor
 · rintro ⟨a0,s0,rfl,h0,a1,s1,rfl,h1,a2,s2,rfl,h2,a3,s3,rfl,h3,a4,s4,rfl,h4,a5,s5,rfl,h5,a6,s6,rfl,h6,a7,s7,rfl,h7,a8,s8,rfl,h8,a9,s9,rfl,h9,a10,s10,rfl,h10,rfl⟩
   exact ⟨a5,a10,by rw [h0,h1,h2,h3,h4,h6,h7,h8,h9],h5,h10⟩
 · rintro ⟨r5,r10,rfl,h5,h10⟩
   exact ⟨_,_,rfl,rfl,_,_,rfl,rfl,_,_,rfl,rfl,_,_,rfl,rfl,_,_,rfl,rfl,_,_,rfl,h5,_,_,rfl,rfl,_,_,rfl,rfl,_,_,rfl,rfl,_,_,rfl,rfl,_,_,rfl,h10,rfl⟩
theorem ap.in_of {W:World} {z0:List UInt8} {z1:Int} {z2:List UInt8} {z3:List UInt8} {z4:Bool} {z5:Lf} {z6:Int} {z7:Int} {z8:List UInt8} {z9:Bool} {z10:Lf} {vs:List Value} {fp:List Nat} (h:bS W [.str z0,.int z1,.str z2,.str z3,.bool z4,z5,.int z6,.int z7,.str z8,.bool z9,z10] vs fp): ∃ r5 f5,∃ r10 f10,vs=[sv z0,.int .i64 z1,sv z2,sv z3,.bool z4,r5,.int .i64 z6,.int .i64 z7,sv z8,.bool z9,r10]∧au W z5 r5 f5∧au W z10 r10 f10∧fp=f5++f10:=by
 obtain ⟨a0,s0,f0,g0,rfl,h0,⟨a1,s1,f1,g1,rfl,h1,⟨a2,s2,f2,g2,rfl,h2,⟨a3,s3,f3,g3,rfl,h3,⟨a4,s4,f4,g4,rfl,h4,⟨a5,s5,f5,g5,rfl,h5,⟨a6,s6,f6,g6,rfl,h6,⟨a7,s7,f7,g7,rfl,h7,⟨a8,s8,f8,g8,rfl,h8,⟨a9,s9,f9,g9,rfl,h9,⟨a10,s10,f10,g10,rfl,h10,⟨rfl,rfl⟩,rfl⟩,rfl⟩,rfl⟩,rfl⟩,rfl⟩,rfl⟩,rfl⟩,rfl⟩,rfl⟩,rfl⟩,rfl⟩:=h
 exact ⟨a5,f5,a10,f10,by rw [h0.1,h1.1,h2.1,h3.1,h4.1,h6.1,h7.1,h8.1,h9.1],h5,h10,by rw [h0.2,h1.2,h2.2,h3.2,h4.2,h6.2,h7.2,h8.2,h9.2];simp⟩
theorem ap.in_mk {W:World} {z0:List UInt8} {z1:Int} {z2:List UInt8} {z3:List UInt8} {z4:Bool} {z5:Lf} {z6:Int} {z7:Int} {z8:List UInt8} {z9:Bool} {z10:Lf} {r5:Value} {f5:List Nat} (h5:au W z5 r5 f5) {r10:Value} {f10:List Nat} (h10:au W z10 r10 f10):bS W [.str z0,.int z1,.str z2,.str z3,.bool z4,z5,.int z6,.int z7,.str z8,.bool z9,z10] [sv z0,.int .i64 z1,sv z2,sv z3,.bool z4,r5,.int .i64 z6,.int .i64 z7,sv z8,.bool z9,r10] (f5++f10):=by
 have h:bS W [.str z0,.int z1,.str z2,.str z3,.bool z4,z5,.int z6,.int z7,.str z8,.bool z9,z10] [sv z0,.int .i64 z1,sv z2,sv z3,.bool z4,r5,.int .i64 z6,.int .i64 z7,sv z8,.bool z9,r10] ([]++([]++([]++([]++([]++(f5++([]++([]++([]++([]++(f10++([])))))))))))):=⟨_,_,[],_,rfl,⟨rfl,rfl⟩,⟨_,_,[],_,rfl,⟨rfl,rfl⟩,⟨_,_,[],_,rfl,⟨rfl,rfl⟩,⟨_,_,[],_,rfl,⟨rfl,rfl⟩,⟨_,_,[],_,rfl,⟨rfl,rfl⟩,⟨_,_,f5,_,rfl,h5,⟨_,_,[],_,rfl,⟨rfl,rfl⟩,⟨_,_,[],_,rfl,⟨rfl,rfl⟩,⟨_,_,[],_,rfl,⟨rfl,rfl⟩,⟨_,_,[],_,rfl,⟨rfl,rfl⟩,⟨_,_,f10,_,rfl,h10,⟨rfl,rfl⟩,rfl⟩,rfl⟩,rfl⟩,rfl⟩,rfl⟩,rfl⟩,rfl⟩,rfl⟩,rfl⟩,rfl⟩,rfl⟩
 simpa using h
theorem ap.at {W:World} {l:List ap} {v:Value} (h:az W (js l) v): ∃ p cap,v= .slice p l.length cap∧(l=[]∨ ∃ b off,p=some ⟨b,off,none⟩∧b < W.heap.size∧ ∀ i x,l[i]? =some x→ ∃ r5,∃ r10,az W (am x.sset) r5∧az W (aj x.filter.scopes) r10∧W.cell? ⟨b,off+i * 11,none⟩=some (sv x.tag)∧W.cell? ⟨b,off+i * 11+1,none⟩=some (.int .i64 x.kind)∧W.cell? ⟨b,off+i * 11+2,none⟩=some (sv x.box)∧W.cell? ⟨b,off+i * 11+3,none⟩=some (sv x.dst)∧W.cell? ⟨b,off+i * 11+4,none⟩=some (.bool x.uid)∧W.cell? ⟨b,off+i * 11+5,none⟩=some (r5)∧W.cell? ⟨b,off+i * 11+6,none⟩=some (.int .i64 x.op)∧W.cell? ⟨b,off+i * 11+7,none⟩=some (.int .i64 x.flags)∧W.cell? ⟨b,off+i * 11+8,none⟩=some (sv x.text)∧W.cell? ⟨b,off+i * 11+9,none⟩=some (.bool x.filter.on)∧W.cell? ⟨b,off+i * 11+10,none⟩=some (r10)):=by
 obtain ⟨p,cap,hv,hc⟩:=jk ap.len h
 refine ⟨p,cap,hv,hc.imp id fun ⟨b,off,hp,hlt,hc⟩=>⟨b,off,hp,hlt,fun i x hi=> ?_⟩⟩
 obtain ⟨us,h1,h2⟩:=hc i x hi
 obtain ⟨r5,r10,rfl,k5,k10⟩:=ap.rd.1 h1
 exact ⟨r5,r10,k5,k10,h2 0 _ rfl,h2 1 _ rfl,h2 2 _ rfl,h2 3 _ rfl,h2 4 _ rfl,h2 5 _ rfl,h2 6 _ rfl,h2 7 _ rfl,h2 8 _ rfl,h2 9 _ rfl,h2 10 _ rfl⟩
theorem ap.atm {W:World} {l:List ap} {v:Value} {k0:Nat} (h:az W (aX (js l) k0).1 v): ∃ p cap,v= .slice p l.length cap∧(l=[]∨ ∃ b off,p=some ⟨b,off,none⟩∧b < W.heap.size∧ ∀ i x k,l[i]? =some x→k=k0+aW ((l.take i).flatMap ap.lf)→ ∃ r5,∃ r10,az W (aX (am x.sset) (k+1+1+1+1+1)).1 r5∧az W (aX (aj x.filter.scopes) (k+1+1+1+1+1+aL (am x.sset)+1+1+1+1)).1 r10∧W.cell? ⟨b,off+i * 11,none⟩=some (sv (cA (k)))∧W.cell? ⟨b,off+i * 11+1,none⟩=some (.int .i64 ((k+1:Nat):Int))∧W.cell? ⟨b,off+i * 11+2,none⟩=some (sv (cA (k+1+1)))∧W.cell? ⟨b,off+i * 11+3,none⟩=some (sv (cA (k+1+1+1)))∧W.cell? ⟨b,off+i * 11+4,none⟩=some (.bool ((k+1+1+1+1) % 3==0))∧W.cell? ⟨b,off+i * 11+5,none⟩=some (r5)∧W.cell? ⟨b,off+i * 11+6,none⟩=some (.int .i64 ((k+1+1+1+1+1+aL (am x.sset):Nat):Int))∧W.cell? ⟨b,off+i * 11+7,none⟩=some (.int .i64 ((k+1+1+1+1+1+aL (am x.sset)+1:Nat):Int))∧W.cell? ⟨b,off+i * 11+8,none⟩=some (sv (cA (k+1+1+1+1+1+aL (am x.sset)+1+1)))∧W.cell? ⟨b,off+i * 11+9,none⟩=some (.bool ((k+1+1+1+1+1+aL (am x.sset)+1+1+1) % 3==0))∧W.cell? ⟨b,off+i * 11+10,none⟩=some (r10)):=by
 obtain ⟨p,cap,hv,hc⟩:=dG ap.len h
 refine ⟨p,cap,hv,hc.imp id fun ⟨b,off,hp,hlt,hc⟩=>⟨b,off,hp,hlt,fun i x k hi hk=> ?_⟩⟩
 obtain ⟨us,h1,h2⟩:=hc i x hi
 rw [←hk] at h1
 obtain ⟨r5,r10,rfl,k5,k10⟩:=ap.rdm.1 h1
 exact ⟨r5,r10,k5,k10,h2 0 _ rfl,h2 1 _ rfl,h2 2 _ rfl,h2 3 _ rfl,h2 4 _ rfl,h2 5 _ rfl,h2 6 _ rfl,h2 7 _ rfl,h2 8 _ rfl,h2 9 _ rfl,h2 10 _ rfl⟩
theorem ed (x:ap) (ra5 rb5:Value) (ra10 rb10:Value) (w:World) (ha5:az w (am x.sset) ra5) (hb5:az w (am x.sset) rb5) (ha10:az w (aj x.filter.scopes) ra10) (hb10:az w (aj x.filter.scopes) rb10) (hs:bg x.lf≤1000000000000):
 Calls Tryz.prog 26 #[.agg #[sv x.tag,.int .i64 x.kind,sv x.box,sv x.dst,.bool x.uid,ra5,.int .i64 x.op,.int .i64 x.flags,sv x.text,.bool x.filter.on,ra10],.agg #[sv x.tag,.int .i64 x.kind,sv x.box,sv x.dst,.bool x.uid,rb5,.int .i64 x.op,.int .i64 x.flags,sv x.text,.bool x.filter.on,rb10]] w fun e w'=>e= .returned (.bool true)∧Below w.heap.size w w':=by
 have ne_uid:(x.uid != x.uid)=false:=by simp
 have ne_filter_on:(x.filter.on != x.filter.on)=false:=by simp
 have hra5:=ha5
 have hrb5:=hb5
 have hra10:=ha10
 have hrb10:=hb10
 obtain ⟨p5a,c5a,rfl⟩:=az.slice ha5
 obtain ⟨p5b,c5b,rfl⟩:=az.slice hb5
 obtain ⟨p10a,c10a,rfl⟩:=az.slice ha10
 obtain ⟨p10b,c10b,rfl⟩:=az.slice hb10
 have hb1:Below w.heap.size w ((w.alloc (.cells #[sv x.tag,.int .i64 x.kind,sv x.box,sv x.dst,.bool x.uid,(.slice p5a x.sset.length c5a),.int .i64 x.op,.int .i64 x.flags,sv x.text,.bool x.filter.on,(.slice p10a x.filter.scopes.length c10a)] 29)).alloc (.cells #[sv x.tag,.int .i64 x.kind,sv x.box,sv x.dst,.bool x.uid,(.slice p5b x.sset.length c5b),.int .i64 x.op,.int .i64 x.flags,sv x.text,.bool x.filter.on,(.slice p10b x.filter.scopes.length c10b)] 29)):=((Below.refl _ _).alloc (Nat.le_refl _) _).alloc (by simp) _
 have HA1:=aa9 (show ((w.alloc (.cells #[sv x.tag,.int .i64 x.kind,sv x.box,sv x.dst,.bool x.uid,(.slice p5a x.sset.length c5a),.int .i64 x.op,.int .i64 x.flags,sv x.text,.bool x.filter.on,(.slice p10a x.filter.scopes.length c10a)] 29)).alloc (.cells #[sv x.tag,.int .i64 x.kind,sv x.box,sv x.dst,.bool x.uid,(.slice p5b x.sset.length c5b),.int .i64 x.op,.int .i64 x.flags,sv x.text,.bool x.filter.on,(.slice p10b x.filter.scopes.length c10b)] 29)).heap[w.heap.size]? =some (.cells #[sv x.tag,.int .i64 x.kind,sv x.box,sv x.dst,.bool x.uid,(.slice p5a x.sset.length c5a),.int .i64 x.op,.int .i64 x.flags,sv x.text,.bool x.filter.on,(.slice p10a x.filter.scopes.length c10a)] 29 (0,0)) from (Below.heap_alloc _ _ _ (by simp)).trans (heap_alloc_new w _))
 have HB1:=aa9 (show ((w.alloc (.cells #[sv x.tag,.int .i64 x.kind,sv x.box,sv x.dst,.bool x.uid,(.slice p5a x.sset.length c5a),.int .i64 x.op,.int .i64 x.flags,sv x.text,.bool x.filter.on,(.slice p10a x.filter.scopes.length c10a)] 29)).alloc (.cells #[sv x.tag,.int .i64 x.kind,sv x.box,sv x.dst,.bool x.uid,(.slice p5b x.sset.length c5b),.int .i64 x.op,.int .i64 x.flags,sv x.text,.bool x.filter.on,(.slice p10b x.filter.scopes.length c10b)] 29)).heap[w.heap.size+1]? =some (.cells #[sv x.tag,.int .i64 x.kind,sv x.box,sv x.dst,.bool x.uid,(.slice p5b x.sset.length c5b),.int .i64 x.op,.int .i64 x.flags,sv x.text,.bool x.filter.on,(.slice p10b x.filter.scopes.length c10b)] 29 (0,0)) from by
  have:=heap_alloc_new (w.alloc (.cells #[sv x.tag,.int .i64 x.kind,sv x.box,sv x.dst,.bool x.uid,(.slice p5a x.sset.length c5a),.int .i64 x.op,.int .i64 x.flags,sv x.text,.bool x.filter.on,(.slice p10a x.filter.scopes.length c10a)] 29)) (.cells #[sv x.tag,.int .i64 x.kind,sv x.box,sv x.dst,.bool x.uid,(.slice p5b x.sset.length c5b),.int .i64 x.op,.int .i64 x.flags,sv x.text,.bool x.filter.on,(.slice p10b x.filter.scopes.length c10b)] 29)
  rwa [World.size_alloc] at this)
 have hz1:((w.alloc (.cells #[sv x.tag,.int .i64 x.kind,sv x.box,sv x.dst,.bool x.uid,(.slice p5a x.sset.length c5a),.int .i64 x.op,.int .i64 x.flags,sv x.text,.bool x.filter.on,(.slice p10a x.filter.scopes.length c10a)] 29)).alloc (.cells #[sv x.tag,.int .i64 x.kind,sv x.box,sv x.dst,.bool x.uid,(.slice p5b x.sset.length c5b),.int .i64 x.op,.int .i64 x.flags,sv x.text,.bool x.filter.on,(.slice p10b x.filter.scopes.length c10b)] 29)).heap.size=w.heap.size+2:=by simp
 have HZ1:=aa9 (Nat.le_of_eq hz1.symm)
 clear hz1
 have hsz:=ap.sz x
 have hsz_9:=Flt.sz x.filter
 have C5:=aa9 (fun W (g:az W (am x.sset) (.slice p5a x.sset.length c5a)) (g2:az W (am x.sset) (.slice p5b x.sset.length c5b))=>tB _ _ x.sset W g g2 (by omega))
 have C9:=aa9 (fun W (g10:az W (aj x.filter.scopes) (.slice p10a x.filter.scopes.length c10a)) (k10:az W (aj x.filter.scopes) (.slice p10b x.filter.scopes.length c10b))=>rT x.filter (.slice p10a x.filter.scopes.length c10a) (.slice p10b x.filter.scopes.length c10b) W g10 k10 (by omega))
 clear hs hsz hsz_9
 go_enter Tryz.func26,Tryz.ntmps26
 go_wp2_with fail
 refine (C5.out _ (az.below hb1 _ _ hra5) (az.below hb1 _ _ hrb5)).mono ?_
 rintro e w2 ⟨rfl,b2⟩
 have hb2:=hb1.trans (b2.mono hb1.size)
 have HZ2:=aa9 (Nat.le_trans HZ1.out b2.size)
 have HA2:=aa9 ((b2.block w.heap.size (by have:=HZ1.out;omega)).trans HA1.out)
 have HB2:=aa9 ((b2.block (w.heap.size+1) (by have:=HZ1.out;omega)).trans HB1.out)
 have y2_6:=(aa8 HA2.out 6).trans (show _=some (.int .i64 x.op) from rfl)
 have z2_6:=(aa8 HB2.out 6).trans (show _=some (.int .i64 x.op) from rfl)
 have y2_7:=(aa8 HA2.out 7).trans (show _=some (.int .i64 x.flags) from rfl)
 have z2_7:=(aa8 HB2.out 7).trans (show _=some (.int .i64 x.flags) from rfl)
 have y2_8:=(aa8 HA2.out 8).trans (show _=some (sv x.text) from rfl)
 have z2_8:=(aa8 HB2.out 8).trans (show _=some (sv x.text) from rfl)
 have y2_9:=(aa8 HA2.out 9).trans (show _=some (.bool x.filter.on) from rfl)
 have z2_9:=(aa8 HB2.out 9).trans (show _=some (.bool x.filter.on) from rfl)
 have y2_10:=(aa8 HA2.out 10).trans (show _=some ((.slice p10a x.filter.scopes.length c10a)) from rfl)
 have z2_10:=(aa8 HB2.out 10).trans (show _=some ((.slice p10b x.filter.scopes.length c10b)) from rfl)
 clear b2
 go_wp2_with fail
 refine (C9.out _ (az.below hb2 _ _ hra10) (az.below hb2 _ _ hrb10)).mono ?_
 rintro e w3 ⟨rfl,b3⟩
 have hb3:=hb2.trans (b3.mono hb2.size)
 have HZ3:=aa9 (Nat.le_trans HZ2.out b3.size)
 have HA3:=aa9 ((b3.block w.heap.size (by have:=HZ2.out;omega)).trans HA2.out)
 have HB3:=aa9 ((b3.block (w.heap.size+1) (by have:=HZ2.out;omega)).trans HB2.out)
 clear y2_6 z2_6 y2_7 z2_7 y2_8 z2_8 y2_9 z2_9 y2_10 z2_10
 clear b3
 go_wp2
 go_ret
 exact ⟨rfl,hb3⟩
theorem iE (x:ap) (r5:Value) (r10:Value) (kk:Int) (k:Nat) (hkk:kk=(k:Int)) (f5:List Nat) (f10:List Nat) (w:World) (h5:au w (am x.sset) r5 f5) (h10:au w (aj x.filter.scopes) r10 f10) (hnd:(f5++f10).Nodup) (hk:k+aL (am x.sset)+aL (aj x.filter.scopes)≤1000000000000) (hs:bg x.lf≤1000000000000):
 Calls Tryz.prog 29 #[.agg #[sv x.tag,.int .i64 x.kind,sv x.box,sv x.dst,.bool x.uid,r5,.int .i64 x.op,.int .i64 x.flags,sv x.text,.bool x.filter.on,r10],.int .i64 kk] w fun e w'=>e= .returned (.int .i64 ((k+aL (am x.sset)+aL (aj x.filter.scopes):Nat):Int))∧au w' (aX (am x.sset) (k)).1 r5 f5∧au w' (aX (aj x.filter.scopes) (k+aL (am x.sset))).1 r10 f10∧ac w w' (f5++f10):=by
 subst hkk
 have hsz:=ap.sz x
 obtain ⟨p5,c5,rfl⟩:=au.slice h5
 obtain ⟨p10,c10,rfl⟩:=au.slice h10
 have hb1:Below w.heap.size w (w.alloc (.cells #[sv x.tag,.int .i64 x.kind,sv x.box,sv x.dst,.bool x.uid,(.slice p5 x.sset.length c5),.int .i64 x.op,.int .i64 x.flags,sv x.text,.bool x.filter.on,(.slice p10 x.filter.scopes.length c10)] 29)):=(Below.refl _ _).alloc (Nat.le_refl _) _
 have HA1:=aa9 (heap_alloc_new w (.cells #[sv x.tag,.int .i64 x.kind,sv x.box,sv x.dst,.bool x.uid,(.slice p5 x.sset.length c5),.int .i64 x.op,.int .i64 x.flags,sv x.text,.bool x.filter.on,(.slice p10 x.filter.scopes.length c10)] 29))
 have u5: ∀ q∈f5,q < w.heap.size:=fun q hq=>au.lt _ _ _ h5 q hq
 have I5:=aa9 (au.below h5 hb1)
 clear h5
 have u10: ∀ q∈f10,q < w.heap.size:=fun q hq=>au.lt _ _ _ h10 q hq
 have I10:=aa9 (au.below h10 hb1)
 clear h10
 obtain ⟨dd5,nd_5,rr5⟩:=fh hnd
 have d_5_10: ∀ q∈f5,q ∉ f10:=fun q hq hm=>dd5 q hq (by simp [hm])
 have d_10_5: ∀ q∈f10,q ∉ f5:=fun q hq hm=>dd5 q hm (by simp [hq])
 have nd_10:=rr5
 have hg1:ac w (w.alloc (.cells #[sv x.tag,.int .i64 x.kind,sv x.box,sv x.dst,.bool x.uid,(.slice p5 x.sset.length c5),.int .i64 x.op,.int .i64 x.flags,sv x.text,.bool x.filter.on,(.slice p10 x.filter.scopes.length c10)] 29)) (f5++f10):=ac.of_below hb1
 have hz1:w.heap.size < (w.alloc (.cells #[sv x.tag,.int .i64 x.kind,sv x.box,sv x.dst,.bool x.uid,(.slice p5 x.sset.length c5),.int .i64 x.op,.int .i64 x.flags,sv x.text,.bool x.filter.on,(.slice p10 x.filter.scopes.length c10)] 29)).heap.size:=by simp
 obtain ⟨q5,hq5⟩: ∃ q,q=k+aL (am x.sset):=⟨_,rfl⟩
 rw [←hq5] at hk
 rw [←hq5]
 have HQ5:=aa9 hq5
 obtain ⟨q10,hq10⟩: ∃ q,q=q5+aL (aj x.filter.scopes):=⟨_,rfl⟩
 rw [←hq10] at hk
 rw [←hq10]
 have HQ10:=aa9 hq10
 have hn5: ¬(q5:Int) < 0:=by omega
 have hn10: ¬(q10:Int) < 0:=by omega
 have C5:=aa9 (fun (kk:Int) (hkk:kk=(k:Int)) W (h:au W (am x.sset) (.slice p5 x.sset.length c5) f5)=>qd (.slice p5 x.sset.length c5) x.sset kk k hkk f5 W h nd_5 (by omega) (by omega))
 simp only [←hq5] at C5
 have hsz_9:=Flt.sz x.filter
 have C9:=aa9 (fun (kk:Int) (hkk:kk=(q5:Int)) W (h:au W (aj x.filter.scopes) (.slice p10 x.filter.scopes.length c10) f10)=>ox x.filter (.slice p10 x.filter.scopes.length c10) kk q5 hkk f10 W h nd_10 (by omega) (by omega))
 simp only [←hq10] at C9
 clear hk hs hsz hsz_9 hq5 hq10
 go_enter Tryz.func29,Tryz.ntmps29
 go_wp2_with fail
 refine (C5.out _ rfl _ I5.out).mono ?_
 rintro e w2 ⟨rfl,i5,g2⟩
 have hg2:=hg1.trans (g2.mono (fun q hq=>by simp [hq]))
 have HA2:=aa9 ((g2.block w.heap.size (by omega) (fun hm=>by have:=u5 _ hm;omega)).trans HA1.out)
 have hz2:=Nat.lt_of_lt_of_le hz1 g2.size
 have J10:=aa9 (au.away I10.out g2 d_10_5)
 clear I10
 have I10:=J10
 clear J10
 clear I5
 have I5:=aa9 i5
 clear i5 g2
 have y2_6:=(aa8 HA2.out 6).trans (show _=some (.int .i64 x.op) from rfl)
 have y2_7:=(aa8 HA2.out 7).trans (show _=some (.int .i64 x.flags) from rfl)
 have y2_8:=(aa8 HA2.out 8).trans (show _=some (sv x.text) from rfl)
 have y2_9:=(aa8 HA2.out 9).trans (show _=some (.bool x.filter.on) from rfl)
 have y2_10:=(aa8 HA2.out 10).trans (show _=some ((.slice p10 x.filter.scopes.length c10)) from rfl)
 go_wp2_with fail
 refine (C9.out _ rfl _ I10.out).mono ?_
 rintro e w3 ⟨rfl,i10,g3⟩
 have hg3:=hg2.trans (g3.mono (fun q hq=>by simp [hq]))
 have HA3:=aa9 ((g3.block w.heap.size (by omega) (fun hm=>by have:=u10 _ hm;omega)).trans HA2.out)
 have hz3:=Nat.lt_of_lt_of_le hz2 g3.size
 have J5:=aa9 (au.away I5.out g3 d_5_10)
 clear I5
 have I5:=J5
 clear J5
 clear I10
 have I10:=aa9 i10
 clear i10 g3
 clear y2_6 y2_7 y2_8 y2_9 y2_10
 go_wp2
 go_ret
 exact ⟨rfl,I5.out,I10.out,hg3⟩
theorem dS (x:ap) (r5:Value) (r10:Value) (kk:Int) (k:Nat) (hkk:kk=(k:Int)) (w:World) (h5:az w (aX (am x.sset) (k)).1 r5) (h10:az w (aX (aj x.filter.scopes) (k+aL (am x.sset))).1 r10) (hk:k+aL (am x.sset)+aL (aj x.filter.scopes)≤1000000000000) (hs:bg x.lf≤1000000000000):
 Calls Tryz.prog 30 #[.agg #[sv x.tag,.int .i64 x.kind,sv x.box,sv x.dst,.bool x.uid,r5,.int .i64 x.op,.int .i64 x.flags,sv x.text,.bool x.filter.on,r10],.int .i64 kk] w fun e w'=>e= .returned (.int .i64 ((k+aL (am x.sset)+aL (aj x.filter.scopes):Nat):Int))∧Below w.heap.size w w':=by
 subst hkk
 have hsz:=ap.sz x
 obtain ⟨p5,c5,rfl⟩:=jp h5
 obtain ⟨p10,c10,rfl⟩:=jp h10
 have hb1:Below w.heap.size w (w.alloc (.cells #[sv x.tag,.int .i64 x.kind,sv x.box,sv x.dst,.bool x.uid,(.slice p5 x.sset.length c5),.int .i64 x.op,.int .i64 x.flags,sv x.text,.bool x.filter.on,(.slice p10 x.filter.scopes.length c10)] 29)):=(Below.refl _ _).alloc (Nat.le_refl _) _
 have HA1:=aa9 (heap_alloc_new w (.cells #[sv x.tag,.int .i64 x.kind,sv x.box,sv x.dst,.bool x.uid,(.slice p5 x.sset.length c5),.int .i64 x.op,.int .i64 x.flags,sv x.text,.bool x.filter.on,(.slice p10 x.filter.scopes.length c10)] 29))
 have HR5:=aa9 h5
 clear h5
 have HR10:=aa9 h10
 clear h10
 obtain ⟨q5,hq5⟩: ∃ q,q=k+aL (am x.sset):=⟨_,rfl⟩
 rw [←hq5] at hk
 rw [←hq5]
 rw [←hq5] at HR10
 have hn5: ¬(q5:Int) < 0:=by omega
 obtain ⟨q10,hq10⟩: ∃ q,q=q5+aL (aj x.filter.scopes):=⟨_,rfl⟩
 rw [←hq10] at hk
 rw [←hq10]
 have hn10: ¬(q10:Int) < 0:=by omega
 have C5:=aa9 (fun (kk:Int) (hkk:kk=(k:Int)) W (h:az W (aX (am x.sset) k).1 (.slice p5 x.sset.length c5))=>qe (.slice p5 x.sset.length c5) x.sset kk k hkk W h (by omega) (by omega))
 simp only [←hq5] at C5
 have hsz_9:=Flt.sz x.filter
 have C9:=aa9 (fun (kk:Int) (hkk:kk=(q5:Int)) W (h:az W (aX (aj x.filter.scopes) q5).1 (.slice p10 x.filter.scopes.length c10))=>oy x.filter (.slice p10 x.filter.scopes.length c10) kk q5 hkk W h (by omega) (by omega))
 simp only [←hq10] at C9
 clear hk hs hsz hsz_9 hq5 hq10
 go_enter Tryz.func30,Tryz.ntmps30
 go_wp2_with fail
 refine (C5.out _ rfl _ (az.below hb1 _ _ HR5.out)).mono ?_
 rintro e w2 ⟨rfl,b2⟩
 have hb2:=hb1.trans (b2.mono hb1.size)
 have HA2:=aa9 ((b2.block w.heap.size (by simp)).trans HA1.out)
 have y2_6:=(aa8 HA2.out 6).trans (show _=some (.int .i64 x.op) from rfl)
 have y2_7:=(aa8 HA2.out 7).trans (show _=some (.int .i64 x.flags) from rfl)
 have y2_8:=(aa8 HA2.out 8).trans (show _=some (sv x.text) from rfl)
 have y2_9:=(aa8 HA2.out 9).trans (show _=some (.bool x.filter.on) from rfl)
 have y2_10:=(aa8 HA2.out 10).trans (show _=some ((.slice p10 x.filter.scopes.length c10)) from rfl)
 go_wp2_with fail
 refine (C9.out _ rfl _ (az.below hb2 _ _ HR10.out)).mono ?_
 rintro e w3 ⟨rfl,b3⟩
 have hb3:=hb2.trans (b3.mono hb2.size)
 have HA3:=aa9 ((b3.block w.heap.size (by have:=(Array.getElem?_eq_some_iff.1 HA2.out).1;omega)).trans HA2.out)
 clear y2_6 y2_7 y2_8 y2_9 y2_10
 go_wp2
 go_ret
 exact ⟨rfl,hb3⟩
deriving instance DecidableEq for Spn
deriving instance DecidableEq for ap
def ar (k:Int):Bool:=k==2 || k==11 || k==12 || k==13 || k==14 || k==10
def ay (k:Int):Bool:=k==7 || k==8 || k==10
def aG (c:ap):ap where
 tag:=c.tag
 kind:=c.kind
 box:=if ar c.kind=true then c.box else []
 dst:=if c.kind=14 then c.dst else []
 uid:=if ay c.kind=true then c.uid else false
 sset:=if ay c.kind=true then c.sset else []
 op:=if c.kind=8 then c.op else 0
 flags:=if c.kind=8∨c.kind=11 then c.flags else 0
 text:=if c.kind=11 then c.text else []
 filter:=if c.kind=6 then c.filter else ⟨false,[]⟩
abbrev bQ (c:ap) (r5 r10:Value):Value:= .agg #[sv c.tag,.int .i64 c.kind,sv c.box,sv c.dst,.bool c.uid,r5,.int .i64 c.op,.int .i64 c.flags,sv c.text,.bool c.filter.on,r10]
theorem ap.small {x:ap} (h:bg x.lf≤1048576):x.tag.length≤1048576∧x.box.length≤1048576∧x.dst.length≤1048576∧x.sset.length≤1048576∧x.text.length≤1048576∧x.filter.scopes.length≤1048576∧ ∀ s∈x.filter.scopes,s.names.length≤1048576∧ ∀ y∈s.names,y.length≤1048576:=by
 have h1:=ap.sz x
 have h2:co (am x.sset)=x.sset.length+bg (x.sset.flatMap Spn.lf):=rfl
 have h3:co (aj x.filter.scopes)=x.filter.scopes.length+bg (x.filter.scopes.flatMap Scp.lf):=rfl
 refine ⟨by omega,by omega,by omega,by omega,by omega,by omega,fun s hs=> ?_⟩
 have h4:=dy Scp.lf hs
 rw [Scp.sz,fQ] at h4
 refine ⟨by omega,fun y hy=> ?_⟩
 have:y.length≤szl s.names:=by
  clear h4 hs
  generalize s.names=l at hy
  induction l with
  | nil=>cases hy
  | cons a l ih=>
    have e:szl (a::l)=a.length+szl l:=by simp [szl]
    rcases List.mem_cons.1 hy with rfl | hy
    · omega
    · have:=ih hy;omega
 omega
def cg (c:ap):Bool:=
 jq c.tag && (decide (1≤c.kind) && decide (c.kind≤15)) && decide (aG c=c) &&
 (!ar c.kind || aH c.box) && (!(c.kind==14) || aH c.dst) && (!ay c.kind || setB c.sset) && (!(c.kind==8) || (decide (1≤c.op) && decide (c.op≤3))) &&
 flB c.flags && decide ((c.text.length:Int)≤40) && aN c.filter
def bK (x:ap) (r:Value):Value:=if ay x.kind=true then r else .slice none 0 0
def aU (x:ap) (r:Value):Value:=if x.kind=6 then r else .slice none 0 0
end Go.Proofs.YtmlgkoeacbeopaaGreatDoor
