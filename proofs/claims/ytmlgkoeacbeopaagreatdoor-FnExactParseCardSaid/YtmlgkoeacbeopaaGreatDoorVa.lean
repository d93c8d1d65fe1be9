/- Va -/
import Derived.Test.YtmlgkoeacbeopaaGreatDoorUr
import Derived.Test.YtmlgkoeacbeopaaGreatDoorUz
set_option maxHeartbeats 12800000
namespace Go.Proofs.YtmlgkoeacbeopaaGreatDoor
open Go.RowKit
theorem Rdr.belG {w0 W W':World} {g:Nat} {l:List Tok} (h:Rdr w0 W g l) (hg:ac W W' [g]):Below w0.heap.size w0 W':=ac.below h.bel hg h.bel.size (fun k hk=>by rw [List.mem_singleton.1 hk];exact h.lo)
def nM (l:List Tok) (wd:List UInt8) (u:Bool) (l2:List Tok):Prop:=(u=true∧ ∃ t,l=t::l2∧px t wd=true)∨(u=false∧l2=l∧ ∀ t r,l=t::r→px t wd=false)
theorem sx (w0 W:World) (g:Nat) (l:List Tok) (wd:List UInt8) (h:Rdr w0 W g l) (hw:wd.length≤1048576):
 Calls Tryz.prog 125 #[.pointer (some ⟨g,0,none⟩),sv wd] W (fun e w'=> ∃ u l2,e= .returned (.bool u)∧nM l wd u l2∧Rdr w0 w' g l2∧ac W w' [g]):=by
 by_cases hq: ∃ t s,l=t::s∧px t wd=true
 · obtain ⟨t,s,rfl,hk⟩:=hq
   refine (mG w0 W g t s wd h hk hw).mono ?_
   rintro e w' ⟨h1,h2,h3⟩
   exact ⟨true,s,h1,.inl ⟨rfl,t,rfl,hk⟩,h2,h3⟩
 · have hn: ∀ t r,l=t::r→px t wd=false:=fun t r hl=>by
    cases hh:px t wd with
    | false=>rfl
    | true=>exact absurd ⟨t,r,hl,hh⟩ hq
   refine (py w0 W g l wd h hn hw).mono ?_
   rintro e w' ⟨h1,h2⟩
   exact ⟨false,l,h1,.inr ⟨rfl,rfl,hn⟩,h.below h2,ac.of_below h2⟩
theorem gH {l:List Tok} (h:dH 1 l=none):aM l=none:=by
 unfold aM
 rw [←be,h]
 rfl
theorem pA {l l1 l2:List Tok} {tag:List UInt8} {u:Bool} (h1:dH 1 l=some (tag,l1)) (hs:nM l1 zH u l2):aM l=(jJ l2).bind fun z=>(bh (aV tag u z.1,z.2)).bind iR:=by
 have hw: ∀ (l2:List Tok),((aq 1 l2).bind fun z=>j6 tag u z)=(jJ l2).bind fun z=>(bh (aV tag u z.1,z.2)).bind iR:=by
  intro l2
  unfold jJ
  cases aq 1 l2 with
  | none=>rfl
  | some z=>
    simp only [Option.bind_some,j6]
    by_cases hz:bB (an z.1) 15=0
    · rw [if_pos hz,if_pos hz];rfl
    · rw [if_neg hz,if_neg hz];rfl
 unfold aM
 rw [←be,h1,Option.bind_some]
 rcases hs with ⟨rfl,t,rfl,hk⟩ | ⟨rfl,rfl,hn⟩
 · unfold px at hk
   simp only [Bool.and_eq_true,beq_iff_eq] at hk
   have h2:aq 1 (t::l2)=some (t.text,l2):=by simp [aq,hk.1]
   show (aq 1 (t::l2)).bind _=_
   rw [h2,Option.bind_some,if_pos (by rw [hk.2];exact oZ)]
   exact hw l2
 · rw [←hw l2]
   show (aq 1 l2).bind _=_
   cases h3:aq 1 l2 with
   | none=>rfl
   | some z=>
     rw [Option.bind_some,Option.bind_some,if_neg]
     intro hu
     cases l2 with
     | nil=>cases h3
     | cons t r=>
       change (if t.kind=1∧(1=1∨t.text=[]) then some (t.text,r) else none)=some z at h3
       by_cases hk:t.kind=1
       · rw [if_pos ⟨hk,.inl rfl⟩] at h3
         injection h3 with h3
         have:=hn t r rfl
         unfold px at this
         rw [←h3] at hu
         simp [hk,hu,oZ] at this
       · rw [if_neg (fun h=>hk h.1)] at h3
         cases h3
abbrev bj:Array Value:= #[sv [],.int .i64 0,sv [],sv [],.bool false,.slice none 0 0,.int .i64 0,.int .i64 0,sv [],.bool false,.slice none 0 0]
structure RdC (w0 W:World) (g b r:Nat) (l:List Tok) (B:Array Value):Prop where
 rd:Rdr w0 W g l
 blk:W.heap[b]? =some (.cells B 29 (0,0))
 res:W.heap[r]? =some (.cells bj 29 (0,0))
 lo:w0.heap.size≤r
 lt:r < b
 gr:g < r
theorem RdC.step {w0 W W':World} {g b r:Nat} {l l':List Tok} {B:Array Value} (h:RdC w0 W g b r l B) (hd:Rdr w0 W' g l') (hg:ac W W' [g]):RdC w0 W' g b r l' B:=by
 have h1:=h.gr
 have h2:=h.lt
 refine ⟨hd,(hg.block b (Array.getElem?_eq_some_iff.1 h.blk).1 (by simp;omega)).trans h.blk,(hg.block r (Array.getElem?_eq_some_iff.1 h.res).1 (by simp;omega)).trans h.res,h.lo,h.lt,h.gr⟩
theorem RdC.below {w0 W W':World} {g b r:Nat} {l:List Tok} {B:Array Value} (h:RdC w0 W g b r l B) (hb:Below W.heap.size W W'):RdC w0 W' g b r l B:=h.step (h.rd.below hb) (ac.of_below hb)
theorem RdC.setB {w0 W:World} {g b r:Nat} {l:List Tok} {B:Array Value} (h:RdC w0 W g b r l B) (j:Nat) (v:Value):RdC w0 (W.setCell ⟨b,j,none⟩ v) g b r l (B.setIfInBounds j v):=by
 have h1:=h.gr
 have h2:=h.lt
 have h3:=h.lo
 exact ⟨h.rd.other (by omega) (by omega),bz h.blk,(aD (by omega)).trans h.res,h.lo,h.lt,h.gr⟩
theorem RdC.cell {w0 W:World} {g b r:Nat} {l:List Tok} {B:Array Value} (h:RdC w0 W g b r l B) (j:Nat) (v:Value) (hv:B[j]? =some v):W.cell? ⟨b,j,none⟩=some v:=(aa8 h.blk j).trans hv
theorem RdC.free {w0 W:World} {g b r:Nat} {l:List Tok} {B:Array Value} (h:RdC w0 W g b r l B) (j:Nat):W.frozen? ⟨b,j,none⟩=false:=Lib.frozen_of_heap h.blk j
theorem RdC.rest {w0 W:World} {g b r:Nat} {l:List Tok} {B:Array Value} (h:RdC w0 W g b r l B): ∃ p c,W.cell? ⟨g,0,none⟩=some (.slice p l.length c):=by
 obtain ⟨p,c,h1,_⟩:=h.rd.blk
 exact ⟨p,c,(eF h1).1⟩
theorem eX {W:World} {lo:Nat} {v:Value} {l:List Spn} (h:W.ownsRow lo 62 2 v l.length (l.flatMap je)):cx W lo (am l) v v.ownBlock.toList:=by
 have hl: ∀ l:List Spn,bS W (l.flatMap Spn.lf) (l.flatMap je) []:=by
  intro l
  induction l with
  | nil=>exact ⟨rfl,rfl⟩
  | cons t l ih=>
    rw [List.flatMap_cons,List.flatMap_cons]
    exact ⟨_,_,[],[],rfl,⟨rfl,rfl⟩,⟨_,_,[],[],rfl,⟨rfl,rfl⟩,ih,rfl⟩,rfl⟩
 refine ⟨⟨ce Spn.len l,_,[],eV h (Nat.zero_le _),hl l,by simp⟩,?_,?_⟩
 · cases v.ownBlock <;> simp
 · intro q hq
   rcases h.2 with ⟨rfl,_⟩ | ⟨g,cap,cur,rfl,h1,_⟩
   · simp [Value.ownBlock] at hq
   · simp [Value.ownBlock] at hq
     omega
theorem bA (W:World) (lo:Nat):cx W lo (am []) (.slice none 0 0) []:=
 ⟨⟨rfl,[],[],World.ownsRow_nil _ _ _ _,⟨rfl,rfl⟩,rfl⟩,List.nodup_nil,fun _ h=>(by cases h)⟩
def aA (U:Option ap) (w0:World) (e:Ending) (w':World):Prop:=match U with
 | some c=> ∃ a5 a10 f5 f10,e= .returned (bQ c a5 a10)∧cx w' w0.heap.size (am c.sset) a5 f5∧cx w' w0.heap.size (aj c.filter.scopes) a10 f10∧(f5++f10).Nodup∧Below w0.heap.size w0 w'
 | none=>(∃ s,e= .panicked [{ v:=wX s,recovered:=false }])∧Below w0.heap.size w0 w'
theorem aA.none_ {w0:World} {e:Ending} {w':World} (h:(∃ s,e= .panicked [{ v:=wX s,recovered:=false }])∧Below w0.heap.size w0 w'):aA none w0 e w':=h
theorem aA.some_ {c:ap} {w0:World} {e:Ending} {w':World} (h: ∃ a5 a10 f5 f10,e= .returned (bQ c a5 a10)∧cx w' w0.heap.size (am c.sset) a5 f5∧cx w' w0.heap.size (aj c.filter.scopes) a10 f10∧(f5++f10).Nodup∧Below w0.heap.size w0 w'):aA (some c) w0 e w':=h
theorem fy {c:ap} {t:Tok} {r:List Tok} :iR (c,t::r)=none:=if_neg (fun h=>by cases h.1)
theorem dW {c:ap} (h:cg c=true):iR (c,[])=some c:=if_pos ⟨rfl,h⟩
theorem dX {c:ap} (h:cg c=false):iR (c,[])=none:=if_neg (fun hh=>by rw [h] at hh;cases hh.2)
theorem sy {l r:List Tok} {k:Int} (h:jJ l=some (k,r)):(1≤k∧k≤15)∧tsz r≤tsz l:=by
 unfold jJ at h
 obtain ⟨z,h1,h2⟩:=Option.bind_eq_some_iff.1 h
 have e1:=bN (show aq 1 l=some (z.1,z.2) from h1)
 by_cases hz:bB (an z.1) 15=0
 · rw [if_pos hz] at h2;cases h2
 · rw [if_neg hz] at h2
   injection h2 with h2
   injection h2 with h3 h4
   subst h3 h4
   refine ⟨?_,by omega⟩
   rcases gz (u:=an z.1) 15 with h5 | ⟨h5,h6,_⟩
   · exact absurd h5 hz
   · exact ⟨h5,by omega⟩
theorem wF {l l2:List Tok} {wd:List UInt8} {u:Bool} (h:nM l wd u l2):tsz l2≤tsz l:=by
 rcases h with ⟨_,t,rfl,_⟩ | ⟨_,rfl,_⟩
 · show tsz l2≤1+t.text.length+tsz l2
   omega
 · exact Nat.le_refl _
theorem xS {l l2:List Tok} {wd:List UInt8} {u:Bool} (h:nM l wd u l2) (ht:cK l):cK l2:=by
 rcases h with ⟨_,t,rfl,_⟩ | ⟨_,rfl,_⟩
 · exact fun x hx=>ht x (by simp [hx])
 · exact ht
theorem wG {l r:List Tok} {k:Int} (h:jJ l=some (k,r)) (ht:cK l):cK r:=by
 unfold jJ at h
 obtain ⟨z,h1,h2⟩:=Option.bind_eq_some_iff.1 h
 have e1:=es (show aq 1 l=some (z.1,z.2) from h1) ht
 by_cases hz:bB (an z.1) 15=0
 · rw [if_pos hz] at h2;cases h2
 · rw [if_neg hz] at h2
   injection h2 with h2
   injection h2 with _ h4
   rw [←h4]
   exact e1.2
theorem qD {l r:List Tok} {s:List Spn} (h:setK l=some (s,r)): ∀ x∈s,bW x.low∧bW x.high:=by
 unfold setK at h
 obtain ⟨z,h1,h2⟩:=Option.bind_eq_some_iff.1 h
 obtain ⟨s',h3,h4⟩:=Option.map_eq_some_iff.1 h2
 injection h4 with h5 h6
 subst h5
 intro x hx
 have h7:=(cX (eU h3).1).1 x hx
 unfold kF kE at h7
 simp only [Bool.and_eq_true,decide_eq_true_eq] at h7
 unfold bW
 omega
theorem sA {l r:List Tok} {f:Flt} (h:eC l=some (f,r)): ∀ s∈f.scopes,bW s.kind∧bW s.events:=by
 unfold eC at h
 obtain ⟨s',h3,h4⟩:=Option.map_eq_some_iff.1 h
 injection h4 with h5 h6
 subst h5
 intro s hs
 have h7:=jI h3
 unfold aN at h7
 simp only [Bool.and_eq_true,List.all_eq_true] at h7
 have h8:=h7.1 s hs
 unfold bp at h8
 simp only [Bool.and_eq_true,decide_eq_true_eq] at h8
 unfold bW
 omega
theorem ze {l r:List Tok} {n:Int} (h:opK l=some (n,r)):bW n:=by
 unfold opK at h
 obtain ⟨z,h1,h2⟩:=Option.bind_eq_some_iff.1 h
 obtain ⟨s',h3,h4⟩:=Option.map_eq_some_iff.1 h2
 injection h4 with h5 h6
 subst h5
 unfold lN at h3
 unfold bW
 split at h3
 · injection h3 with h3;omega
 · split at h3
   · injection h3 with h3;omega
   · split at h3
     · injection h3 with h3;omega
     · cases h3
theorem xT (w:List UInt8):nP w≤16:=fT w 5 (by omega)
theorem wY: ∀ (ws:List (List UInt8)) (a n:Nat),a < 32→rdF a ws=some n→n < 32
 | [],a,n,ha,h=>by injection h with h;omega
 | w::r,a,n,ha,h=>by
   change (if nP w=0∨a &&& nP w ≠ 0 then none else rdF (a ||| nP w) r)=some n at h
   by_cases hc:nP w=0∨a &&& nP w ≠ 0
   · rw [if_pos hc] at h;cases h
   · rw [if_neg hc] at h
     refine wY r _ n ?_ h
     exact Nat.or_lt_two_pow (n:=5) ha (by have:=xT w;omega)
theorem pB {l r:List Tok} {n:Int} (h:ch l=some (n,r)):bW n:=by
 unfold ch at h
 obtain ⟨z,h1,h2⟩:=Option.bind_eq_some_iff.1 h
 obtain ⟨s',h3,h4⟩:=Option.map_eq_some_iff.1 h2
 injection h4 with h5 h6
 subst h5
 have:=wY _ _ _ (by omega) h3
 unfold bW
 omega
theorem ap.bnd_of {c:ap} (hs:bg c.lf≤1048576) (hk:bW c.kind) (ho:bW c.op) (hf:bW c.flags) (hsp: ∀ s∈c.sset,bW s.low∧bW s.high) (hsc: ∀ s∈c.filter.scopes,bW s.kind∧bW s.events):bs c.lf:=by
 obtain ⟨z1,z2,z3,z5,z8,z9,z10⟩:=ap.small hs
 have fl: ∀ {α:Type} (enc:α→List Lf) (l:List α),(∀ x∈l,bs (enc x))→bs (l.flatMap enc):=by
  intro α enc l
  induction l with
  | nil=>intro _;trivial
  | cons a l ih=>
    intro h
    rw [List.flatMap_cons]
    exact bs.append.2 ⟨h a (by simp),ih (fun x hx=>h x (by simp [hx]))⟩
 have ms: ∀ l:List (List UInt8),(∀ x∈l,x.length≤1048576)→bs (l.map Lf.str):=by
  intro l
  induction l with
  | nil=>intro _;trivial
  | cons a l ih=>
    intro h
    exact ⟨Nat.le_trans (h a (by simp)) (by omega),ih (fun x hx=>h x (by simp [hx]))⟩
 refine ⟨Nat.le_trans z1 (by omega),hk,Nat.le_trans z2 (by omega),Nat.le_trans z3 (by omega),trivial,⟨Nat.le_trans z5 (by omega),fl _ _ (fun x hx=>⟨(hsp x hx).1,(hsp x hx).2,trivial⟩)⟩,ho,hf,Nat.le_trans z8 (by omega),trivial,⟨Nat.le_trans z9 (by omega),fl _ _ (fun x hx=>⟨(hsc x hx).1,⟨Nat.le_trans (z10 x hx).1 (by omega),ms _ (z10 x hx).2⟩,(hsc x hx).2,trivial⟩)⟩,trivial⟩
theorem ak {P:Program} {ops:Array Oper} {rest:List Oper} {o:Oper} {a:Act} {w:World} {Q:Exit→Act→World→Prop} (hgd:o.guard=none) (ty:TypeId) (x y:Operand) (ho:o.op= .store ty x y)
 (g:Nat) (cells:Array Value) (hx:a.eval x= .pointer (some ⟨g,0,none⟩)) (hy:a.eval y= .agg cells)
 (t:TypeId) (old:Array Value) (hg:w.heap[g]? =some (.cells old t (0,0))) (hi:(P.info? ty).map (·.size)=some cells.size)
 (hold:old.size=cells.size) (h1:cells.all (·.oneCell')=true)
 (h: ∀ X,X=w.setRow g cells→wpList P ops Q rest (a.put o.dst undef) X):wpList P ops Q (o::rest) a w:=
 wpList_plain hgd fun _ hK=>ax ty x y ho g cells hx hy t old hg hi hold h1 (fun X hX=>hK _ _ (h X hX))
set_option maxRecDepth 20000 in
theorem nN (w0 W:World) (g:Nat) (l:List Tok) (hTM:TM w0) (hFw:Fw w0) (hEw:Ew w0) (h:Rdr w0 W g l) (hsz:zN l):
 Calls Tryz.prog 66 #[.pointer (some ⟨g,0,none⟩)] W (aA (aM l) w0):=by
 have hg:=h.lt
 have hlo:=h.bel.size
 have hX:Below W.heap.size W (W.alloc (.cells bj 29)):=(Below.refl _ _).alloc (Nat.le_refl _) _
 have H0:=aa9 (h.below hX)
 have C0:=aa9 (cL w0 _ g l 1 H0.out)
 have HR0:=aa9 (show (W.alloc (.cells bj 29)).heap[W.heap.size]? =some (.cells bj 29 (0,0)) from heap_alloc_new W _)
 clear h hX
 go_enter Tryz.func66,Tryz.ntmps66
 go_wp2_with fail
 refine C0.out.mono ?_
 intro e w1 hp
 cases hU:dH 1 l with
 | none=>
   rw [hU] at hp
   obtain ⟨⟨s,rfl⟩,hg1⟩:=hp
   exact ⟨rfl,by rw [gH hU];exact aA.none_ ⟨⟨_,rfl⟩,H0.out.belG hg1⟩⟩
 | some z=>
 obtain ⟨tag,l1⟩:=z
 have hts1:=ph hU
 rw [hU] at hp
 obtain ⟨v,rfl,rfl,hd1,hg1⟩:=hp
 have hz1:W.heap.size+1≤w1.heap.size:=by have:=hg1.size;simpa using this
 have hres1:w1.heap[W.heap.size]? =some (.cells bj 29 (0,0)):=(hg1.block W.heap.size (by simp) (by simp;omega)).trans HR0.out
 have K1:=aa9 (show RdC w0 (w1.alloc (.cells #[sv tag,.int .i64 0,sv [],sv [],.bool false,.slice none 0 0,.int .i64 0,.int .i64 0,sv [],.bool false,.slice none 0 0] 29)) g w1.heap.size W.heap.size l1 #[sv tag,.int .i64 0,sv [],sv [],.bool false,.slice none 0 0,.int .i64 0,.int .i64 0,sv [],.bool false,.slice none 0 0] from
  ⟨hd1.below ((Below.refl _ _).alloc (Nat.le_refl _) _),heap_alloc_new w1 _,(Below.heap_alloc w1 _ _ (by omega)).trans hres1,hlo,by omega,hg⟩)
 have C1:=aa9 (sx w0 _ g l1 zH K1.out.rd (by decide))
 have HU:=aa9 hU
 have HTS1:=aa9 hts1
 clear hU hd1 hg1 hres1 hts1 C0 HR0 H0
 generalize hbb:w1.heap.size=b at *
 generalize hrr:W.heap.size=r at *
 go_wp2_with fail
 refine C1.out.mono ?_
 rintro e w2 ⟨u,l2,rfl,hsr,hd2,hg2⟩
 have K2:=aa9 (K1.out.step hd2 hg2)
 have HSR:=aa9 hsr
 have hs4:=K2.out.cell 4 (.bool false) rfl
 have hf4:=K2.out.free 4
 have K2s:=aa9 (show RdC w0 (w2.setCell ⟨b,4,none⟩ (.bool u)) g b r l2 #[sv tag,.int .i64 0,sv [],sv [],.bool u,.slice none 0 0,.int .i64 0,.int .i64 0,sv [],.bool false,.slice none 0 0] from K2.out.setB 4 (.bool u))
 have C2:=aa9 (sw w0 _ g l2 K2s.out.rd)
 clear hsr hd2 hg2 C1 K1
 go_wp2_with fail
 refine C2.out.mono ?_
 intro e w3 hp
 cases hU:jJ l2 with
 | none=>
   rw [hU] at hp
   obtain ⟨⟨s,rfl⟩,hg1⟩:=hp
   exact ⟨rfl,by rw [pA HU.out HSR.out,hU];exact aA.none_ ⟨⟨_,rfl⟩,K2s.out.rd.belG hg1⟩⟩
 | some z=>
 obtain ⟨k,l3⟩:=z
 obtain ⟨hk15,hts3⟩:=sy hU
 have HP:=aa9 (show aM l=(bh (aV tag u k,l3)).bind iR by rw [pA HU.out HSR.out,hU];rfl)
 have HTS3:=aa9 (show tag.length+tsz l3≤tsz l by have:=HTS1.out;have:=wF HSR.out;omega)
 have HLE:=aa9 (show cK l→tag.length≤1000∧cK l3 from fun ht=>by
  obtain ⟨e1,e2⟩:=nJ HU.out ht
  exact ⟨e1,wG hU (xS HSR.out e2)⟩)
 rw [hU] at hp
 obtain ⟨v,rfl,rfl,hd3,hg3⟩:=hp
 have K3:=aa9 (K2s.out.step hd3 hg3)
 have hs1:=K3.out.cell 1 (.int .i64 0) rfl
 have hf1:=K3.out.free 1
 have K3s:=aa9 (show RdC w0 (w3.setCell ⟨b,1,none⟩ (.int .i64 k)) g b r l3 #[sv tag,.int .i64 k,sv [],sv [],.bool u,.slice none 0 0,.int .i64 0,.int .i64 0,sv [],.bool false,.slice none 0 0] from K3.out.setB 1 (.int .i64 k))
 clear hd3 hg3 C2 K2 K2s hs4 hf4 hU
 go_upto_region 5 with fail
 refine aw ?_
 intro X hX
 have K4:=aa9 (show RdC w0 X g b r l3 #[sv tag,.int .i64 k,sv [],sv [],.bool u,.slice none 0 0,.int .i64 0,.int .i64 0,sv [],.bool false,.slice none 0 0] from by rw [hX];exact K3s.out)
 clear hX K3 K3s hs1 hf1 HU HTS1 HSR
 have hgrp:(k=1∨k=3∨k=4∨k=5∨k=9∨k=15)∨(k=2∨k=12∨k=13)∨(k=14)∨(k=11)∨(k=7)∨(k=10)∨(k=8)∨(k=6):=by omega
 rcases hgrp with hk | hk | hk | hk | hk | hk | hk | hk
 ·
  have t2:(k==2)=false:=cFalse (by omega)
  have t12:(k==12)=false:=cFalse (by omega)
  have t13:(k==13)=false:=cFalse (by omega)
  have t14:(k==14)=false:=cFalse (by omega)
  have t11:(k==11)=false:=cFalse (by omega)
  have t7:(k==7)=false:=cFalse (by omega)
  have t10:(k==10)=false:=cFalse (by omega)
  have t8:(k==8)=false:=cFalse (by omega)
  have t6:(k==6)=false:=cFalse (by omega)
  have HQ:=aa9 (show aM l=(some (aV tag u k,l3)).bind iR from by rw [HP.out,mz hk])
  have HRP:=aa9 (show bh (aV tag u k,l3)=some (aV tag u k,l3) from mz hk _)
  have hkr:bW k:=by unfold bW;omega
  clear HP hk
  have HE:=aa9 (show aM l=iR ((aV tag u k:ap),l3) from by rw [HQ.out];rfl)
  have hsm:bg (aV tag u k:ap).lf≤1048576:=db hsz (show bh (aV tag u k,l3)=some ((aV tag u k:ap),l3) from by rw [HRP.out]) HTS3.out HLE.out
  have hbd:bs (aV tag u k:ap).lf:=ap.bnd_of hsm hkr (show bW 0 from by unfold bW;omega) (show bW 0 from by unfold bW;omega) (fun s h=>by cases h) (fun s h=>by cases h)
  have HSM:=aa9 hsm
  have HBD:=aa9 hbd
  clear hsm hbd HQ HTS3
  go_upto_region 21 with fail
  refine aw ?_
  intro Y hY
  have KF:=aa9 (show RdC w0 Y g b r l3 #[sv tag,.int .i64 k,sv [],sv [],.bool u,.slice none 0 0,.int .i64 0,.int .i64 0,sv [],.bool false,.slice none 0 0] from by rw [hY];exact K4.out)
  clear hY
  obtain ⟨pr,cr,hrest⟩:=KF.out.rest
  cases hl:l3 with
  | cons tt rr=>
    rw [hl] at hrest HE
    have hrest2:Y.cell? ⟨g,0,none⟩=some (.slice pr (rr.length+1) cr):=hrest
    have hne0:(((rr.length+1:Nat):Int)==0)=false:=cFalse (by omega)
    clear hrest
    go_wp2_with fail
    refine (aP _ _).mono ?_
    rintro e y9 ⟨rfl,rfl⟩
    exact ⟨rfl,by rw [HE.out,fy];exact aA.none_ ⟨⟨_,rfl⟩,KF.out.rd.bel⟩⟩
  | nil=>
    rw [hl] at hrest HE
    have hrest2:Y.cell? ⟨g,0,none⟩=some (.slice pr 0 cr):=hrest
    have COK:=aa9 (show Calls Tryz.prog 13 #[.agg #[sv tag,.int .i64 k,sv [],sv [],.bool u,.slice none 0 0,.int .i64 0,.int .i64 0,sv [],.bool false,.slice none 0 0]] Y _ from bn (aV tag u k) (.slice none 0 0) (.slice none 0 0) Y (bA Y 0).rd (aC Y 0).rd HSM.out HBD.out)
    have g0:=KF.out.cell 0 (sv tag) rfl
    have g1:=KF.out.cell 1 (.int .i64 k) rfl
    have g2:=KF.out.cell 2 (sv []) rfl
    have g3:=KF.out.cell 3 (sv []) rfl
    have g4:=KF.out.cell 4 (.bool u) rfl
    have g5:=KF.out.cell 5 (.slice none 0 0) rfl
    have g6:=KF.out.cell 6 (.int .i64 0) rfl
    have g7:=KF.out.cell 7 (.int .i64 0) rfl
    have g8:=KF.out.cell 8 (sv []) rfl
    have g9:=KF.out.cell 9 (.bool false) rfl
    have g10:=KF.out.cell 10 (.slice none 0 0) rfl
    clear hrest hl
    go_wp2_with fail
    refine (aI _ _).mono ?_
    rintro e y9 ⟨rfl,rfl⟩
    go_wp2_with fail
    refine COK.out.mono ?_
    rintro e y9 ⟨rfl,b9⟩
    have K9:=aa9 (KF.out.below b9)
    clear g0 g1 g2 g3 g4 g5 g6 g7 g8 g9 g10 b9 hrest2 COK
    have g0:=K9.out.cell 0 (sv tag) rfl
    have g1:=K9.out.cell 1 (.int .i64 k) rfl
    have g2:=K9.out.cell 2 (sv []) rfl
    have g3:=K9.out.cell 3 (sv []) rfl
    have g4:=K9.out.cell 4 (.bool u) rfl
    have g5:=K9.out.cell 5 (.slice none 0 0) rfl
    have g6:=K9.out.cell 6 (.int .i64 0) rfl
    have g7:=K9.out.cell 7 (.int .i64 0) rfl
    have g8:=K9.out.cell 8 (sv []) rfl
    have g9:=K9.out.cell 9 (.bool false) rfl
    have g10:=K9.out.cell 10 (.slice none 0 0) rfl
    cases hok:cg (aV tag u k) with
    | false=>
      go_wp2_with fail
      refine (aP _ _).mono ?_
      rintro e y9 ⟨rfl,rfl⟩
      exact ⟨rfl,by rw [HE.out,dX hok];exact aA.none_ ⟨⟨_,rfl⟩,K9.out.rd.bel⟩⟩
    | true=>
      have HE2:=aa9 (show aM l=some _ from by rw [HE.out];exact dW hok)
      clear hok HE
      go_wp2_with fail
      refine (aI _ _).mono ?_
      rintro e y8 ⟨rfl,rfl⟩
      go_wp2_with (refine ak rfl _ _ _ rfl r #[sv tag,.int .i64 k,sv [],sv [],.bool u,.slice none 0 0,.int .i64 0,.int .i64 0,sv [],.bool false,.slice none 0 0] (by rfl) (by rfl) _ _ K9.out.res (by kernel_rfl) rfl (by simp [Value.oneCell',sv]) ?_)
      obtain ⟨Z,hZ⟩: ∃ Z,Z=y9.setRow r #[sv tag,.int .i64 k,sv [],sv [],.bool u,.slice none 0 0,.int .i64 0,.int .i64 0,sv [],.bool false,.slice none 0 0]:=⟨_,rfl⟩
      rw [←hZ]
      have hzr:Z.heap[r]? =some (.cells #[sv tag,.int .i64 k,sv [],sv [],.bool u,.slice none 0 0,.int .i64 0,.int .i64 0,sv [],.bool false,.slice none 0 0] 29 (0,0)):=by rw [hZ];exact setRow_heap _ _ _ _ _ _ K9.out.res
      have hgz:ac y9 Z [r]:=by rw [hZ];exact ⟨rfl,rfl,rfl,by simp [World.setRow],fun k _ hk=>setRow_other _ _ _ _ (by simpa using hk)⟩
      obtain ⟨q0,q1,q2,q3,q4,q5,q6,q7,q8,q9,q10⟩:=cC11 hzr
      have HGZ:=aa9 hgz
      clear g0 g1 g2 g3 g4 g5 g6 g7 g8 g9 g10 hZ hzr hgz
      refine bodyPost_ret (v:= .agg #[sv tag,.int .i64 k,sv [],sv [],.bool u,.slice none 0 0,.int .i64 0,.int .i64 0,sv [],.bool false,.slice none 0 0]) (by simp [results,Tryz.results66,go_sem,q0,q1,q2,q3,q4,q5,q6,q7,q8,q9,q10]) rfl ?_
      rw [HE2.out]
      exact aA.some_ ⟨_,_,[],[],rfl,bA _ _,aC _ _,List.nodup_nil,ac.below K9.out.rd.bel HGZ.out K9.out.rd.bel.size (fun k hk=>by rw [List.mem_singleton.1 hk];exact K9.out.lo)⟩
 ·
  have t14:(k==14)=false:=cFalse (by omega)
  have t11:(k==11)=false:=cFalse (by omega)
  have t7:(k==7)=false:=cFalse (by omega)
  have t10:(k==10)=false:=cFalse (by omega)
  have t8:(k==8)=false:=cFalse (by omega)
  have t6:(k==6)=false:=cFalse (by omega)
  have ht:(k==2)=true∨((k==2)=false∧(k==12)=true)∨((k==2)=false∧(k==12)=false∧(k==13)=true):=by
   rcases hk with rfl | rfl | rfl <;> decide
  have HQ:=aa9 (show aM l=(fY (aV tag u k) l3).bind iR from by rw [HP.out,pa hk])
  have HRP:=aa9 (show bh (aV tag u k,l3)=fY (aV tag u k) l3 from pa hk _)
  have hkr:bW k:=by unfold bW;omega
  clear HP hk
  rcases ht with t2 | ⟨t2,t12⟩ | ⟨t2,t12,t13⟩
  all_goals
   have D0:=aa9 (cL w0 _ g l3 1 K4.out.rd)
   go_wp2_with fail
   refine D0.out.mono ?_
   intro e y0 hp
   cases hV0:dH 1 l3 with
   | none=>
     rw [hV0] at hp
     obtain ⟨⟨s,rfl⟩,hg1⟩:=hp
     exact ⟨rfl,by rw [HQ.out];unfold fY;rw [←be,hV0];exact aA.none_ ⟨⟨_,rfl⟩,K4.out.rd.belG hg1⟩⟩
   | some z=>
   obtain ⟨x0,m0⟩:=z
   rw [hV0] at hp
   obtain ⟨v,rfl,rfl,hd,hgw⟩:=hp
   have J0:=aa9 (K4.out.step hd hgw)
   have hbl0:b < X.heap.size:=(Array.getElem?_eq_some_iff.1 K4.out.blk).1
   clear hd hgw D0
   have HE:=aa9 (show aM l=iR (({ aV tag u k with box:=x0 } :ap),m0) from by rw [HQ.out];unfold fY;rw [←be,hV0,Option.map_some];rfl)
   have hsm:bg ({ aV tag u k with box:=x0 } :ap).lf≤1048576:=db hsz (show bh (aV tag u k,l3)=some (({ aV tag u k with box:=x0 } :ap),m0) from by rw [HRP.out];unfold fY;rw [←be,hV0,Option.map_some]) HTS3.out HLE.out
   have hbd:bs ({ aV tag u k with box:=x0 } :ap).lf:=ap.bnd_of hsm hkr (show bW 0 from by unfold bW;omega) (show bW 0 from by unfold bW;omega) (fun s h=>by cases h) (fun s h=>by cases h)
   have HSM:=aa9 hsm
   have HBD:=aa9 hbd
   clear hsm hbd HQ HTS3 hV0
   have hc2:=J0.out.cell 2 (sv []) rfl
   have hz2:=J0.out.free 2
   go_upto_region 21 with fail
   refine aw ?_
   intro Y hY
   have KF:=aa9 (show RdC w0 Y g b r m0 #[sv tag,.int .i64 k,sv x0,sv [],.bool u,.slice none 0 0,.int .i64 0,.int .i64 0,sv [],.bool false,.slice none 0 0] from by rw [hY];exact (J0.out.setB 2 (sv x0)))
   clear hY hc2 hz2
   obtain ⟨pr,cr,hrest⟩:=KF.out.rest
   cases hl:m0 with
   | cons tt rr=>
     rw [hl] at hrest HE
     have hrest2:Y.cell? ⟨g,0,none⟩=some (.slice pr (rr.length+1) cr):=hrest
     have hne0:(((rr.length+1:Nat):Int)==0)=false:=cFalse (by omega)
     clear hrest
     go_wp2_with fail
     refine (aP _ _).mono ?_
     rintro e y9 ⟨rfl,rfl⟩
     exact ⟨rfl,by rw [HE.out,fy];exact aA.none_ ⟨⟨_,rfl⟩,KF.out.rd.bel⟩⟩
   | nil=>
     rw [hl] at hrest HE
     have hrest2:Y.cell? ⟨g,0,none⟩=some (.slice pr 0 cr):=hrest
     have COK:=aa9 (show Calls Tryz.prog 13 #[.agg #[sv tag,.int .i64 k,sv x0,sv [],.bool u,.slice none 0 0,.int .i64 0,.int .i64 0,sv [],.bool false,.slice none 0 0]] Y _ from bn ({ aV tag u k with box:=x0 }) (.slice none 0 0) (.slice none 0 0) Y (bA Y 0).rd (aC Y 0).rd HSM.out HBD.out)
     have g0:=KF.out.cell 0 (sv tag) rfl
     have g1:=KF.out.cell 1 (.int .i64 k) rfl
     have g2:=KF.out.cell 2 (sv x0) rfl
     have g3:=KF.out.cell 3 (sv []) rfl
     have g4:=KF.out.cell 4 (.bool u) rfl
     have g5:=KF.out.cell 5 (.slice none 0 0) rfl
     have g6:=KF.out.cell 6 (.int .i64 0) rfl
     have g7:=KF.out.cell 7 (.int .i64 0) rfl
     have g8:=KF.out.cell 8 (sv []) rfl
     have g9:=KF.out.cell 9 (.bool false) rfl
     have g10:=KF.out.cell 10 (.slice none 0 0) rfl
     clear hrest hl
     go_wp2_with fail
     refine (aI _ _).mono ?_
     rintro e y9 ⟨rfl,rfl⟩
     go_wp2_with fail
     refine COK.out.mono ?_
     rintro e y9 ⟨rfl,b9⟩
     have K9:=aa9 (KF.out.below b9)
     clear g0 g1 g2 g3 g4 g5 g6 g7 g8 g9 g10 b9 hrest2 COK
     have g0:=K9.out.cell 0 (sv tag) rfl
     have g1:=K9.out.cell 1 (.int .i64 k) rfl
     have g2:=K9.out.cell 2 (sv x0) rfl
     have g3:=K9.out.cell 3 (sv []) rfl
     have g4:=K9.out.cell 4 (.bool u) rfl
     have g5:=K9.out.cell 5 (.slice none 0 0) rfl
     have g6:=K9.out.cell 6 (.int .i64 0) rfl
     have g7:=K9.out.cell 7 (.int .i64 0) rfl
     have g8:=K9.out.cell 8 (sv []) rfl
     have g9:=K9.out.cell 9 (.bool false) rfl
     have g10:=K9.out.cell 10 (.slice none 0 0) rfl
     cases hok:cg ({ aV tag u k with box:=x0 }) with
     | false=>
       go_wp2_with fail
       refine (aP _ _).mono ?_
       rintro e y9 ⟨rfl,rfl⟩
       exact ⟨rfl,by rw [HE.out,dX hok];exact aA.none_ ⟨⟨_,rfl⟩,K9.out.rd.bel⟩⟩
     | true=>
       have HE2:=aa9 (show aM l=some _ from by rw [HE.out];exact dW hok)
       clear hok HE
       go_wp2_with fail
       refine (aI _ _).mono ?_
       rintro e y8 ⟨rfl,rfl⟩
       go_wp2_with (refine ak rfl _ _ _ rfl r #[sv tag,.int .i64 k,sv x0,sv [],.bool u,.slice none 0 0,.int .i64 0,.int .i64 0,sv [],.bool false,.slice none 0 0] (by rfl) (by rfl) _ _ K9.out.res (by kernel_rfl) rfl (by simp [Value.oneCell',sv]) ?_)
       obtain ⟨Z,hZ⟩: ∃ Z,Z=y9.setRow r #[sv tag,.int .i64 k,sv x0,sv [],.bool u,.slice none 0 0,.int .i64 0,.int .i64 0,sv [],.bool false,.slice none 0 0]:=⟨_,rfl⟩
       rw [←hZ]
       have hzr:Z.heap[r]? =some (.cells #[sv tag,.int .i64 k,sv x0,sv [],.bool u,.slice none 0 0,.int .i64 0,.int .i64 0,sv [],.bool false,.slice none 0 0] 29 (0,0)):=by rw [hZ];exact setRow_heap _ _ _ _ _ _ K9.out.res
       have hgz:ac y9 Z [r]:=by rw [hZ];exact ⟨rfl,rfl,rfl,by simp [World.setRow],fun k _ hk=>setRow_other _ _ _ _ (by simpa using hk)⟩
       obtain ⟨q0,q1,q2,q3,q4,q5,q6,q7,q8,q9,q10⟩:=cC11 hzr
       have HGZ:=aa9 hgz
       clear g0 g1 g2 g3 g4 g5 g6 g7 g8 g9 g10 hZ hzr hgz
       refine bodyPost_ret (v:= .agg #[sv tag,.int .i64 k,sv x0,sv [],.bool u,.slice none 0 0,.int .i64 0,.int .i64 0,sv [],.bool false,.slice none 0 0]) (by simp [results,Tryz.results66,go_sem,q0,q1,q2,q3,q4,q5,q6,q7,q8,q9,q10]) rfl ?_
       rw [HE2.out]
       exact aA.some_ ⟨_,_,[],[],rfl,bA _ _,aC _ _,List.nodup_nil,ac.below K9.out.rd.bel HGZ.out K9.out.rd.bel.size (fun k hk=>by rw [List.mem_singleton.1 hk];exact K9.out.lo)⟩
 ·
  subst hk
  have HQ:=aa9 (show aM l=(eD (aV tag u 14) l3).bind iR from by rw [HP.out,pb])
  have HRP:=aa9 (show bh (aV tag u 14,l3)=eD (aV tag u 14) l3 from pb _ _ _)
  clear HP
  have D0:=aa9 (cL w0 _ g l3 1 K4.out.rd)
  go_wp2_with fail
  refine D0.out.mono ?_
  intro e y0 hp
  cases hV0:dH 1 l3 with
  | none=>
    rw [hV0] at hp
    obtain ⟨⟨s,rfl⟩,hg1⟩:=hp
    exact ⟨rfl,by rw [HQ.out];unfold eD;rw [←be,hV0];exact aA.none_ ⟨⟨_,rfl⟩,K4.out.rd.belG hg1⟩⟩
  | some z=>
  obtain ⟨x0,m0⟩:=z
  rw [hV0] at hp
  obtain ⟨v,rfl,rfl,hd,hgw⟩:=hp
  have J0:=aa9 (K4.out.step hd hgw)
  have hbl0:b < X.heap.size:=(Array.getElem?_eq_some_iff.1 K4.out.blk).1
  clear hd hgw D0
  have D1:=aa9 (cL w0 _ g m0 1 J0.out.rd)
  go_wp2_with fail
  refine D1.out.mono ?_
  intro e y1 hp
  cases hV1:dH 1 m0 with
  | none=>
    rw [hV1] at hp
    obtain ⟨⟨s,rfl⟩,hg1⟩:=hp
    exact ⟨rfl,by rw [HQ.out];unfold eD;rw [←be,hV0,Option.bind_some,←be,hV1];exact aA.none_ ⟨⟨_,rfl⟩,J0.out.rd.belG hg1⟩⟩
  | some z=>
  obtain ⟨x1,m1⟩:=z
  rw [hV1] at hp
  obtain ⟨v,rfl,rfl,hd,hgw⟩:=hp
  have J1:=aa9 (J0.out.step hd hgw)
  have hbl1:b < y0.heap.size:=(Array.getElem?_eq_some_iff.1 J0.out.blk).1
  clear hd hgw D1
  have HE:=aa9 (show aM l=iR (({ aV tag u 14 with box:=x0,dst:=x1 } :ap),m1) from by rw [HQ.out];unfold eD;rw [←be,hV0,Option.bind_some,←be,hV1,Option.map_some];rfl)
  have hsm:bg ({ aV tag u 14 with box:=x0,dst:=x1 } :ap).lf≤1048576:=db hsz (show bh (aV tag u 14,l3)=some (({ aV tag u 14 with box:=x0,dst:=x1 } :ap),m1) from by rw [HRP.out];unfold eD;rw [←be,hV0,Option.bind_some,←be,hV1,Option.map_some]) HTS3.out HLE.out
  have hbd:bs ({ aV tag u 14 with box:=x0,dst:=x1 } :ap).lf:=ap.bnd_of hsm (show bW 14 from by unfold bW;omega) (show bW 0 from by unfold bW;omega) (show bW 0 from by unfold bW;omega) (fun s h=>by cases h) (fun s h=>by cases h)
  have HSM:=aa9 hsm
  have HBD:=aa9 hbd
  clear hsm hbd HQ HTS3 hV0 hV1
  have hc2:=J1.out.cell 2 (sv []) rfl
  have hz2:=J1.out.free 2
  have hc3:=J1.out.cell 3 (sv []) rfl
  have hz3:=J1.out.free 3
  go_upto_region 21 with fail
  refine aw ?_
  intro Y hY
  have KF:=aa9 (show RdC w0 Y g b r m1 #[sv tag,.int .i64 14,sv x0,sv x1,.bool u,.slice none 0 0,.int .i64 0,.int .i64 0,sv [],.bool false,.slice none 0 0] from by rw [hY];exact ((J1.out.setB 2 (sv x0)).setB 3 (sv x1)))
  clear hY hc2 hz2 hc3 hz3
  obtain ⟨pr,cr,hrest⟩:=KF.out.rest
  cases hl:m1 with
  | cons tt rr=>
    rw [hl] at hrest HE
    have hrest2:Y.cell? ⟨g,0,none⟩=some (.slice pr (rr.length+1) cr):=hrest
    have hne0:(((rr.length+1:Nat):Int)==0)=false:=cFalse (by omega)
    clear hrest
    go_wp2_with fail
    refine (aP _ _).mono ?_
    rintro e y9 ⟨rfl,rfl⟩
    exact ⟨rfl,by rw [HE.out,fy];exact aA.none_ ⟨⟨_,rfl⟩,KF.out.rd.bel⟩⟩
  | nil=>
    rw [hl] at hrest HE
    have hrest2:Y.cell? ⟨g,0,none⟩=some (.slice pr 0 cr):=hrest
    have COK:=aa9 (show Calls Tryz.prog 13 #[.agg #[sv tag,.int .i64 14,sv x0,sv x1,.bool u,.slice none 0 0,.int .i64 0,.int .i64 0,sv [],.bool false,.slice none 0 0]] Y _ from bn ({ aV tag u 14 with box:=x0,dst:=x1 }) (.slice none 0 0) (.slice none 0 0) Y (bA Y 0).rd (aC Y 0).rd HSM.out HBD.out)
    have g0:=KF.out.cell 0 (sv tag) rfl
    have g1:=KF.out.cell 1 (.int .i64 14) rfl
    have g2:=KF.out.cell 2 (sv x0) rfl
    have g3:=KF.out.cell 3 (sv x1) rfl
    have g4:=KF.out.cell 4 (.bool u) rfl
    have g5:=KF.out.cell 5 (.slice none 0 0) rfl
    have g6:=KF.out.cell 6 (.int .i64 0) rfl
    have g7:=KF.out.cell 7 (.int .i64 0) rfl
    have g8:=KF.out.cell 8 (sv []) rfl
    have g9:=KF.out.cell 9 (.bool false) rfl
    have g10:=KF.out.cell 10 (.slice none 0 0) rfl
    clear hrest hl
    go_wp2_with fail
    refine (aI _ _).mono ?_
    rintro e y9 ⟨rfl,rfl⟩
    go_wp2_with fail
    refine COK.out.mono ?_
    rintro e y9 ⟨rfl,b9⟩
    have K9:=aa9 (KF.out.below b9)
    clear g0 g1 g2 g3 g4 g5 g6 g7 g8 g9 g10 b9 hrest2 COK
    have g0:=K9.out.cell 0 (sv tag) rfl
    have g1:=K9.out.cell 1 (.int .i64 14) rfl
    have g2:=K9.out.cell 2 (sv x0) rfl
    have g3:=K9.out.cell 3 (sv x1) rfl
    have g4:=K9.out.cell 4 (.bool u) rfl
    have g5:=K9.out.cell 5 (.slice none 0 0) rfl
    have g6:=K9.out.cell 6 (.int .i64 0) rfl
    have g7:=K9.out.cell 7 (.int .i64 0) rfl
    have g8:=K9.out.cell 8 (sv []) rfl
    have g9:=K9.out.cell 9 (.bool false) rfl
    have g10:=K9.out.cell 10 (.slice none 0 0) rfl
    cases hok:cg ({ aV tag u 14 with box:=x0,dst:=x1 }) with
    | false=>
      go_wp2_with fail
      refine (aP _ _).mono ?_
      rintro e y9 ⟨rfl,rfl⟩
      exact ⟨rfl,by rw [HE.out,dX hok];exact aA.none_ ⟨⟨_,rfl⟩,K9.out.rd.bel⟩⟩
    | true=>
      have HE2:=aa9 (show aM l=some _ from by rw [HE.out];exact dW hok)
      clear hok HE
      go_wp2_with fail
      refine (aI _ _).mono ?_
      rintro e y8 ⟨rfl,rfl⟩
      go_wp2_with (refine ak rfl _ _ _ rfl r #[sv tag,.int .i64 14,sv x0,sv x1,.bool u,.slice none 0 0,.int .i64 0,.int .i64 0,sv [],.bool false,.slice none 0 0] (by rfl) (by rfl) _ _ K9.out.res (by kernel_rfl) rfl (by simp [Value.oneCell',sv]) ?_)
      obtain ⟨Z,hZ⟩: ∃ Z,Z=y9.setRow r #[sv tag,.int .i64 14,sv x0,sv x1,.bool u,.slice none 0 0,.int .i64 0,.int .i64 0,sv [],.bool false,.slice none 0 0]:=⟨_,rfl⟩
      rw [←hZ]
      have hzr:Z.heap[r]? =some (.cells #[sv tag,.int .i64 14,sv x0,sv x1,.bool u,.slice none 0 0,.int .i64 0,.int .i64 0,sv [],.bool false,.slice none 0 0] 29 (0,0)):=by rw [hZ];exact setRow_heap _ _ _ _ _ _ K9.out.res
      have hgz:ac y9 Z [r]:=by rw [hZ];exact ⟨rfl,rfl,rfl,by simp [World.setRow],fun k _ hk=>setRow_other _ _ _ _ (by simpa using hk)⟩
      obtain ⟨q0,q1,q2,q3,q4,q5,q6,q7,q8,q9,q10⟩:=cC11 hzr
      have HGZ:=aa9 hgz
      clear g0 g1 g2 g3 g4 g5 g6 g7 g8 g9 g10 hZ hzr hgz
      refine bodyPost_ret (v:= .agg #[sv tag,.int .i64 14,sv x0,sv x1,.bool u,.slice none 0 0,.int .i64 0,.int .i64 0,sv [],.bool false,.slice none 0 0]) (by simp [results,Tryz.results66,go_sem,q0,q1,q2,q3,q4,q5,q6,q7,q8,q9,q10]) rfl ?_
      rw [HE2.out]
      exact aA.some_ ⟨_,_,[],[],rfl,bA _ _,aC _ _,List.nodup_nil,ac.below K9.out.rd.bel HGZ.out K9.out.rd.bel.size (fun k hk=>by rw [List.mem_singleton.1 hk];exact K9.out.lo)⟩
 ·
  subst hk
  have HQ:=aa9 (show aM l=(dq (aV tag u 11) l3).bind iR from by rw [HP.out,pc])
  have HRP:=aa9 (show bh (aV tag u 11,l3)=dq (aV tag u 11) l3 from pc _ _ _)
  clear HP
  have D0:=aa9 (cL w0 _ g l3 1 K4.out.rd)
  go_wp2_with fail
  refine D0.out.mono ?_
  intro e y0 hp
  cases hV0:dH 1 l3 with
  | none=>
    rw [hV0] at hp
    obtain ⟨⟨s,rfl⟩,hg1⟩:=hp
    exact ⟨rfl,by rw [HQ.out];unfold dq;rw [←be,hV0];exact aA.none_ ⟨⟨_,rfl⟩,K4.out.rd.belG hg1⟩⟩
  | some z=>
  obtain ⟨x0,m0⟩:=z
  rw [hV0] at hp
  obtain ⟨v,rfl,rfl,hd,hgw⟩:=hp
  have J0:=aa9 (K4.out.step hd hgw)
  have hbl0:b < X.heap.size:=(Array.getElem?_eq_some_iff.1 K4.out.blk).1
  clear hd hgw D0
  have D1:=aa9 (lF w0 _ g m0 hFw J0.out.rd)
  go_wp2_with fail
  refine D1.out.mono ?_
  intro e y1 hp
  cases hV1:ch m0 with
  | none=>
    rw [hV1] at hp
    obtain ⟨⟨s,rfl⟩,hg1⟩:=hp
    exact ⟨rfl,by rw [HQ.out];unfold dq;rw [←be,hV0,Option.bind_some,hV1];exact aA.none_ ⟨⟨_,rfl⟩,J0.out.rd.belG hg1⟩⟩
  | some z=>
  obtain ⟨x1,m1⟩:=z
  rw [hV1] at hp
  obtain ⟨v,rfl,rfl,hd,hgw⟩:=hp
  have J1:=aa9 (J0.out.step hd hgw)
  have hbl1:b < y0.heap.size:=(Array.getElem?_eq_some_iff.1 J0.out.blk).1
  clear hd hgw D1
  have D2:=aa9 (cL w0 _ g m1 2 J1.out.rd)
  go_wp2_with fail
  refine D2.out.mono ?_
  intro e y2 hp
  cases hV2:dH 2 m1 with
  | none=>
    rw [hV2] at hp
    obtain ⟨⟨s,rfl⟩,hg1⟩:=hp
    exact ⟨rfl,by rw [HQ.out];unfold dq;rw [←be,hV0,Option.bind_some,hV1,Option.bind_some,hV2];exact aA.none_ ⟨⟨_,rfl⟩,J1.out.rd.belG hg1⟩⟩
  | some z=>
  obtain ⟨x2,m2⟩:=z
  rw [hV2] at hp
  obtain ⟨v,rfl,rfl,hd,hgw⟩:=hp
  have J2:=aa9 (J1.out.step hd hgw)
  have hbl2:b < y1.heap.size:=(Array.getElem?_eq_some_iff.1 J1.out.blk).1
  clear hd hgw D2
  have HE:=aa9 (show aM l=iR (({ aV tag u 11 with box:=x0,flags:=x1,text:=x2 } :ap),m2) from by rw [HQ.out];unfold dq;rw [←be,hV0,Option.bind_some,hV1,Option.bind_some,hV2,Option.map_some];rfl)
  have hsm:bg ({ aV tag u 11 with box:=x0,flags:=x1,text:=x2 } :ap).lf≤1048576:=db hsz (show bh (aV tag u 11,l3)=some (({ aV tag u 11 with box:=x0,flags:=x1,text:=x2 } :ap),m2) from by rw [HRP.out];unfold dq;rw [←be,hV0,Option.bind_some,hV1,Option.bind_some,hV2,Option.map_some]) HTS3.out HLE.out
  have hbd:bs ({ aV tag u 11 with box:=x0,flags:=x1,text:=x2 } :ap).lf:=ap.bnd_of hsm (show bW 11 from by unfold bW;omega) (show bW 0 from by unfold bW;omega) (pB hV1) (fun s h=>by cases h) (fun s h=>by cases h)
  have HSM:=aa9 hsm
  have HBD:=aa9 hbd
  clear hsm hbd HQ HTS3 hV0 hV1 hV2
  have hc2:=J2.out.cell 2 (sv []) rfl
  have hz2:=J2.out.free 2
  have hc7:=J2.out.cell 7 (.int .i64 0) rfl
  have hz7:=J2.out.free 7
  have hc8:=J2.out.cell 8 (sv []) rfl
  have hz8:=J2.out.free 8
  go_upto_region 21 with fail
  refine aw ?_
  intro Y hY
  have KF:=aa9 (show RdC w0 Y g b r m2 #[sv tag,.int .i64 11,sv x0,sv [],.bool u,.slice none 0 0,.int .i64 0,.int .i64 x1,sv x2,.bool false,.slice none 0 0] from by rw [hY];exact (((J2.out.setB 2 (sv x0)).setB 7 (.int .i64 x1)).setB 8 (sv x2)))
  clear hY hc2 hz2 hc7 hz7 hc8 hz8
  obtain ⟨pr,cr,hrest⟩:=KF.out.rest
  cases hl:m2 with
  | cons tt rr=>
    rw [hl] at hrest HE
    have hrest2:Y.cell? ⟨g,0,none⟩=some (.slice pr (rr.length+1) cr):=hrest
    have hne0:(((rr.length+1:Nat):Int)==0)=false:=cFalse (by omega)
    clear hrest
    go_wp2_with fail
    refine (aP _ _).mono ?_
    rintro e y9 ⟨rfl,rfl⟩
    exact ⟨rfl,by rw [HE.out,fy];exact aA.none_ ⟨⟨_,rfl⟩,KF.out.rd.bel⟩⟩
  | nil=>
    rw [hl] at hrest HE
    have hrest2:Y.cell? ⟨g,0,none⟩=some (.slice pr 0 cr):=hrest
    have COK:=aa9 (show Calls Tryz.prog 13 #[.agg #[sv tag,.int .i64 11,sv x0,sv [],.bool u,.slice none 0 0,.int .i64 0,.int .i64 x1,sv x2,.bool false,.slice none 0 0]] Y _ from bn ({ aV tag u 11 with box:=x0,flags:=x1,text:=x2 }) (.slice none 0 0) (.slice none 0 0) Y (bA Y 0).rd (aC Y 0).rd HSM.out HBD.out)
    have g0:=KF.out.cell 0 (sv tag) rfl
    have g1:=KF.out.cell 1 (.int .i64 11) rfl
    have g2:=KF.out.cell 2 (sv x0) rfl
    have g3:=KF.out.cell 3 (sv []) rfl
    have g4:=KF.out.cell 4 (.bool u) rfl
    have g5:=KF.out.cell 5 (.slice none 0 0) rfl
    have g6:=KF.out.cell 6 (.int .i64 0) rfl
    have g7:=KF.out.cell 7 (.int .i64 x1) rfl
    have g8:=KF.out.cell 8 (sv x2) rfl
    have g9:=KF.out.cell 9 (.bool false) rfl
    have g10:=KF.out.cell 10 (.slice none 0 0) rfl
    clear hrest hl
    go_wp2_with fail
    refine (aI _ _).mono ?_
    rintro e y9 ⟨rfl,rfl⟩
    go_wp2_with fail
    refine COK.out.mono ?_
    rintro e y9 ⟨rfl,b9⟩
    have K9:=aa9 (KF.out.below b9)
    clear g0 g1 g2 g3 g4 g5 g6 g7 g8 g9 g10 b9 hrest2 COK
    have g0:=K9.out.cell 0 (sv tag) rfl
    have g1:=K9.out.cell 1 (.int .i64 11) rfl
    have g2:=K9.out.cell 2 (sv x0) rfl
    have g3:=K9.out.cell 3 (sv []) rfl
    have g4:=K9.out.cell 4 (.bool u) rfl
    have g5:=K9.out.cell 5 (.slice none 0 0) rfl
    have g6:=K9.out.cell 6 (.int .i64 0) rfl
    have g7:=K9.out.cell 7 (.int .i64 x1) rfl
    have g8:=K9.out.cell 8 (sv x2) rfl
    have g9:=K9.out.cell 9 (.bool false) rfl
    have g10:=K9.out.cell 10 (.slice none 0 0) rfl
    cases hok:cg ({ aV tag u 11 with box:=x0,flags:=x1,text:=x2 }) with
    | false=>
      go_wp2_with fail
      refine (aP _ _).mono ?_
      rintro e y9 ⟨rfl,rfl⟩
      exact ⟨rfl,by rw [HE.out,dX hok];exact aA.none_ ⟨⟨_,rfl⟩,K9.out.rd.bel⟩⟩
    | true=>
      have HE2:=aa9 (show aM l=some _ from by rw [HE.out];exact dW hok)
      clear hok HE
      go_wp2_with fail
      refine (aI _ _).mono ?_
      rintro e y8 ⟨rfl,rfl⟩
      go_wp2_with (refine ak rfl _ _ _ rfl r #[sv tag,.int .i64 11,sv x0,sv [],.bool u,.slice none 0 0,.int .i64 0,.int .i64 x1,sv x2,.bool false,.slice none 0 0] (by rfl) (by rfl) _ _ K9.out.res (by kernel_rfl) rfl (by simp [Value.oneCell',sv]) ?_)
      obtain ⟨Z,hZ⟩: ∃ Z,Z=y9.setRow r #[sv tag,.int .i64 11,sv x0,sv [],.bool u,.slice none 0 0,.int .i64 0,.int .i64 x1,sv x2,.bool false,.slice none 0 0]:=⟨_,rfl⟩
      rw [←hZ]
      have hzr:Z.heap[r]? =some (.cells #[sv tag,.int .i64 11,sv x0,sv [],.bool u,.slice none 0 0,.int .i64 0,.int .i64 x1,sv x2,.bool false,.slice none 0 0] 29 (0,0)):=by rw [hZ];exact setRow_heap _ _ _ _ _ _ K9.out.res
      have hgz:ac y9 Z [r]:=by rw [hZ];exact ⟨rfl,rfl,rfl,by simp [World.setRow],fun k _ hk=>setRow_other _ _ _ _ (by simpa using hk)⟩
      obtain ⟨q0,q1,q2,q3,q4,q5,q6,q7,q8,q9,q10⟩:=cC11 hzr
      have HGZ:=aa9 hgz
      clear g0 g1 g2 g3 g4 g5 g6 g7 g8 g9 g10 hZ hzr hgz
      refine bodyPost_ret (v:= .agg #[sv tag,.int .i64 11,sv x0,sv [],.bool u,.slice none 0 0,.int .i64 0,.int .i64 x1,sv x2,.bool false,.slice none 0 0]) (by simp [results,Tryz.results66,go_sem,q0,q1,q2,q3,q4,q5,q6,q7,q8,q9,q10]) rfl ?_
      rw [HE2.out]
      exact aA.some_ ⟨_,_,[],[],rfl,bA _ _,aC _ _,List.nodup_nil,ac.below K9.out.rd.bel HGZ.out K9.out.rd.bel.size (fun k hk=>by rw [List.mem_singleton.1 hk];exact K9.out.lo)⟩
 ·
  subst hk
  have HQ:=aa9 (show aM l=(ft (aV tag u 7) l3).bind iR from by rw [HP.out,pd])
  have HRP:=aa9 (show bh (aV tag u 7,l3)=ft (aV tag u 7) l3 from pd _ _ _)
  clear HP
  have D0:=aa9 (lD w0 _ g l3 hTM K4.out.rd)
  go_wp2_with fail
  refine D0.out.mono ?_
  intro e y0 hp
  cases hV0:setK l3 with
  | none=>
    rw [hV0] at hp
    obtain ⟨⟨s,rfl⟩,hg1⟩:=hp
    exact ⟨rfl,by rw [HQ.out];unfold ft;rw [hV0];exact aA.none_ ⟨⟨_,rfl⟩,K4.out.rd.belG hg1⟩⟩
  | some z=>
  obtain ⟨x0,m0⟩:=z
  rw [hV0] at hp
  obtain ⟨v,rfl,ho,hd,hgw⟩:=hp
  have hT:=eX ho
  obtain ⟨p5,c5,rfl⟩:=au.slice hT.is
  clear ho
  have J0:=aa9 (K4.out.step hd hgw)
  have hbl0:b < X.heap.size:=(Array.getElem?_eq_some_iff.1 K4.out.blk).1
  have T0:=aa9 hT
  clear hT
  clear hd hgw D0
  have HE:=aa9 (show aM l=iR (({ aV tag u 7 with sset:=x0 } :ap),m0) from by rw [HQ.out];unfold ft;rw [hV0,Option.map_some];rfl)
  have hsm:bg ({ aV tag u 7 with sset:=x0 } :ap).lf≤1048576:=db hsz (show bh (aV tag u 7,l3)=some (({ aV tag u 7 with sset:=x0 } :ap),m0) from by rw [HRP.out];unfold ft;rw [hV0,Option.map_some]) HTS3.out HLE.out
  have hbd:bs ({ aV tag u 7 with sset:=x0 } :ap).lf:=ap.bnd_of hsm (show bW 7 from by unfold bW;omega) (show bW 0 from by unfold bW;omega) (show bW 0 from by unfold bW;omega) (qD hV0) (fun s h=>by cases h)
  have HSM:=aa9 hsm
  have HBD:=aa9 hbd
  clear hsm hbd HQ HTS3 hV0
  have hc5:=J0.out.cell 5 (.slice none 0 0) rfl
  have hz5:=J0.out.free 5
  go_upto_region 21 with fail
  refine aw ?_
  intro Y hY
  have KF:=aa9 (show RdC w0 Y g b r m0 #[sv tag,.int .i64 7,sv [],sv [],.bool u,.slice p5 x0.length c5,.int .i64 0,.int .i64 0,sv [],.bool false,.slice none 0 0] from by rw [hY];exact (J0.out.setB 5 (.slice p5 x0.length c5)))
  have TY:=aa9 (show cx Y _ _ _ _ from by rw [hY];exact T0.out.apart (ac.set (g:=b) (i:=5) (u:= .slice p5 x0.length c5) (List.mem_singleton.2 rfl)) (fun k hk=>by have:=T0.out.low k hk;simp;omega))
  clear hY hc5 hz5
  obtain ⟨pr,cr,hrest⟩:=KF.out.rest
  cases hl:m0 with
  | cons tt rr=>
    rw [hl] at hrest HE
    have hrest2:Y.cell? ⟨g,0,none⟩=some (.slice pr (rr.length+1) cr):=hrest
    have hne0:(((rr.length+1:Nat):Int)==0)=false:=cFalse (by omega)
    clear hrest
    go_wp2_with fail
    refine (aP _ _).mono ?_
    rintro e y9 ⟨rfl,rfl⟩
    exact ⟨rfl,by rw [HE.out,fy];exact aA.none_ ⟨⟨_,rfl⟩,KF.out.rd.bel⟩⟩
  | nil=>
    rw [hl] at hrest HE
    have hrest2:Y.cell? ⟨g,0,none⟩=some (.slice pr 0 cr):=hrest
    have COK:=aa9 (show Calls Tryz.prog 13 #[.agg #[sv tag,.int .i64 7,sv [],sv [],.bool u,.slice p5 x0.length c5,.int .i64 0,.int .i64 0,sv [],.bool false,.slice none 0 0]] Y _ from bn ({ aV tag u 7 with sset:=x0 }) (.slice p5 x0.length c5) (.slice none 0 0) Y TY.out.rd (aC Y 0).rd HSM.out HBD.out)
    have g0:=KF.out.cell 0 (sv tag) rfl
    have g1:=KF.out.cell 1 (.int .i64 7) rfl
    have g2:=KF.out.cell 2 (sv []) rfl
    have g3:=KF.out.cell 3 (sv []) rfl
    have g4:=KF.out.cell 4 (.bool u) rfl
    have g5:=KF.out.cell 5 (.slice p5 x0.length c5) rfl
    have g6:=KF.out.cell 6 (.int .i64 0) rfl
    have g7:=KF.out.cell 7 (.int .i64 0) rfl
    have g8:=KF.out.cell 8 (sv []) rfl
    have g9:=KF.out.cell 9 (.bool false) rfl
    have g10:=KF.out.cell 10 (.slice none 0 0) rfl
    clear hrest hl
    go_wp2_with fail
    refine (aI _ _).mono ?_
    rintro e y9 ⟨rfl,rfl⟩
    go_wp2_with fail
    refine COK.out.mono ?_
    rintro e y9 ⟨rfl,b9⟩
    have K9:=aa9 (KF.out.below b9)
    have T9:=aa9 (TY.out.below b9)
    clear g0 g1 g2 g3 g4 g5 g6 g7 g8 g9 g10 b9 hrest2 COK
    have g0:=K9.out.cell 0 (sv tag) rfl
    have g1:=K9.out.cell 1 (.int .i64 7) rfl
    have g2:=K9.out.cell 2 (sv []) rfl
    have g3:=K9.out.cell 3 (sv []) rfl
    have g4:=K9.out.cell 4 (.bool u) rfl
    have g5:=K9.out.cell 5 (.slice p5 x0.length c5) rfl
    have g6:=K9.out.cell 6 (.int .i64 0) rfl
    have g7:=K9.out.cell 7 (.int .i64 0) rfl
    have g8:=K9.out.cell 8 (sv []) rfl
    have g9:=K9.out.cell 9 (.bool false) rfl
    have g10:=K9.out.cell 10 (.slice none 0 0) rfl
    cases hok:cg ({ aV tag u 7 with sset:=x0 }) with
    | false=>
      go_wp2_with fail
      refine (aP _ _).mono ?_
      rintro e y9 ⟨rfl,rfl⟩
      exact ⟨rfl,by rw [HE.out,dX hok];exact aA.none_ ⟨⟨_,rfl⟩,K9.out.rd.bel⟩⟩
    | true=>
      have HE2:=aa9 (show aM l=some _ from by rw [HE.out];exact dW hok)
      clear hok HE
      go_wp2_with fail
      refine (aI _ _).mono ?_
      rintro e y8 ⟨rfl,rfl⟩
      go_wp2_with (refine ak rfl _ _ _ rfl r #[sv tag,.int .i64 7,sv [],sv [],.bool u,.slice p5 x0.length c5,.int .i64 0,.int .i64 0,sv [],.bool false,.slice none 0 0] (by rfl) (by rfl) _ _ K9.out.res (by kernel_rfl) rfl (by simp [Value.oneCell',sv]) ?_)
      obtain ⟨Z,hZ⟩: ∃ Z,Z=y9.setRow r #[sv tag,.int .i64 7,sv [],sv [],.bool u,.slice p5 x0.length c5,.int .i64 0,.int .i64 0,sv [],.bool false,.slice none 0 0]:=⟨_,rfl⟩
      rw [←hZ]
      have hzr:Z.heap[r]? =some (.cells #[sv tag,.int .i64 7,sv [],sv [],.bool u,.slice p5 x0.length c5,.int .i64 0,.int .i64 0,sv [],.bool false,.slice none 0 0] 29 (0,0)):=by rw [hZ];exact setRow_heap _ _ _ _ _ _ K9.out.res
      have hgz:ac y9 Z [r]:=by rw [hZ];exact ⟨rfl,rfl,rfl,by simp [World.setRow],fun k _ hk=>setRow_other _ _ _ _ (by simpa using hk)⟩
      obtain ⟨q0,q1,q2,q3,q4,q5,q6,q7,q8,q9,q10⟩:=cC11 hzr
      have HGZ:=aa9 hgz
      clear g0 g1 g2 g3 g4 g5 g6 g7 g8 g9 g10 hZ hzr hgz
      refine bodyPost_ret (v:= .agg #[sv tag,.int .i64 7,sv [],sv [],.bool u,.slice p5 x0.length c5,.int .i64 0,.int .i64 0,sv [],.bool false,.slice none 0 0]) (by simp [results,Tryz.results66,go_sem,q0,q1,q2,q3,q4,q5,q6,q7,q8,q9,q10]) rfl ?_
      rw [HE2.out]
      have hTZ:=T9.out.apart HGZ.out (fun k hk=>by have:=T9.out.low k hk;have:=K9.out.lt;simp;omega)
      exact aA.some_ ⟨_,_,_,[],rfl,⟨hTZ.is,hTZ.nodup,fun k hk=>by have:=hTZ.low k hk;have:=K9.out.lt;have:=K9.out.lo;omega⟩,aC _ _,by simpa using hTZ.nodup,ac.below K9.out.rd.bel HGZ.out K9.out.rd.bel.size (fun k hk=>by rw [List.mem_singleton.1 hk];exact K9.out.lo)⟩
 ·
  subst hk
  have HQ:=aa9 (show aM l=(ei (aV tag u 10) l3).bind iR from by rw [HP.out,pe])
  have HRP:=aa9 (show bh (aV tag u 10,l3)=ei (aV tag u 10) l3 from pe _ _ _)
  clear HP
  have D0:=aa9 (lD w0 _ g l3 hTM K4.out.rd)
  go_wp2_with fail
  refine D0.out.mono ?_
  intro e y0 hp
  cases hV0:setK l3 with
  | none=>
    rw [hV0] at hp
    obtain ⟨⟨s,rfl⟩,hg1⟩:=hp
    exact ⟨rfl,by rw [HQ.out];unfold ei;rw [hV0];exact aA.none_ ⟨⟨_,rfl⟩,K4.out.rd.belG hg1⟩⟩
  | some z=>
  obtain ⟨x0,m0⟩:=z
  rw [hV0] at hp
  obtain ⟨v,rfl,ho,hd,hgw⟩:=hp
  have hT:=eX ho
  obtain ⟨p5,c5,rfl⟩:=au.slice hT.is
  clear ho
  have J0:=aa9 (K4.out.step hd hgw)
  have hbl0:b < X.heap.size:=(Array.getElem?_eq_some_iff.1 K4.out.blk).1
  have T0:=aa9 hT
  clear hT
  clear hd hgw D0
  have D1:=aa9 (cL w0 _ g m0 1 J0.out.rd)
  go_wp2_with fail
  refine D1.out.mono ?_
  intro e y1 hp
  cases hV1:dH 1 m0 with
  | none=>
    rw [hV1] at hp
    obtain ⟨⟨s,rfl⟩,hg1⟩:=hp
    exact ⟨rfl,by rw [HQ.out];unfold ei;rw [hV0,Option.bind_some,←be,hV1];exact aA.none_ ⟨⟨_,rfl⟩,J0.out.rd.belG hg1⟩⟩
  | some z=>
  obtain ⟨x1,m1⟩:=z
  rw [hV1] at hp
  obtain ⟨v,rfl,rfl,hd,hgw⟩:=hp
  have J1:=aa9 (J0.out.step hd hgw)
  have hbl1:b < y0.heap.size:=(Array.getElem?_eq_some_iff.1 J0.out.blk).1
  have T1:=aa9 (T0.out.apart hgw (fun k hk=>by have:=T0.out.low k hk;have:=J0.out.gr;have:=J0.out.lt;simp;omega))
  clear hd hgw D1
  have HE:=aa9 (show aM l=iR (({ aV tag u 10 with sset:=x0,box:=x1 } :ap),m1) from by rw [HQ.out];unfold ei;rw [hV0,Option.bind_some,←be,hV1,Option.map_some];rfl)
  have hsm:bg ({ aV tag u 10 with sset:=x0,box:=x1 } :ap).lf≤1048576:=db hsz (show bh (aV tag u 10,l3)=some (({ aV tag u 10 with sset:=x0,box:=x1 } :ap),m1) from by rw [HRP.out];unfold ei;rw [hV0,Option.bind_some,←be,hV1,Option.map_some]) HTS3.out HLE.out
  have hbd:bs ({ aV tag u 10 with sset:=x0,box:=x1 } :ap).lf:=ap.bnd_of hsm (show bW 10 from by unfold bW;omega) (show bW 0 from by unfold bW;omega) (show bW 0 from by unfold bW;omega) (qD hV0) (fun s h=>by cases h)
  have HSM:=aa9 hsm
  have HBD:=aa9 hbd
  clear hsm hbd HQ HTS3 hV0 hV1
  have hc5:=J1.out.cell 5 (.slice none 0 0) rfl
  have hz5:=J1.out.free 5
  have hc2:=J1.out.cell 2 (sv []) rfl
  have hz2:=J1.out.free 2
  go_upto_region 21 with fail
  refine aw ?_
  intro Y hY
  have KF:=aa9 (show RdC w0 Y g b r m1 #[sv tag,.int .i64 10,sv x1,sv [],.bool u,.slice p5 x0.length c5,.int .i64 0,.int .i64 0,sv [],.bool false,.slice none 0 0] from by rw [hY];exact ((J1.out.setB 5 (.slice p5 x0.length c5)).setB 2 (sv x1)))
  have TY:=aa9 (show cx Y _ _ _ _ from by rw [hY];exact T1.out.apart (ac.trans (ac.set (g:=b) (i:=5) (u:= .slice p5 x0.length c5) (List.mem_singleton.2 rfl)) (ac.set (g:=b) (i:=2) (u:=sv x1) (List.mem_singleton.2 rfl))) (fun k hk=>by have:=T1.out.low k hk;simp;omega))
  clear hY hc5 hz5 hc2 hz2
  obtain ⟨pr,cr,hrest⟩:=KF.out.rest
  cases hl:m1 with
  | cons tt rr=>
    rw [hl] at hrest HE
    have hrest2:Y.cell? ⟨g,0,none⟩=some (.slice pr (rr.length+1) cr):=hrest
    have hne0:(((rr.length+1:Nat):Int)==0)=false:=cFalse (by omega)
    clear hrest
    go_wp2_with fail
    refine (aP _ _).mono ?_
    rintro e y9 ⟨rfl,rfl⟩
    exact ⟨rfl,by rw [HE.out,fy];exact aA.none_ ⟨⟨_,rfl⟩,KF.out.rd.bel⟩⟩
  | nil=>
    rw [hl] at hrest HE
    have hrest2:Y.cell? ⟨g,0,none⟩=some (.slice pr 0 cr):=hrest
    have COK:=aa9 (show Calls Tryz.prog 13 #[.agg #[sv tag,.int .i64 10,sv x1,sv [],.bool u,.slice p5 x0.length c5,.int .i64 0,.int .i64 0,sv [],.bool false,.slice none 0 0]] Y _ from bn ({ aV tag u 10 with sset:=x0,box:=x1 }) (.slice p5 x0.length c5) (.slice none 0 0) Y TY.out.rd (aC Y 0).rd HSM.out HBD.out)
    have g0:=KF.out.cell 0 (sv tag) rfl
    have g1:=KF.out.cell 1 (.int .i64 10) rfl
    have g2:=KF.out.cell 2 (sv x1) rfl
    have g3:=KF.out.cell 3 (sv []) rfl
    have g4:=KF.out.cell 4 (.bool u) rfl
    have g5:=KF.out.cell 5 (.slice p5 x0.length c5) rfl
    have g6:=KF.out.cell 6 (.int .i64 0) rfl
    have g7:=KF.out.cell 7 (.int .i64 0) rfl
    have g8:=KF.out.cell 8 (sv []) rfl
    have g9:=KF.out.cell 9 (.bool false) rfl
    have g10:=KF.out.cell 10 (.slice none 0 0) rfl
    clear hrest hl
    go_wp2_with fail
    refine (aI _ _).mono ?_
    rintro e y9 ⟨rfl,rfl⟩
    go_wp2_with fail
    refine COK.out.mono ?_
    rintro e y9 ⟨rfl,b9⟩
    have K9:=aa9 (KF.out.below b9)
    have T9:=aa9 (TY.out.below b9)
    clear g0 g1 g2 g3 g4 g5 g6 g7 g8 g9 g10 b9 hrest2 COK
    have g0:=K9.out.cell 0 (sv tag) rfl
    have g1:=K9.out.cell 1 (.int .i64 10) rfl
    have g2:=K9.out.cell 2 (sv x1) rfl
    have g3:=K9.out.cell 3 (sv []) rfl
    have g4:=K9.out.cell 4 (.bool u) rfl
    have g5:=K9.out.cell 5 (.slice p5 x0.length c5) rfl
    have g6:=K9.out.cell 6 (.int .i64 0) rfl
    have g7:=K9.out.cell 7 (.int .i64 0) rfl
    have g8:=K9.out.cell 8 (sv []) rfl
    have g9:=K9.out.cell 9 (.bool false) rfl
    have g10:=K9.out.cell 10 (.slice none 0 0) rfl
    cases hok:cg ({ aV tag u 10 with sset:=x0,box:=x1 }) with
    | false=>
      go_wp2_with fail
      refine (aP _ _).mono ?_
      rintro e y9 ⟨rfl,rfl⟩
      exact ⟨rfl,by rw [HE.out,dX hok];exact aA.none_ ⟨⟨_,rfl⟩,K9.out.rd.bel⟩⟩
    | true=>
      have HE2:=aa9 (show aM l=some _ from by rw [HE.out];exact dW hok)
      clear hok HE
      go_wp2_with fail
      refine (aI _ _).mono ?_
      rintro e y8 ⟨rfl,rfl⟩
      go_wp2_with (refine ak rfl _ _ _ rfl r #[sv tag,.int .i64 10,sv x1,sv [],.bool u,.slice p5 x0.length c5,.int .i64 0,.int .i64 0,sv [],.bool false,.slice none 0 0] (by rfl) (by rfl) _ _ K9.out.res (by kernel_rfl) rfl (by simp [Value.oneCell',sv]) ?_)
      obtain ⟨Z,hZ⟩: ∃ Z,Z=y9.setRow r #[sv tag,.int .i64 10,sv x1,sv [],.bool u,.slice p5 x0.length c5,.int .i64 0,.int .i64 0,sv [],.bool false,.slice none 0 0]:=⟨_,rfl⟩
      rw [←hZ]
      have hzr:Z.heap[r]? =some (.cells #[sv tag,.int .i64 10,sv x1,sv [],.bool u,.slice p5 x0.length c5,.int .i64 0,.int .i64 0,sv [],.bool false,.slice none 0 0] 29 (0,0)):=by rw [hZ];exact setRow_heap _ _ _ _ _ _ K9.out.res
      have hgz:ac y9 Z [r]:=by rw [hZ];exact ⟨rfl,rfl,rfl,by simp [World.setRow],fun k _ hk=>setRow_other _ _ _ _ (by simpa using hk)⟩
      obtain ⟨q0,q1,q2,q3,q4,q5,q6,q7,q8,q9,q10⟩:=cC11 hzr
      have HGZ:=aa9 hgz
      clear g0 g1 g2 g3 g4 g5 g6 g7 g8 g9 g10 hZ hzr hgz
      refine bodyPost_ret (v:= .agg #[sv tag,.int .i64 10,sv x1,sv [],.bool u,.slice p5 x0.length c5,.int .i64 0,.int .i64 0,sv [],.bool false,.slice none 0 0]) (by simp [results,Tryz.results66,go_sem,q0,q1,q2,q3,q4,q5,q6,q7,q8,q9,q10]) rfl ?_
      rw [HE2.out]
      have hTZ:=T9.out.apart HGZ.out (fun k hk=>by have:=T9.out.low k hk;have:=K9.out.lt;simp;omega)
      exact aA.some_ ⟨_,_,_,[],rfl,⟨hTZ.is,hTZ.nodup,fun k hk=>by have:=hTZ.low k hk;have:=K9.out.lt;have:=K9.out.lo;omega⟩,aC _ _,by simpa using hTZ.nodup,ac.below K9.out.rd.bel HGZ.out K9.out.rd.bel.size (fun k hk=>by rw [List.mem_singleton.1 hk];exact K9.out.lo)⟩
 ·
  subst hk
  have HQ:=aa9 (show aM l=(cR (aV tag u 8) l3).bind iR from by rw [HP.out,pf])
  have HRP:=aa9 (show bh (aV tag u 8,l3)=cR (aV tag u 8) l3 from pf _ _ _)
  clear HP
  have D0:=aa9 (lD w0 _ g l3 hTM K4.out.rd)
  go_wp2_with fail
  refine D0.out.mono ?_
  intro e y0 hp
  cases hV0:setK l3 with
  | none=>
    rw [hV0] at hp
    obtain ⟨⟨s,rfl⟩,hg1⟩:=hp
    exact ⟨rfl,by rw [HQ.out];unfold cR;rw [hV0];exact aA.none_ ⟨⟨_,rfl⟩,K4.out.rd.belG hg1⟩⟩
  | some z=>
  obtain ⟨x0,m0⟩:=z
  rw [hV0] at hp
  obtain ⟨v,rfl,ho,hd,hgw⟩:=hp
  have hT:=eX ho
  obtain ⟨p5,c5,rfl⟩:=au.slice hT.is
  clear ho
  have J0:=aa9 (K4.out.step hd hgw)
  have hbl0:b < X.heap.size:=(Array.getElem?_eq_some_iff.1 K4.out.blk).1
  have T0:=aa9 hT
  clear hT
  clear hd hgw D0
  have D1:=aa9 (wE w0 _ g m0 J0.out.rd)
  go_wp2_with fail
  refine D1.out.mono ?_
  intro e y1 hp
  cases hV1:opK m0 with
  | none=>
    rw [hV1] at hp
    obtain ⟨⟨s,rfl⟩,hg1⟩:=hp
    exact ⟨rfl,by rw [HQ.out];unfold cR;rw [hV0,Option.bind_some,hV1];exact aA.none_ ⟨⟨_,rfl⟩,J0.out.rd.belG hg1⟩⟩
  | some z=>
  obtain ⟨x1,m1⟩:=z
  rw [hV1] at hp
  obtain ⟨v,rfl,rfl,hd,hgw⟩:=hp
  have J1:=aa9 (J0.out.step hd hgw)
  have hbl1:b < y0.heap.size:=(Array.getElem?_eq_some_iff.1 J0.out.blk).1
  have T1:=aa9 (T0.out.apart hgw (fun k hk=>by have:=T0.out.low k hk;have:=J0.out.gr;have:=J0.out.lt;simp;omega))
  clear hd hgw D1
  have D2:=aa9 (lF w0 _ g m1 hFw J1.out.rd)
  go_wp2_with fail
  refine D2.out.mono ?_
  intro e y2 hp
  cases hV2:ch m1 with
  | none=>
    rw [hV2] at hp
    obtain ⟨⟨s,rfl⟩,hg1⟩:=hp
    exact ⟨rfl,by rw [HQ.out];unfold cR;rw [hV0,Option.bind_some,hV1,Option.bind_some,hV2];exact aA.none_ ⟨⟨_,rfl⟩,J1.out.rd.belG hg1⟩⟩
  | some z=>
  obtain ⟨x2,m2⟩:=z
  rw [hV2] at hp
  obtain ⟨v,rfl,rfl,hd,hgw⟩:=hp
  have J2:=aa9 (J1.out.step hd hgw)
  have hbl2:b < y1.heap.size:=(Array.getElem?_eq_some_iff.1 J1.out.blk).1
  have T2:=aa9 (T1.out.apart hgw (fun k hk=>by have:=T1.out.low k hk;have:=J1.out.gr;have:=J1.out.lt;simp;omega))
  clear hd hgw D2
  have HE:=aa9 (show aM l=iR (({ aV tag u 8 with sset:=x0,op:=x1,flags:=x2 } :ap),m2) from by rw [HQ.out];unfold cR;rw [hV0,Option.bind_some,hV1,Option.bind_some,hV2,Option.map_some];rfl)
  have hsm:bg ({ aV tag u 8 with sset:=x0,op:=x1,flags:=x2 } :ap).lf≤1048576:=db hsz (show bh (aV tag u 8,l3)=some (({ aV tag u 8 with sset:=x0,op:=x1,flags:=x2 } :ap),m2) from by rw [HRP.out];unfold cR;rw [hV0,Option.bind_some,hV1,Option.bind_some,hV2,Option.map_some]) HTS3.out HLE.out
  have hbd:bs ({ aV tag u 8 with sset:=x0,op:=x1,flags:=x2 } :ap).lf:=ap.bnd_of hsm (show bW 8 from by unfold bW;omega) (ze hV1) (pB hV2) (qD hV0) (fun s h=>by cases h)
  have HSM:=aa9 hsm
  have HBD:=aa9 hbd
  clear hsm hbd HQ HTS3 hV0 hV1 hV2
  have hc5:=J2.out.cell 5 (.slice none 0 0) rfl
  have hz5:=J2.out.free 5
  have hc6:=J2.out.cell 6 (.int .i64 0) rfl
  have hz6:=J2.out.free 6
  have hc7:=J2.out.cell 7 (.int .i64 0) rfl
  have hz7:=J2.out.free 7
  go_upto_region 21 with fail
  refine aw ?_
  intro Y hY
  have KF:=aa9 (show RdC w0 Y g b r m2 #[sv tag,.int .i64 8,sv [],sv [],.bool u,.slice p5 x0.length c5,.int .i64 x1,.int .i64 x2,sv [],.bool false,.slice none 0 0] from by rw [hY];exact (((J2.out.setB 5 (.slice p5 x0.length c5)).setB 6 (.int .i64 x1)).setB 7 (.int .i64 x2)))
  have TY:=aa9 (show cx Y _ _ _ _ from by rw [hY];exact T2.out.apart (ac.trans (ac.trans (ac.set (g:=b) (i:=5) (u:= .slice p5 x0.length c5) (List.mem_singleton.2 rfl)) (ac.set (g:=b) (i:=6) (u:= .int .i64 x1) (List.mem_singleton.2 rfl))) (ac.set (g:=b) (i:=7) (u:= .int .i64 x2) (List.mem_singleton.2 rfl))) (fun k hk=>by have:=T2.out.low k hk;simp;omega))
  clear hY hc5 hz5 hc6 hz6 hc7 hz7
  obtain ⟨pr,cr,hrest⟩:=KF.out.rest
  cases hl:m2 with
  | cons tt rr=>
    rw [hl] at hrest HE
    have hrest2:Y.cell? ⟨g,0,none⟩=some (.slice pr (rr.length+1) cr):=hrest
    have hne0:(((rr.length+1:Nat):Int)==0)=false:=cFalse (by omega)
    clear hrest
    go_wp2_with fail
    refine (aP _ _).mono ?_
    rintro e y9 ⟨rfl,rfl⟩
    exact ⟨rfl,by rw [HE.out,fy];exact aA.none_ ⟨⟨_,rfl⟩,KF.out.rd.bel⟩⟩
  | nil=>
    rw [hl] at hrest HE
    have hrest2:Y.cell? ⟨g,0,none⟩=some (.slice pr 0 cr):=hrest
    have COK:=aa9 (show Calls Tryz.prog 13 #[.agg #[sv tag,.int .i64 8,sv [],sv [],.bool u,.slice p5 x0.length c5,.int .i64 x1,.int .i64 x2,sv [],.bool false,.slice none 0 0]] Y _ from bn ({ aV tag u 8 with sset:=x0,op:=x1,flags:=x2 }) (.slice p5 x0.length c5) (.slice none 0 0) Y TY.out.rd (aC Y 0).rd HSM.out HBD.out)
    have g0:=KF.out.cell 0 (sv tag) rfl
    have g1:=KF.out.cell 1 (.int .i64 8) rfl
    have g2:=KF.out.cell 2 (sv []) rfl
    have g3:=KF.out.cell 3 (sv []) rfl
    have g4:=KF.out.cell 4 (.bool u) rfl
    have g5:=KF.out.cell 5 (.slice p5 x0.length c5) rfl
    have g6:=KF.out.cell 6 (.int .i64 x1) rfl
    have g7:=KF.out.cell 7 (.int .i64 x2) rfl
    have g8:=KF.out.cell 8 (sv []) rfl
    have g9:=KF.out.cell 9 (.bool false) rfl
    have g10:=KF.out.cell 10 (.slice none 0 0) rfl
    clear hrest hl
    go_wp2_with fail
    refine (aI _ _).mono ?_
    rintro e y9 ⟨rfl,rfl⟩
    go_wp2_with fail
    refine COK.out.mono ?_
    rintro e y9 ⟨rfl,b9⟩
    have K9:=aa9 (KF.out.below b9)
    have T9:=aa9 (TY.out.below b9)
    clear g0 g1 g2 g3 g4 g5 g6 g7 g8 g9 g10 b9 hrest2 COK
    have g0:=K9.out.cell 0 (sv tag) rfl
    have g1:=K9.out.cell 1 (.int .i64 8) rfl
    have g2:=K9.out.cell 2 (sv []) rfl
    have g3:=K9.out.cell 3 (sv []) rfl
    have g4:=K9.out.cell 4 (.bool u) rfl
    have g5:=K9.out.cell 5 (.slice p5 x0.length c5) rfl
    have g6:=K9.out.cell 6 (.int .i64 x1) rfl
    have g7:=K9.out.cell 7 (.int .i64 x2) rfl
    have g8:=K9.out.cell 8 (sv []) rfl
    have g9:=K9.out.cell 9 (.bool false) rfl
    have g10:=K9.out.cell 10 (.slice none 0 0) rfl
    cases hok:cg ({ aV tag u 8 with sset:=x0,op:=x1,flags:=x2 }) with
    | false=>
      go_wp2_with fail
      refine (aP _ _).mono ?_
      rintro e y9 ⟨rfl,rfl⟩
      exact ⟨rfl,by rw [HE.out,dX hok];exact aA.none_ ⟨⟨_,rfl⟩,K9.out.rd.bel⟩⟩
    | true=>
      have HE2:=aa9 (show aM l=some _ from by rw [HE.out];exact dW hok)
      clear hok HE
      go_wp2_with fail
      refine (aI _ _).mono ?_
      rintro e y8 ⟨rfl,rfl⟩
      go_wp2_with (refine ak rfl _ _ _ rfl r #[sv tag,.int .i64 8,sv [],sv [],.bool u,.slice p5 x0.length c5,.int .i64 x1,.int .i64 x2,sv [],.bool false,.slice none 0 0] (by rfl) (by rfl) _ _ K9.out.res (by kernel_rfl) rfl (by simp [Value.oneCell',sv]) ?_)
      obtain ⟨Z,hZ⟩: ∃ Z,Z=y9.setRow r #[sv tag,.int .i64 8,sv [],sv [],.bool u,.slice p5 x0.length c5,.int .i64 x1,.int .i64 x2,sv [],.bool false,.slice none 0 0]:=⟨_,rfl⟩
      rw [←hZ]
      have hzr:Z.heap[r]? =some (.cells #[sv tag,.int .i64 8,sv [],sv [],.bool u,.slice p5 x0.length c5,.int .i64 x1,.int .i64 x2,sv [],.bool false,.slice none 0 0] 29 (0,0)):=by rw [hZ];exact setRow_heap _ _ _ _ _ _ K9.out.res
      have hgz:ac y9 Z [r]:=by rw [hZ];exact ⟨rfl,rfl,rfl,by simp [World.setRow],fun k _ hk=>setRow_other _ _ _ _ (by simpa using hk)⟩
      obtain ⟨q0,q1,q2,q3,q4,q5,q6,q7,q8,q9,q10⟩:=cC11 hzr
      have HGZ:=aa9 hgz
      clear g0 g1 g2 g3 g4 g5 g6 g7 g8 g9 g10 hZ hzr hgz
      refine bodyPost_ret (v:= .agg #[sv tag,.int .i64 8,sv [],sv [],.bool u,.slice p5 x0.length c5,.int .i64 x1,.int .i64 x2,sv [],.bool false,.slice none 0 0]) (by simp [results,Tryz.results66,go_sem,q0,q1,q2,q3,q4,q5,q6,q7,q8,q9,q10]) rfl ?_
      rw [HE2.out]
      have hTZ:=T9.out.apart HGZ.out (fun k hk=>by have:=T9.out.low k hk;have:=K9.out.lt;simp;omega)
      exact aA.some_ ⟨_,_,_,[],rfl,⟨hTZ.is,hTZ.nodup,fun k hk=>by have:=hTZ.low k hk;have:=K9.out.lt;have:=K9.out.lo;omega⟩,aC _ _,by simpa using hTZ.nodup,ac.below K9.out.rd.bel HGZ.out K9.out.rd.bel.size (fun k hk=>by rw [List.mem_singleton.1 hk];exact K9.out.lo)⟩
 ·
  subst hk
  have HQ:=aa9 (show aM l=(fZ (aV tag u 6) l3).bind iR from by rw [HP.out,pg])
  have HRP:=aa9 (show bh (aV tag u 6,l3)=fZ (aV tag u 6) l3 from pg _ _ _)
  clear HP
  have D0:=aa9 (pz w0 _ g l3 hEw K4.out.rd)
  go_wp2_with fail
  refine D0.out.mono ?_
  intro e y0 hp
  cases hV0:eC l3 with
  | none=>
    rw [hV0] at hp
    obtain ⟨⟨s,rfl⟩,hg1⟩:=hp
    exact ⟨rfl,by rw [HQ.out];unfold fZ;rw [hV0];exact aA.none_ ⟨⟨_,rfl⟩,K4.out.rd.belG hg1⟩⟩
  | some z=>
  obtain ⟨x0,m0⟩:=z
  rw [hV0] at hp
  obtain ⟨v,rfl,⟨v2,fp,rfl,hT⟩,hd,hgw⟩:=hp
  obtain ⟨p5,c5,rfl⟩:=au.slice hT.is
  have J0:=aa9 (K4.out.step hd hgw)
  have hbl0:b < X.heap.size:=(Array.getElem?_eq_some_iff.1 K4.out.blk).1
  have T0:=aa9 hT
  clear hT
  clear hd hgw D0
  have HE:=aa9 (show aM l=iR (({ aV tag u 6 with filter:=x0 } :ap),m0) from by rw [HQ.out];unfold fZ;rw [hV0,Option.map_some];rfl)
  have hsm:bg ({ aV tag u 6 with filter:=x0 } :ap).lf≤1048576:=db hsz (show bh (aV tag u 6,l3)=some (({ aV tag u 6 with filter:=x0 } :ap),m0) from by rw [HRP.out];unfold fZ;rw [hV0,Option.map_some]) HTS3.out HLE.out
  have hbd:bs ({ aV tag u 6 with filter:=x0 } :ap).lf:=ap.bnd_of hsm (show bW 6 from by unfold bW;omega) (show bW 0 from by unfold bW;omega) (show bW 0 from by unfold bW;omega) (fun s h=>by cases h) (sA hV0)
  have HSM:=aa9 hsm
  have HBD:=aa9 hbd
  clear hsm hbd HQ HTS3 hV0
  have hc9:=J0.out.cell 9 (.bool false) rfl
  have hz9:=J0.out.free 9
  have hc10:=J0.out.cell 10 (.slice none 0 0) rfl
  have hz10:=J0.out.free 10
  go_upto_region 21 with fail
  refine aw ?_
  intro Y hY
  have KF:=aa9 (show RdC w0 Y g b r m0 #[sv tag,.int .i64 6,sv [],sv [],.bool u,.slice none 0 0,.int .i64 0,.int .i64 0,sv [],.bool x0.on,.slice p5 x0.scopes.length c5] from by rw [hY];exact ((J0.out.setB 9 (.bool x0.on)).setB 10 (.slice p5 x0.scopes.length c5)))
  have TY:=aa9 (show cx Y _ _ _ _ from by rw [hY];exact T0.out.apart (ac.trans (ac.set (g:=b) (i:=9) (u:= .bool x0.on) (List.mem_singleton.2 rfl)) (ac.set (g:=b) (i:=10) (u:= .slice p5 x0.scopes.length c5) (List.mem_singleton.2 rfl))) (fun k hk=>by have:=T0.out.low k hk;simp;omega))
  clear hY hc9 hz9 hc10 hz10
  obtain ⟨pr,cr,hrest⟩:=KF.out.rest
  cases hl:m0 with
  | cons tt rr=>
    rw [hl] at hrest HE
    have hrest2:Y.cell? ⟨g,0,none⟩=some (.slice pr (rr.length+1) cr):=hrest
    have hne0:(((rr.length+1:Nat):Int)==0)=false:=cFalse (by omega)
    clear hrest
    go_wp2_with fail
    refine (aP _ _).mono ?_
    rintro e y9 ⟨rfl,rfl⟩
    exact ⟨rfl,by rw [HE.out,fy];exact aA.none_ ⟨⟨_,rfl⟩,KF.out.rd.bel⟩⟩
  | nil=>
    rw [hl] at hrest HE
    have hrest2:Y.cell? ⟨g,0,none⟩=some (.slice pr 0 cr):=hrest
    have COK:=aa9 (show Calls Tryz.prog 13 #[.agg #[sv tag,.int .i64 6,sv [],sv [],.bool u,.slice none 0 0,.int .i64 0,.int .i64 0,sv [],.bool x0.on,.slice p5 x0.scopes.length c5]] Y _ from bn ({ aV tag u 6 with filter:=x0 }) (.slice none 0 0) (.slice p5 x0.scopes.length c5) Y (bA Y 0).rd TY.out.rd HSM.out HBD.out)
    have g0:=KF.out.cell 0 (sv tag) rfl
    have g1:=KF.out.cell 1 (.int .i64 6) rfl
    have g2:=KF.out.cell 2 (sv []) rfl
    have g3:=KF.out.cell 3 (sv []) rfl
    have g4:=KF.out.cell 4 (.bool u) rfl
    have g5:=KF.out.cell 5 (.slice none 0 0) rfl
    have g6:=KF.out.cell 6 (.int .i64 0) rfl
    have g7:=KF.out.cell 7 (.int .i64 0) rfl
    have g8:=KF.out.cell 8 (sv []) rfl
    have g9:=KF.out.cell 9 (.bool x0.on) rfl
    have g10:=KF.out.cell 10 (.slice p5 x0.scopes.length c5) rfl
    clear hrest hl
    go_wp2_with fail
    refine (aI _ _).mono ?_
    rintro e y9 ⟨rfl,rfl⟩
    go_wp2_with fail
    refine COK.out.mono ?_
    rintro e y9 ⟨rfl,b9⟩
    have K9:=aa9 (KF.out.below b9)
    have T9:=aa9 (TY.out.below b9)
    clear g0 g1 g2 g3 g4 g5 g6 g7 g8 g9 g10 b9 hrest2 COK
    have g0:=K9.out.cell 0 (sv tag) rfl
    have g1:=K9.out.cell 1 (.int .i64 6) rfl
    have g2:=K9.out.cell 2 (sv []) rfl
    have g3:=K9.out.cell 3 (sv []) rfl
    have g4:=K9.out.cell 4 (.bool u) rfl
    have g5:=K9.out.cell 5 (.slice none 0 0) rfl
    have g6:=K9.out.cell 6 (.int .i64 0) rfl
    have g7:=K9.out.cell 7 (.int .i64 0) rfl
    have g8:=K9.out.cell 8 (sv []) rfl
    have g9:=K9.out.cell 9 (.bool x0.on) rfl
    have g10:=K9.out.cell 10 (.slice p5 x0.scopes.length c5) rfl
    cases hok:cg ({ aV tag u 6 with filter:=x0 }) with
    | false=>
      go_wp2_with fail
      refine (aP _ _).mono ?_
      rintro e y9 ⟨rfl,rfl⟩
      exact ⟨rfl,by rw [HE.out,dX hok];exact aA.none_ ⟨⟨_,rfl⟩,K9.out.rd.bel⟩⟩
    | true=>
      have HE2:=aa9 (show aM l=some _ from by rw [HE.out];exact dW hok)
      clear hok HE
      go_wp2_with fail
      refine (aI _ _).mono ?_
      rintro e y8 ⟨rfl,rfl⟩
      go_wp2_with (refine ak rfl _ _ _ rfl r #[sv tag,.int .i64 6,sv [],sv [],.bool u,.slice none 0 0,.int .i64 0,.int .i64 0,sv [],.bool x0.on,.slice p5 x0.scopes.length c5] (by rfl) (by rfl) _ _ K9.out.res (by kernel_rfl) rfl (by simp [Value.oneCell',sv]) ?_)
      obtain ⟨Z,hZ⟩: ∃ Z,Z=y9.setRow r #[sv tag,.int .i64 6,sv [],sv [],.bool u,.slice none 0 0,.int .i64 0,.int .i64 0,sv [],.bool x0.on,.slice p5 x0.scopes.length c5]:=⟨_,rfl⟩
      rw [←hZ]
      have hzr:Z.heap[r]? =some (.cells #[sv tag,.int .i64 6,sv [],sv [],.bool u,.slice none 0 0,.int .i64 0,.int .i64 0,sv [],.bool x0.on,.slice p5 x0.scopes.length c5] 29 (0,0)):=by rw [hZ];exact setRow_heap _ _ _ _ _ _ K9.out.res
      have hgz:ac y9 Z [r]:=by rw [hZ];exact ⟨rfl,rfl,rfl,by simp [World.setRow],fun k _ hk=>setRow_other _ _ _ _ (by simpa using hk)⟩
      obtain ⟨q0,q1,q2,q3,q4,q5,q6,q7,q8,q9,q10⟩:=cC11 hzr
      have HGZ:=aa9 hgz
      clear g0 g1 g2 g3 g4 g5 g6 g7 g8 g9 g10 hZ hzr hgz
      refine bodyPost_ret (v:= .agg #[sv tag,.int .i64 6,sv [],sv [],.bool u,.slice none 0 0,.int .i64 0,.int .i64 0,sv [],.bool x0.on,.slice p5 x0.scopes.length c5]) (by simp [results,Tryz.results66,go_sem,q0,q1,q2,q3,q4,q5,q6,q7,q8,q9,q10]) rfl ?_
      rw [HE2.out]
      have hTZ:=T9.out.apart HGZ.out (fun k hk=>by have:=T9.out.low k hk;have:=K9.out.lt;simp;omega)
      exact aA.some_ ⟨_,_,[],_,rfl,bA _ _,⟨hTZ.is,hTZ.nodup,fun k hk=>by have:=hTZ.low k hk;have:=K9.out.lt;have:=K9.out.lo;omega⟩,by simpa using hTZ.nodup,ac.below K9.out.rd.bel HGZ.out K9.out.rd.bel.size (fun k hk=>by rw [List.mem_singleton.1 hk];exact K9.out.lo)⟩
end Go.Proofs.YtmlgkoeacbeopaaGreatDoor
