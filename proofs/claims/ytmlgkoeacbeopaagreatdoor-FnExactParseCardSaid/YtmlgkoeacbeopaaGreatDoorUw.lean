/- Uw -/
import Derived.Test.YtmlgkoeacbeopaaGreatDoorUv
namespace Go.Proofs.YtmlgkoeacbeopaaGreatDoor
open Go.RowKit
def rv:List UInt8:=[85,73,68]
def bB (u:List UInt8):Nat→Int
 | 0=>0
 | k+1=>if an (kdW ((k+1:Nat):Int))=u then ((k+1:Nat):Int) else bB u k
theorem xK: ∀ k:Fin 16,k.val ≠ 0→bB (an (kdW (k.val:Int))) 15=(k.val:Int)∧an (kdW (k.val:Int)) ≠ rv:=by decide+kernel
theorem uo {k:Int} (h:1≤k∧k≤15):bB (an (kdW k)) 15=k∧an (kdW k) ≠ rv:=by
 have:=xK ⟨k.toNat,by omega⟩ (by show k.toNat ≠ 0;omega)
 have e:(((⟨k.toNat,by omega⟩:Fin 16).val:Nat):Int)=k:=by show (k.toNat:Int)=k;omega
 rwa [e] at this
theorem gz {u:List UInt8} : ∀ n:Nat,bB u n=0∨(1≤bB u n∧bB u n≤(n:Int)∧an (kdW (bB u n))=u)
 | 0=> .inl rfl
 | n+1=>by
   unfold bB
   split
   · next h=>exact .inr ⟨by omega,by omega,h⟩
   · rcases gz (u:=u) n with h | ⟨h1,h2,h3⟩
     · exact .inl h
     · exact .inr ⟨h1,by omega,h3⟩
theorem uq {u:List UInt8} {k:Int} (hk:1≤k∧k≤15) (h:an (kdW k)=u):bB u 15=k:=by
 rw [←h]
 exact (uo hk).1
def jJ (l:List Tok):Option (Int×List Tok):=(aq 1 l).bind fun z=>if bB (an z.1) 15=0 then none else some (bB (an z.1) 15,z.2)
def dH (kind:Int):List Tok→Option (List UInt8×List Tok)
 | []=>none
 | t::r=>if t.kind=kind then some (t.text,r) else none
theorem be (l:List Tok):dH 1 l=aq 1 l:=by
 cases l with
 | nil=>rfl
 | cons t r=>simp [dH,aq]
def setK (l:List Tok):Option (List Spn×List Tok):=(aq 1 l).bind fun z=>(bq z.1).map fun s=>(s,z.2)
def opK (l:List Tok):Option (Int×List Tok):=(aq 1 l).bind fun z=>(lN z.1).map fun n=>(n,z.2)
def ch (l:List Tok):Option (Int×List Tok):=(bc l).bind fun z=>(rdF 0 z.1).map fun n:Nat=>((n:Int),z.2)
def eC (l:List Tok):Option (Flt×List Tok):=(bL l).map fun f=>(f,[])
theorem ur {kind:Int} {l r:List Tok} {x:List UInt8} (h:dH kind l=some (x,r)): ∃ t∈l,x=t.text:=by
 cases l with
 | nil=>cases h
 | cons t s=>
   change (if t.kind=kind then some (t.text,s) else none)=some (x,r) at h
   by_cases hk:t.kind=kind
   · rw [if_pos hk] at h
     injection h with h
     injection h with h1 h2
     exact ⟨t,by simp,h1.symm⟩
   · rw [if_neg hk] at h
     cases h
theorem my {l r:List Tok} {ws:List (List UInt8)} (h:bc l=some (ws,r)):(∀ x∈ws,∃ t∈l,x=t.text)∧ws.length≤l.length∧(∀ t∈r,t∈l)∧r.length≤l.length:=by
 unfold bc at h
 obtain ⟨q,h1,h2⟩:=Option.bind_eq_some_iff.1 h
 obtain ⟨z,h3,h4⟩:=Option.bind_eq_some_iff.1 h2
 injection h4 with h4
 injection h4 with h5 h6
 have tp: ∀ {k:Int} {a b:List Tok} {x:List UInt8},aq k a=some (x,b)→(∀ t∈b,t∈a)∧b.length≤a.length:=by
  intro k a b x hh
  cases a with
  | nil=>cases hh
  | cons t s=>
    change (if t.kind=k∧(k=1∨t.text=[]) then some (t.text,s) else none)=some (x,b) at hh
    by_cases hk:t.kind=k∧(k=1∨t.text=[])
    · rw [if_pos hk] at hh
      injection hh with hh
      injection hh with _ hb
      subst hb
      exact ⟨fun u hu=>List.mem_cons_of_mem _ hu,by simp⟩
    · rw [if_neg hk] at hh
      cases hh
 obtain ⟨p1,p2⟩:=tp h1
 obtain ⟨p3,p4⟩:=tp h3
 have hs:=(List.dropWhile_sublist (l:=q.2) (p:=fE))
 have ht:=(List.takeWhile_sublist (l:=q.2) fE)
 subst h5 h6
 refine ⟨fun x hx=> ?_,?_,fun t htm=>p1 t (hs.subset (p3 t htm)),?_⟩
 · obtain ⟨t,ht1,rfl⟩:=List.mem_map.1 hx
   exact ⟨t,p1 t (ht.subset ht1),rfl⟩
 · rw [List.length_map]
   have:=ht.length_le
   omega
 · have:=hs.length_le
   omega
def dU (q:ap×List Tok):Option (ap×List Tok):=if ay q.1.kind=true then (aq 1 q.2).bind fun z=>(bq z.1).map fun s=>({ q.1 with sset:=s },z.2) else some q
def opP (q:ap×List Tok):Option (ap×List Tok):=if q.1.kind=8 then (aq 1 q.2).bind fun z=>(lN z.1).map fun n=>({ q.1 with op:=n },z.2) else some q
def eW (q:ap×List Tok):Option (ap×List Tok):=if ar q.1.kind=true then (aq 1 q.2).map fun z=>({ q.1 with box:=z.1 },z.2) else some q
def toP (q:ap×List Tok):Option (ap×List Tok):=if q.1.kind=14 then (aq 1 q.2).map fun z=>({ q.1 with dst:=z.1 },z.2) else some q
def bG (q:ap×List Tok):Option (ap×List Tok):=if q.1.kind=8∨q.1.kind=11 then (bc q.2).bind fun z=>(rdF 0 z.1).map fun n=>({ q.1 with flags:=(n:Int) },z.2) else some q
def fr:List Tok→Option (List UInt8×List Tok)
 | []=>none
 | t::r=>if t.kind=2 then some (t.text,r) else none
def cJ (q:ap×List Tok):Option (ap×List Tok):=if q.1.kind=11 then (fr q.2).map fun z=>({ q.1 with text:=z.1 },z.2) else some q
def bf (q:ap×List Tok):Option (ap×List Tok):=if q.1.kind=6 then (bL q.2).map fun f=>({ q.1 with filter:=f },[]) else some q
def bh (q:ap×List Tok):Option (ap×List Tok):=(dU q).bind fun q=>(opP q).bind fun q=>(eW q).bind fun q=>(toP q).bind fun q=>(bG q).bind fun q=>(cJ q).bind fun q=>bf q
def aV (tag:List UInt8) (uid:Bool) (k:Int):ap:=⟨tag,k,[],[],uid,[],0,0,[],⟨false,[]⟩⟩
def iR (q:ap×List Tok):Option ap:=if q.2=[]∧cg q.1=true then some q.1 else none
def j6 (tag:List UInt8) (uid:Bool) (z:List UInt8×List Tok):Option ap:=if bB (an z.1) 15=0 then none else (bh (aV tag uid (bB (an z.1) 15),z.2)).bind iR
def aM (l:List Tok):Option ap:=(aq 1 l).bind fun t=>(aq 1 t.2).bind fun w=>if an w.1=rv then (aq 1 w.2).bind fun z=>j6 t.1 true z else j6 t.1 false w
theorem zL (x:List UInt8) (r:List Tok):aq 1 (atT x::r)=some (x,r):=by simp [aq,atT]
theorem oZ:an zH=rv:=by decide+kernel
theorem iT (l:List Tok):dH 2 l=fr l:=by
 cases l with
 | nil=>rfl
 | cons t r=>rfl
def fY (c:ap) (r:List Tok):Option (ap×List Tok):=(aq 1 r).map fun z=>({ c with box:=z.1 },z.2)
def eD (c:ap) (r:List Tok):Option (ap×List Tok):=(aq 1 r).bind fun z=>(aq 1 z.2).map fun y=>({ c with box:=z.1,dst:=y.1 },y.2)
def dq (c:ap) (r:List Tok):Option (ap×List Tok):=(aq 1 r).bind fun z=>(ch z.2).bind fun y=>(dH 2 y.2).map fun x=>({ c with box:=z.1,flags:=y.1,text:=x.1 },x.2)
def ft (c:ap) (r:List Tok):Option (ap×List Tok):=(setK r).map fun z=>({ c with sset:=z.1 },z.2)
def ei (c:ap) (r:List Tok):Option (ap×List Tok):=(setK r).bind fun z=>(aq 1 z.2).map fun y=>({ c with sset:=z.1,box:=y.1 },y.2)
def cR (c:ap) (r:List Tok):Option (ap×List Tok):=(setK r).bind fun z=>(opK z.2).bind fun y=>(ch y.2).map fun x=>({ c with sset:=z.1,op:=y.1,flags:=x.1 },x.2)
def fZ (c:ap) (r:List Tok):Option (ap×List Tok):=(eC r).map fun z=>({ c with filter:=z.1 },z.2)
theorem se {k:Int} (h:k=2∨k=12∨k=13):ay k=false∧ar k=true∧ ¬k=8∧ ¬k=14∧ ¬(k=8∨k=11)∧ ¬k=11∧ ¬k=6:=by
 rcases h with rfl | rfl | rfl <;> decide
theorem ut {k:Int} (h:k=1∨k=3∨k=4∨k=5∨k=9∨k=15):ay k=false∧ar k=false∧ ¬k=8∧ ¬k=14∧ ¬(k=8∨k=11)∧ ¬k=11∧ ¬k=6:=by
 rcases h with rfl | rfl | rfl | rfl | rfl | rfl <;> decide
theorem mz {tag:List UInt8} {u:Bool} {k:Int} (h:k=1∨k=3∨k=4∨k=5∨k=9∨k=15) (r:List Tok):bh (aV tag u k,r)=some (aV tag u k,r):=by
 obtain ⟨h1,h2,h3,h4,h5,h6,h7⟩:=ut h
 simp [bh,dU,opP,eW,toP,bG,cJ,bf,aV,h1,h2,h3,h4,h6,h7]
theorem pa {tag:List UInt8} {u:Bool} {k:Int} (h:k=2∨k=12∨k=13) (r:List Tok):bh (aV tag u k,r)=fY (aV tag u k) r:=by
 obtain ⟨h1,h2,h3,h4,h5,h6,h7⟩:=se h
 cases hU:aq 1 r with
 | none=>simp [bh,fY,dU,opP,eW,aV,h1,h2,h3,hU]
 | some z=>simp [bh,fY,dU,opP,eW,toP,bG,cJ,bf,aV,h1,h2,h3,h4,h6,h7,hU]
theorem pb (tag:List UInt8) (u:Bool) (r:List Tok):bh (aV tag u 14,r)=eD (aV tag u 14) r:=by
 cases hU:aq 1 r with
 | none=>simp [bh,eD,dU,opP,eW,aV,ay,ar,hU]
 | some z=>
   cases hV:aq 1 z.2 with
   | none=>simp [bh,eD,dU,opP,eW,toP,aV,ay,ar,hU,hV]
   | some y=>simp [bh,eD,dU,opP,eW,toP,bG,cJ,bf,aV,ay,ar,hU,hV]
theorem pc (tag:List UInt8) (u:Bool) (r:List Tok):bh (aV tag u 11,r)=dq (aV tag u 11) r:=by
 cases hU:aq 1 r with
 | none=>simp [bh,dq,dU,opP,eW,aV,ay,ar,hU]
 | some z=>
   cases hV:bc z.2 with
   | none=>simp [bh,dq,ch,dU,opP,eW,toP,bG,aV,ay,ar,hU,hV]
   | some y=>
     cases hF:rdF 0 y.1 with
     | none=>simp [bh,dq,ch,dU,opP,eW,toP,bG,aV,ay,ar,hU,hV,hF]
     | some n=>
       cases hT:dH 2 y.2 with
       | none=>simp [bh,dq,ch,dU,opP,eW,toP,bG,cJ,aV,ay,ar,hU,hV,hF,hT,←iT]
       | some x=>simp [bh,dq,ch,dU,opP,eW,toP,bG,cJ,bf,aV,ay,ar,hU,hV,hF,hT,←iT]
theorem pd (tag:List UInt8) (u:Bool) (r:List Tok):bh (aV tag u 7,r)=ft (aV tag u 7) r:=by
 cases hU:aq 1 r with
 | none=>simp [bh,ft,setK,dU,aV,ay,hU]
 | some z=>
   cases hV:bq z.1 with
   | none=>simp [bh,ft,setK,dU,aV,ay,hU,hV]
   | some s=>simp [bh,ft,setK,dU,opP,eW,toP,bG,cJ,bf,aV,ay,ar,hU,hV]
theorem pe (tag:List UInt8) (u:Bool) (r:List Tok):bh (aV tag u 10,r)=ei (aV tag u 10) r:=by
 cases hU:aq 1 r with
 | none=>simp [bh,ei,setK,dU,aV,ay,hU]
 | some z=>
   cases hV:bq z.1 with
   | none=>simp [bh,ei,setK,dU,aV,ay,hU,hV]
   | some s=>
     cases hT:aq 1 z.2 with
     | none=>simp [bh,ei,setK,dU,opP,eW,aV,ay,ar,hU,hV,hT]
     | some y=>simp [bh,ei,setK,dU,opP,eW,toP,bG,cJ,bf,aV,ay,ar,hU,hV,hT]
theorem pf (tag:List UInt8) (u:Bool) (r:List Tok):bh (aV tag u 8,r)=cR (aV tag u 8) r:=by
 cases hU:aq 1 r with
 | none=>simp [bh,cR,setK,dU,aV,ay,hU]
 | some z=>
   cases hV:bq z.1 with
   | none=>simp [bh,cR,setK,dU,aV,ay,hU,hV]
   | some s=>
     cases hT:aq 1 z.2 with
     | none=>simp [bh,cR,setK,opK,dU,opP,aV,ay,hU,hV,hT]
     | some y=>
       cases hO:lN y.1 with
       | none=>simp [bh,cR,setK,opK,dU,opP,aV,ay,hU,hV,hT,hO]
       | some n=>
         cases hA:bc y.2 with
         | none=>simp [bh,cR,setK,opK,ch,dU,opP,eW,toP,bG,aV,ay,ar,hU,hV,hT,hO,hA]
         | some x=>
           cases hF:rdF 0 x.1 with
           | none=>simp [bh,cR,setK,opK,ch,dU,opP,eW,toP,bG,aV,ay,ar,hU,hV,hT,hO,hA,hF]
           | some m=>simp [bh,cR,setK,opK,ch,dU,opP,eW,toP,bG,cJ,bf,aV,ay,ar,hU,hV,hT,hO,hA,hF]
theorem pg (tag:List UInt8) (u:Bool) (r:List Tok):bh (aV tag u 6,r)=fZ (aV tag u 6) r:=by
 cases hU:bL r with
 | none=>simp [bh,fZ,eC,dU,opP,eW,toP,bG,cJ,bf,aV,ay,ar,hU]
 | some f=>simp [bh,fZ,eC,dU,opP,eW,toP,bG,cJ,bf,aV,ay,ar,hU]
def tsz:List Tok→Nat
 | []=>0
 | t::r=>1+t.text.length+tsz r
theorem uu (l:List Tok):co (aQ l)=tsz l:=by
 have h: ∀ l:List Tok,bg (l.flatMap Tok.lf)+l.length=tsz l:=by
  intro l
  induction l with
  | nil=>rfl
  | cons t r ih=>
    rw [List.flatMap_cons,cC,Tok.sz,List.length_cons]
    show _=1+t.text.length+tsz r
    omega
 show l.length+bg (l.flatMap Tok.lf)=tsz l
 rw [←h l]
 omega
theorem bN {kind:Int} {r r':List Tok} {x:List UInt8} (h:aq kind r=some (x,r')):tsz r=1+x.length+tsz r':=by
 cases r with
 | nil=>cases h
 | cons t s=>
   change (if t.kind=kind∧(kind=1∨t.text=[]) then some (t.text,s) else none)=some (x,r') at h
   by_cases hk:t.kind=kind∧(kind=1∨t.text=[])
   · rw [if_pos hk] at h
     injection h with h
     injection h with h1 h2
     subst h1 h2
     rfl
   · rw [if_neg hk] at h
     cases h
theorem ph {kind:Int} {r r':List Tok} {x:List UInt8} (h:dH kind r=some (x,r')):tsz r=1+x.length+tsz r':=by
 cases r with
 | nil=>cases h
 | cons t s=>
   change (if t.kind=kind then some (t.text,s) else none)=some (x,r') at h
   by_cases hk:t.kind=kind
   · rw [if_pos hk] at h
     injection h with h
     injection h with h1 h2
     subst h1 h2
     rfl
   · rw [if_neg hk] at h
     cases h
theorem rx: ∀ r:List Tok,tsz r=tsz (r.dropWhile fE)+((r.takeWhile fE).map (·.text)).length+szl ((r.takeWhile fE).map (·.text))
 | []=>rfl
 | t::r=>by
   have ih:=rx r
   cases h:fE t with
   | true=>
     rw [List.dropWhile_cons_of_pos h,List.takeWhile_cons_of_pos h]
     show 1+t.text.length+tsz r=_
     simp only [List.map_cons,List.length_cons,szl,List.foldr_cons] at ih ⊢
     omega
   | false=>
     rw [List.dropWhile_cons_of_neg (by rw [h];decide),List.takeWhile_cons_of_neg (by rw [h];decide)]
     simp [szl]
theorem gB {r r':List Tok} {ws:List (List UInt8)} (h:bc r=some (ws,r')):tsz r'+ws.length+szl ws+2≤tsz r:=by
 unfold bc at h
 obtain ⟨q,h1,h2⟩:=Option.bind_eq_some_iff.1 h
 obtain ⟨z,h3,h4⟩:=Option.bind_eq_some_iff.1 h2
 injection h4 with h4
 injection h4 with h5 h6
 have e1:=bN (show aq 3 r=some (q.1,q.2) from h1)
 have e3:=bN (show aq 4 _=some (z.1,z.2) from h3)
 have e2:=rx q.2
 rw [h5] at e2
 rw [h6] at e3
 omega
theorem xL {kd:Int} {r r':List Tok} {ws:List (List UInt8)} (h:nmP kd r=some (ws,r')):tsz r'+ws.length+szl ws≤tsz r:=by
 unfold nmP at h
 by_cases hk:3≤kd
 · rw [if_pos hk] at h
   have:=gB h
   omega
 · rw [if_neg hk] at h
   injection h with h
   injection h with h1 h2
   subst h1 h2
   simp [szl]
theorem sf {r r':List Tok} {s:Scp} (h:fV r=some (s,r')):tsz r'+1+s.names.length+szl s.names≤tsz r:=by
 unfold fV at h
 obtain ⟨q0,h0,h⟩:=Option.bind_eq_some_iff.1 h
 obtain ⟨q1,h1,h⟩:=Option.bind_eq_some_iff.1 h
 obtain ⟨q2,h2,h⟩:=Option.bind_eq_some_iff.1 h
 obtain ⟨q3,h3,h⟩:=Option.bind_eq_some_iff.1 h
 obtain ⟨q4,h4,h⟩:=Option.bind_eq_some_iff.1 h
 obtain ⟨q5,h5,h⟩:=Option.bind_eq_some_iff.1 h
 injection h with h
 injection h with h6 h7
 have e0:=bN (show aq 3 r=some (q0.1,q0.2) from h0)
 have e1:=bN (show aq 1 _=some (q1.1,q1.2) from h1)
 have e2:=xL (show nmP _ _=some (q2.1,q2.2) from h2)
 have e3:=gB (show bc _=some (q3.1,q3.2) from h3)
 have e4:=bN (show aq 4 _=some (q4.1,q4.2) from h4)
 have e5:q5.2=q4.2:=by
  unfold sa at h5
  obtain ⟨b,_,hb⟩:=Option.map_eq_some_iff.1 h5
  rw [←hb]
 subst h6
 rw [←h7,e5]
 show tsz q4.2+1+q2.1.length+szl q2.1≤tsz r
 omega
theorem lv: ∀ (n:Nat) (r:List Tok) (ss:List Scp),cF n r=some ss→co (aj ss)≤tsz r
 | 0,_,_,h=>by cases h
 | n+1,r,ss,h=>by
   unfold cF at h
   by_cases hr:r=[]
   · rw [if_pos hr] at h
     injection h with h
     subst h
     exact Nat.zero_le _
   · rw [if_neg hr] at h
     obtain ⟨q,h1,h2⟩:=Option.bind_eq_some_iff.1 h
     obtain ⟨ts,h3,h4⟩:=Option.map_eq_some_iff.1 h2
     have e1:=sf (show fV r=some (q.1,q.2) from h1)
     have e2:=lv n q.2 ts h3
     subst h4
     change ts.length+bg (ts.flatMap Scp.lf)≤tsz q.2 at e2
     show (ts.length+1)+bg ((q.1::ts).flatMap Scp.lf)≤tsz r
     rw [List.flatMap_cons,cC,Scp.sz,fQ]
     omega
theorem uv {r:List Tok} {f:Flt} (h:bL r=some f):co (aj f.scopes)≤tsz r:=by
 unfold bL at h
 obtain ⟨q,h1,h2⟩:=Option.bind_eq_some_iff.1 h
 have e1:=bN (show aq 1 r=some (q.1,q.2) from h1)
 have fin: ∀ f':Flt,nQ f'=some f→f=f':=by
  intro f' hf
  unfold nQ at hf
  by_cases hb:aN f'=true
  · rw [if_pos hb] at hf;injection hf with hf;exact hf.symm
  · rw [if_neg hb] at hf;cases hf
 by_cases hs:an q.1=wg
 · rw [if_pos hs] at h2
   obtain ⟨ss,h3,h4⟩:=Option.bind_eq_some_iff.1 h2
   have e2:=lv _ _ _ h3
   rw [fin _ h4]
   show co (aj ss)≤tsz r
   omega
 · rw [if_neg hs] at h2
   by_cases hn:an q.1=lk
   · rw [if_pos hn] at h2
     by_cases hq:q.2=[]
     · rw [if_pos hq] at h2
       rw [fin _ h2]
       exact Nat.zero_le _
     · rw [if_neg hq] at h2;cases h2
   · rw [if_neg hn] at h2;cases h2
theorem pi {z:List UInt8} {s:List Spn} (h:bq z=some s):s.length≤1+z.length:=by
 unfold bq at h
 by_cases hc:z=[]∨fJ (pL z) ≠ z
 · rw [if_pos hc] at h;cases h
 · rw [if_neg hc] at h
   injection h with h
   rw [←h]
   unfold pL
   split
   · rw [List.length_map]
     have:=dP 44 z
     omega
   · exact Nat.zero_le _
theorem qz (s:List Spn):co (am s)=s.length:=by
 have h: ∀ s:List Spn,bg (s.flatMap Spn.lf)=0:=by
  intro s
  induction s with
  | nil=>rfl
  | cons x s ih=>rw [List.flatMap_cons,cC,Spn.sz,ih]
 show s.length+bg (s.flatMap Spn.lf)=s.length
 rw [h]
 omega
theorem zM {r r':List Tok} {s:List Spn} (h:setK r=some (s,r')):co (am s)+tsz r'≤tsz r:=by
 unfold setK at h
 obtain ⟨z,h1,h2⟩:=Option.bind_eq_some_iff.1 h
 obtain ⟨s',h3,h4⟩:=Option.map_eq_some_iff.1 h2
 injection h4 with h5 h6
 have e1:=bN (show aq 1 r=some (z.1,z.2) from h1)
 have e2:=pi h3
 subst h5 h6
 rw [qz]
 omega
theorem aak {r r':List Tok} {n:Int} (h:opK r=some (n,r')):tsz r'≤tsz r:=by
 unfold opK at h
 obtain ⟨z,h1,h2⟩:=Option.bind_eq_some_iff.1 h
 obtain ⟨s',h3,h4⟩:=Option.map_eq_some_iff.1 h2
 injection h4 with h5 h6
 have e1:=bN (show aq 1 r=some (z.1,z.2) from h1)
 subst h6
 omega
theorem yh {r r':List Tok} {n:Int} (h:ch r=some (n,r')):tsz r'≤tsz r:=by
 unfold ch at h
 obtain ⟨z,h1,h2⟩:=Option.bind_eq_some_iff.1 h
 obtain ⟨s',h3,h4⟩:=Option.map_eq_some_iff.1 h2
 injection h4 with h5 h6
 have e1:=gB (show bc r=some (z.1,z.2) from h1)
 subst h6
 omega
theorem lw {α:Type} {o:Option α} {d:α} {l:List Tok} {a:Nat} {b:Bool} (ha:a≤l.length):aK (fun r=>o.map fun y=>(y,r)) l a b (o.getD d) a (b || o.isNone) where
 yes h:=by
  cases o with
  | none=>simp at h
  | some y=>
    have hb:b=false:=by simpa using h
    exact ⟨hb,rfl⟩
 no h0 h:=by
  cases o with
  | none=>rfl
  | some y=>rw [h0] at h;simp at h
 le:=ha
theorem aK.map {α β:Type} {P:List Tok→Option (α×List Tok)} {l:List Tok} {a a':Nat} {b b':Bool} {x:α} (h:aK P l a b x a' b') (f:α→β):aK (fun r=>(P r).map fun q=>(f q.1,q.2)) l a b (f x) a' b' where
 yes hb:=by
  obtain ⟨h1,h2⟩:=h.yes hb
  exact ⟨h1,by rw [h2];rfl⟩
 no h0 hb:=by rw [h.no h0 hb];rfl
 le:=h.le
theorem aK.skip {α:Type} {l:List Tok} {a:Nat} {b:Bool} {x:α} (ha:a≤l.length):aK (fun r=>some (x,r)) l a b x a b where
 yes h:=⟨h,rfl⟩
 no h0 h:=by rw [h0] at h;cases h
 le:=ha
theorem aK.lost {α:Type} {P:List Tok→Option (α×List Tok)} {l:List Tok} {a a':Nat} {x:α} (ha:a'≤l.length):aK P l a true x a' true where
 yes h:=by cases h
 no h:=by cases h
 le:=ha
theorem aK.other {α:Type} {P:List Tok→Option (α×List Tok)} {l:List Tok} {a a':Nat} {b:Bool} {x:α} (h:aK P l a b x a' true) (y:α):aK P l a b y a' true where
 yes h:=by cases h
 no:=h.no
 le:=h.le
theorem aK.of_eq {α:Type} {P Q:List Tok→Option (α×List Tok)} {l:List Tok} {a a':Nat} {b b':Bool} {x:α} (h:aK P l a b x a' b') (e: ∀ r,Q r=P r):aK Q l a b x a' b' where
 yes hb:=by rw [e];exact h.yes hb
 no h0 hb:=by rw [e];exact h.no h0 hb
 le:=h.le
section
variable {l:List Tok} {a a':Nat} {b b':Bool} {q:ap} {x:List UInt8}
theorem lx (hk:ay q.kind=true) (h:aK (aq 1) l a b x a' b'):aK (fun r=>dU (q,r)) l a b { q with sset:=(bq x).getD [] } a' (b' || (bq x).isNone):=
 (h.bind (Q:=fun x r=>((bq x).map fun y=>(y,r)).map fun s=>({ q with sset:=s.1 },s.2)) ((lw (d:=[]) h.le).map fun s=>({ q with sset:=s } :ap))).of_eq fun r=>by
  unfold dU
  rw [if_pos hk]
  congr 1
  funext z
  cases bq z.1 <;> rfl
theorem ga (hk:ay q.kind=false) (ha:a≤l.length):aK (fun r=>dU (q,r)) l a b q a b:=
 (aK.skip ha).of_eq fun r=>by unfold dU;rw [if_neg (by rw [hk];decide)]
theorem wu (hk:q.kind=8) (h:aK (aq 1) l a b x a' b'):aK (fun r=>opP (q,r)) l a b { q with op:=(lN x).getD 0 } a' (b' || (lN x).isNone):=
 (h.bind (Q:=fun x r=>((lN x).map fun y=>(y,r)).map fun s=>({ q with op:=s.1 },s.2)) ((lw (d:=0) h.le).map fun s=>({ q with op:=s } :ap))).of_eq fun r=>by
  unfold opP
  rw [if_pos hk]
  congr 1
  funext z
  cases lN z.1 <;> rfl
theorem fu (hk: ¬q.kind=8) (ha:a≤l.length):aK (fun r=>opP (q,r)) l a b q a b:=
 (aK.skip ha).of_eq fun r=>by unfold opP;rw [if_neg hk]
theorem iU (hk:ar q.kind=true) (h:aK (aq 1) l a b x a' b'):aK (fun r=>eW (q,r)) l a b { q with box:=x } a' b':=
 (h.map fun s=>({ q with box:=s } :ap)).of_eq fun r=>by unfold eW;rw [if_pos hk]
theorem iV (hk:ar q.kind=false) (ha:a≤l.length):aK (fun r=>eW (q,r)) l a b q a b:=
 (aK.skip ha).of_eq fun r=>by unfold eW;rw [if_neg (by rw [hk];decide)]
theorem wv (hk:q.kind=14) (h:aK (aq 1) l a b x a' b'):aK (fun r=>toP (q,r)) l a b { q with dst:=x } a' b':=
 (h.map fun s=>({ q with dst:=s } :ap)).of_eq fun r=>by unfold toP;rw [if_pos hk]
theorem fw (hk: ¬q.kind=14) (ha:a≤l.length):aK (fun r=>toP (q,r)) l a b q a b:=
 (aK.skip ha).of_eq fun r=>by unfold toP;rw [if_neg hk]
theorem qA {ws:List (List UInt8)} (h:aK bc l a b ws a' b'):aK ch l a b (((rdF 0 ws).map fun n:Nat=>(n:Int)).getD 0) a' (b' || (rdF 0 ws).isNone):=by
 have h1:=(h.bind (Q:=fun ws r=>((rdF 0 ws).map fun n:Nat=>(n:Int)).map fun y=>(y,r)) (lw (d:=0) h.le)).of_eq (Q:=ch) fun r=>by
  unfold ch
  congr 1
  funext z
  cases rdF 0 z.1 <;> rfl
 have h2:((rdF 0 ws).map fun n:Nat=>(n:Int)).isNone=(rdF 0 ws).isNone:=by cases rdF 0 ws <;> rfl
 rw [h2] at h1
 exact h1
theorem ly {n:Int} (hk:q.kind=8∨q.kind=11) (h:aK ch l a b n a' b'):aK (fun r=>bG (q,r)) l a b { q with flags:=n } a' b':=
 (h.map fun s=>({ q with flags:=s } :ap)).of_eq fun r=>by
  unfold bG ch
  rw [if_pos hk]
  show (bc r).bind _=_
  cases bc r with
  | none=>rfl
  | some z=>
    simp only [Option.bind_some]
    cases rdF 0 z.1 <;> rfl
theorem dt (hk: ¬(q.kind=8∨q.kind=11)) (ha:a≤l.length):aK (fun r=>bG (q,r)) l a b q a b:=
 (aK.skip ha).of_eq fun r=>by unfold bG;rw [if_neg hk]
theorem jK (hk:q.kind=11) (h:aK fr l a b x a' b'):aK (fun r=>cJ (q,r)) l a b { q with text:=x } a' b':=
 (h.map fun s=>({ q with text:=s } :ap)).of_eq fun r=>by unfold cJ;rw [if_pos hk]
theorem du (hk: ¬q.kind=11) (ha:a≤l.length):aK (fun r=>cJ (q,r)) l a b q a b:=
 (aK.skip ha).of_eq fun r=>by unfold cJ;rw [if_neg hk]
theorem pj {t:Tok} (ht:l[a]? =some t) (hk:t.kind=2):aK fr l a b t.text (a+1) b where
 yes h:=⟨h,by
  have hlt:=(List.getElem?_eq_some_iff.1 ht).1
  have he:=(List.getElem?_eq_some_iff.1 ht).2
  rw [List.drop_eq_getElem_cons hlt,he]
  exact if_pos hk⟩
 no h0 h:=by rw [h0] at h;cases h
 le:=(List.getElem?_eq_some_iff.1 ht).1
theorem iW (hn: ∀ t,l[a]? =some t→ ¬t.kind=2) (ha:a≤l.length):aK fr l a b [] a true where
 yes h:=by cases h
 no h0 h:=by
  rcases Nat.lt_or_ge a l.length with hlt | hge
  · rw [List.drop_eq_getElem_cons hlt]
    exact if_neg (hn _ (List.getElem?_eq_getElem hlt))
  · rw [List.drop_of_length_le hge]
    rfl
 le:=ha
theorem pk (hk:q.kind=6) (_ha:a≤l.length):aK (fun r=>bf (q,r)) l a false { q with filter:=(bL (l.drop a)).getD ⟨false,[]⟩ } l.length (bL (l.drop a)).isNone where
 yes h:=by
  refine ⟨rfl,?_⟩
  unfold bf
  rw [if_pos hk]
  cases hr:bL (l.drop a) with
  | none=>rw [hr] at h;cases h
  | some f=>simp
 no _ h:=by
  unfold bf
  rw [if_pos hk]
  cases hr:bL (l.drop a) with
  | none=>simp
  | some f=>rw [hr] at h;cases h
 le:=Nat.le_refl _
theorem ca (hk: ¬q.kind=6) (ha:a≤l.length):aK (fun r=>bf (q,r)) l a b q a b:=
 (aK.skip ha).of_eq fun r=>by unfold bf;rw [if_neg hk]
end
def nR (c:ap) (r:List Tok):Option (ap×List Tok):=(dU (c,r)).bind opP
def nS (c:ap) (r:List Tok):Option (ap×List Tok):=(nR c r).bind eW
def nT (c:ap) (r:List Tok):Option (ap×List Tok):=(nS c r).bind toP
def mB (c:ap) (r:List Tok):Option (ap×List Tok):=(nT c r).bind bG
def lO (c:ap) (r:List Tok):Option (ap×List Tok):=(mB c r).bind cJ
def sI (c:ap) (r:List Tok):Option (ap×List Tok):=(lO c r).bind bf
theorem cN (c:ap) (r:List Tok):bh (c,r)=sI c r:=by
 unfold sI lO mB nT nS nR bh
 simp only [Option.bind_assoc]
theorem aZ {α β:Type} {o:Option α} {f:α→Option β} {y:β} (h:o.bind f=some y): ∃ x,o=some x∧f x=some y:=Option.bind_eq_some_iff.1 h
theorem ww {q q':ap} {r r':List Tok} (h:dU (q,r)=some (q',r')):bg q'.lf+tsz r'≤bg q.lf+tsz r:=by
 by_cases hk:ay q.kind=true
 · rw [show dU (q,r)=(aq 1 r).bind fun z=>(bq z.1).map fun s=>({ q with sset:=s },z.2) from if_pos hk] at h
   obtain ⟨z,h1,h2⟩:=aZ h
   obtain ⟨s,h3,h4⟩:=Option.map_eq_some_iff.1 h2
   injection h4 with h5 h6
   subst h5 h6
   have e1:=bN (show aq 1 r=some (z.1,z.2) from h1)
   have e2:=pi h3
   rw [ap.sz,ap.sz]
   show q.tag.length+q.box.length+q.dst.length+co (am s)+q.text.length+co (aj q.filter.scopes)+tsz z.2≤_
   rw [qz s]
   omega
 · rw [show dU (q,r)=some (q,r) from if_neg hk] at h
   injection h with h
   injection h with h1 h2
   subst h1 h2
   exact Nat.le_refl _
theorem xM {q q':ap} {r r':List Tok} (h:opP (q,r)=some (q',r')):bg q'.lf+tsz r'≤bg q.lf+tsz r:=by
 by_cases hk:q.kind=8
 · rw [show opP (q,r)=(aq 1 r).bind fun z=>(lN z.1).map fun s=>({ q with op:=s },z.2) from if_pos hk] at h
   obtain ⟨z,h1,h2⟩:=aZ h
   obtain ⟨s,h3,h4⟩:=Option.map_eq_some_iff.1 h2
   injection h4 with h5 h6
   subst h5 h6
   have e1:=bN (show aq 1 r=some (z.1,z.2) from h1)
   rw [ap.sz,ap.sz]
   show q.tag.length+q.box.length+q.dst.length+co (am q.sset)+q.text.length+co (aj q.filter.scopes)+tsz z.2≤_
   omega
 · rw [show opP (q,r)=some (q,r) from if_neg hk] at h
   injection h with h
   injection h with h1 h2
   subst h1 h2
   exact Nat.le_refl _
theorem wy {q q':ap} {r r':List Tok} (h:eW (q,r)=some (q',r')):bg q'.lf+tsz r'≤bg q.lf+tsz r:=by
 by_cases hk:ar q.kind=true
 · rw [show eW (q,r)=(aq 1 r).map fun z=>({ q with box:=z.1 },z.2) from if_pos hk] at h
   obtain ⟨z,h1,h4⟩:=Option.map_eq_some_iff.1 h
   injection h4 with h5 h6
   subst h5 h6
   have e1:=bN (show aq 1 r=some (z.1,z.2) from h1)
   rw [ap.sz,ap.sz]
   show q.tag.length+z.1.length+q.dst.length+co (am q.sset)+q.text.length+co (aj q.filter.scopes)+tsz z.2≤_
   omega
 · rw [show eW (q,r)=some (q,r) from if_neg hk] at h
   injection h with h
   injection h with h1 h2
   subst h1 h2
   exact Nat.le_refl _
theorem xN {q q':ap} {r r':List Tok} (h:toP (q,r)=some (q',r')):bg q'.lf+tsz r'≤bg q.lf+tsz r:=by
 by_cases hk:q.kind=14
 · rw [show toP (q,r)=(aq 1 r).map fun z=>({ q with dst:=z.1 },z.2) from if_pos hk] at h
   obtain ⟨z,h1,h4⟩:=Option.map_eq_some_iff.1 h
   injection h4 with h5 h6
   subst h5 h6
   have e1:=bN (show aq 1 r=some (z.1,z.2) from h1)
   rw [ap.sz,ap.sz]
   show q.tag.length+q.box.length+z.1.length+co (am q.sset)+q.text.length+co (aj q.filter.scopes)+tsz z.2≤_
   omega
 · rw [show toP (q,r)=some (q,r) from if_neg hk] at h
   injection h with h
   injection h with h1 h2
   subst h1 h2
   exact Nat.le_refl _
theorem sg {q q':ap} {r r':List Tok} (h:bG (q,r)=some (q',r')):bg q'.lf+tsz r'≤bg q.lf+tsz r:=by
 by_cases hk:q.kind=8∨q.kind=11
 · rw [show bG (q,r)=_ from if_pos hk] at h
   obtain ⟨z,h1,h2⟩:=aZ h
   obtain ⟨s,h3,h4⟩:=Option.map_eq_some_iff.1 h2
   injection h4 with h5 h6
   subst h5 h6
   have e1:=gB (show bc r=some (z.1,z.2) from h1)
   rw [ap.sz,ap.sz]
   show q.tag.length+q.box.length+q.dst.length+co (am q.sset)+q.text.length+co (aj q.filter.scopes)+tsz z.2≤_
   omega
 · rw [show bG (q,r)=some (q,r) from if_neg hk] at h
   injection h with h
   injection h with h1 h2
   subst h1 h2
   exact Nat.le_refl _
theorem uw {q q':ap} {r r':List Tok} (h:cJ (q,r)=some (q',r')):bg q'.lf+tsz r'≤bg q.lf+tsz r:=by
 by_cases hk:q.kind=11
 · rw [show cJ (q,r)=(fr r).map fun z=>({ q with text:=z.1 },z.2) from if_pos hk] at h
   obtain ⟨z,h1,h4⟩:=Option.map_eq_some_iff.1 h
   injection h4 with h5 h6
   subst h5 h6
   have e1:=ph (show dH 2 r=some (z.1,z.2) from by rw [iT];exact h1)
   rw [ap.sz,ap.sz]
   show q.tag.length+q.box.length+q.dst.length+co (am q.sset)+z.1.length+co (aj q.filter.scopes)+tsz z.2≤_
   omega
 · rw [show cJ (q,r)=some (q,r) from if_neg hk] at h
   injection h with h
   injection h with h1 h2
   subst h1 h2
   exact Nat.le_refl _
theorem qB {q q':ap} {r r':List Tok} (h:bf (q,r)=some (q',r')):bg q'.lf+tsz r'≤bg q.lf+tsz r:=by
 by_cases hk:q.kind=6
 · rw [show bf (q,r)=(bL r).map fun f=>({ q with filter:=f },[]) from if_pos hk] at h
   obtain ⟨z,h1,h4⟩:=Option.map_eq_some_iff.1 h
   injection h4 with h5 h6
   subst h5 h6
   have e1:=uv h1
   rw [ap.sz,ap.sz]
   show q.tag.length+q.box.length+q.dst.length+co (am q.sset)+q.text.length+co (aj z.scopes)+0≤_
   omega
 · rw [show bf (q,r)=some (q,r) from if_neg hk] at h
   injection h with h
   injection h with h1 h2
   subst h1 h2
   exact Nat.le_refl _
theorem pl {q q':ap} {r r':List Tok} (h:bh (q,r)=some (q',r')):bg q'.lf+tsz r'≤bg q.lf+tsz r:=by
 unfold bh at h
 obtain ⟨q1,h1,h⟩:=aZ h
 obtain ⟨q2,h2,h⟩:=aZ h
 obtain ⟨q3,h3,h⟩:=aZ h
 obtain ⟨q4,h4,h⟩:=aZ h
 obtain ⟨q5,h5,h⟩:=aZ h
 obtain ⟨q6,h6,h⟩:=aZ h
 have e1:=ww (show dU (q,r)=some (q1.1,q1.2) from h1)
 have e2:=xM (show opP (q1.1,q1.2)=some (q2.1,q2.2) from h2)
 have e3:=wy (show eW (q2.1,q2.2)=some (q3.1,q3.2) from h3)
 have e4:=xN (show toP (q3.1,q3.2)=some (q4.1,q4.2) from h4)
 have e5:=sg (show bG (q4.1,q4.2)=some (q5.1,q5.2) from h5)
 have e6:=uw (show cJ (q5.1,q5.2)=some (q6.1,q6.2) from h6)
 have e7:=qB (show bf (q6.1,q6.2)=some (q',r') from h)
 omega
def cK (l:List Tok):Prop:= ∀ t∈l,t.text.length≤1000
structure fF (q:ap):Prop where
 tag:q.tag.length≤1000
 box:q.box.length≤1000
 dst:q.dst.length≤1000
 text:q.text.length≤1000
 sset:q.sset.length≤5
 filter:co (aj q.filter.scopes)≤1000
theorem fF.sz {q:ap} (h:fF q):bg q.lf≤1048576:=by
 have h1:=h.tag
 have h2:=h.box
 have h3:=h.dst
 have h4:=h.text
 have h5:=h.sset
 have h6:=h.filter
 rw [ap.sz,qz]
 omega
theorem nJ {kind:Int} {r r':List Tok} {x:List UInt8} (h:dH kind r=some (x,r')) (ht:cK r):x.length≤1000∧cK r':=by
 cases r with
 | nil=>cases h
 | cons t s=>
   change (if t.kind=kind then some (t.text,s) else none)=some (x,r') at h
   by_cases hk:t.kind=kind
   · rw [if_pos hk] at h
     injection h with h
     injection h with h1 h2
     subst h1 h2
     exact ⟨ht t (by simp),fun u hu=>ht u (by simp [hu])⟩
   · rw [if_neg hk] at h
     cases h
theorem es {r r':List Tok} {x:List UInt8} (h:aq 1 r=some (x,r')) (ht:cK r):x.length≤1000∧cK r':=nJ (by rw [be];exact h) ht
theorem pm {l:List (List UInt8)} (h:iA l=true): ∀ x∈l,aH x=true:=by
 intro x hx
 obtain ⟨i,hi,hix⟩:=List.getElem_of_mem hx
 have hg:l[i]? =some x:=by rw [List.getElem?_eq_getElem hi,hix]
 unfold iA at h
 have hs:=List.all_eq_true.1 h i (by simpa using hi)
 cases i with
 | zero=>rw [fS hg] at hs;exact hs
 | succ j=>
   rw [iB (y:=l[j]'(by omega)) (List.getElem?_eq_getElem (by omega)) hg,Bool.and_eq_true] at hs
   exact hs.1
theorem xO {l:List (List UInt8)} {n:Nat} (h: ∀ x∈l,x.length≤n):szl l≤l.length * n:=by
 induction l with
 | nil=>simp [szl]
 | cons a l ih=>
   have h1:=ih (fun x hx=>h x (by simp [hx]))
   have h2:=h a (by simp)
   show a.length+szl l≤_
   rw [List.length_cons,Nat.succ_mul]
   omega
theorem wA {s:Scp} (h:bp s=true):bg s.lf≤39:=by
 rw [Scp.sz,fQ]
 have hn:s.names.length≤3∧ ∀ x∈s.names,x.length≤12:=by
  unfold bp at h
  simp only [Bool.and_eq_true] at h
  obtain ⟨_,h⟩:=h
  by_cases hk:s.kind < 3
  · rw [if_pos hk] at h
    have h0:s.names.length=0:=by simpa using h
    refine ⟨by omega,fun x hx=> ?_⟩
    rw [List.eq_nil_of_length_eq_zero h0] at hx
    cases hx
  · rw [if_neg hk] at h
    simp only [Bool.and_eq_true,decide_eq_true_eq] at h
    exact ⟨by omega,fun x hx=>tf (pm h.1 x hx)⟩
 have:=xO hn.2
 have h3:s.names.length * 12≤3 * 12:=Nat.mul_le_mul_right _ hn.1
 omega
theorem ux {f:Flt} (h:aN f=true):co (aj f.scopes)≤1000:=by
 unfold aN at h
 simp only [Bool.and_eq_true,List.all_eq_true] at h
 obtain ⟨h1,h2⟩:=h
 have hn:f.scopes.length≤3:=by
  cases hon:f.on with
  | true=>
    rw [hon] at h2
    simp only [if_true,Bool.and_eq_true,decide_eq_true_eq] at h2
    omega
  | false=>
    rw [hon] at h2
    have h0:f.scopes.length=0:=by simpa using h2
    omega
 have hs: ∀ l:List Scp,(∀ s∈l,bp s=true)→bg (l.flatMap Scp.lf)≤l.length * 39:=by
  intro l
  induction l with
  | nil=>intro _;simp [bg]
  | cons a l ih=>
    intro h
    have e1:=ih (fun x hx=>h x (by simp [hx]))
    have e2:=wA (h a (by simp))
    rw [List.flatMap_cons,cC,List.length_cons,Nat.succ_mul]
    omega
 have h3:=hs f.scopes h1
 have h4:f.scopes.length * 39≤3 * 39:=Nat.mul_le_mul_right _ hn
 show f.scopes.length+bg (f.scopes.flatMap Scp.lf)≤1000
 omega
theorem uy {r:List Tok} {f:Flt} (h:bL r=some f):co (aj f.scopes)≤1000:=ux (jI h)
theorem si {z:List UInt8} {s:List Spn} (h:bq z=some s):s.length≤5:=(cX (eU h).1).2.2
theorem xP {q q':ap} {r r':List Tok} (h:dU (q,r)=some (q',r')) (hq:fF q) (ht:cK r):fF q'∧cK r':=by
 by_cases hk:ay q.kind=true
 · rw [show dU (q,r)=(aq 1 r).bind fun z=>(bq z.1).map fun s=>({ q with sset:=s },z.2) from if_pos hk] at h
   obtain ⟨z,h1,h2⟩:=aZ h
   obtain ⟨s,h3,h4⟩:=Option.map_eq_some_iff.1 h2
   injection h4 with h5 h6
   subst h5 h6
   have e1:=es (show aq 1 r=some (z.1,z.2) from h1) ht
   exact ⟨⟨hq.tag,hq.box,hq.dst,hq.text,si h3,hq.filter⟩,e1.2⟩
 · rw [show dU (q,r)=some (q,r) from if_neg hk] at h
   injection h with h
   injection h with h1 h2
   subst h1 h2
   exact ⟨hq,ht⟩
theorem yZ {q q':ap} {r r':List Tok} (h:opP (q,r)=some (q',r')) (hq:fF q) (ht:cK r):fF q'∧cK r':=by
 by_cases hk:q.kind=8
 · rw [show opP (q,r)=(aq 1 r).bind fun z=>(lN z.1).map fun s=>({ q with op:=s },z.2) from if_pos hk] at h
   obtain ⟨z,h1,h2⟩:=aZ h
   obtain ⟨s,h3,h4⟩:=Option.map_eq_some_iff.1 h2
   injection h4 with h5 h6
   subst h5 h6
   have e1:=es (show aq 1 r=some (z.1,z.2) from h1) ht
   exact ⟨⟨hq.tag,hq.box,hq.dst,hq.text,hq.sset,hq.filter⟩,e1.2⟩
 · rw [show opP (q,r)=some (q,r) from if_neg hk] at h
   injection h with h
   injection h with h1 h2
   subst h1 h2
   exact ⟨hq,ht⟩
theorem xQ {q q':ap} {r r':List Tok} (h:eW (q,r)=some (q',r')) (hq:fF q) (ht:cK r):fF q'∧cK r':=by
 by_cases hk:ar q.kind=true
 · rw [show eW (q,r)=(aq 1 r).map fun z=>({ q with box:=z.1 },z.2) from if_pos hk] at h
   obtain ⟨z,h1,h4⟩:=Option.map_eq_some_iff.1 h
   injection h4 with h5 h6
   subst h5 h6
   have e1:=es (show aq 1 r=some (z.1,z.2) from h1) ht
   exact ⟨⟨hq.tag,e1.1,hq.dst,hq.text,hq.sset,hq.filter⟩,e1.2⟩
 · rw [show eW (q,r)=some (q,r) from if_neg hk] at h
   injection h with h
   injection h with h1 h2
   subst h1 h2
   exact ⟨hq,ht⟩
theorem za {q q':ap} {r r':List Tok} (h:toP (q,r)=some (q',r')) (hq:fF q) (ht:cK r):fF q'∧cK r':=by
 by_cases hk:q.kind=14
 · rw [show toP (q,r)=(aq 1 r).map fun z=>({ q with dst:=z.1 },z.2) from if_pos hk] at h
   obtain ⟨z,h1,h4⟩:=Option.map_eq_some_iff.1 h
   injection h4 with h5 h6
   subst h5 h6
   have e1:=es (show aq 1 r=some (z.1,z.2) from h1) ht
   exact ⟨⟨hq.tag,hq.box,e1.1,hq.text,hq.sset,hq.filter⟩,e1.2⟩
 · rw [show toP (q,r)=some (q,r) from if_neg hk] at h
   injection h with h
   injection h with h1 h2
   subst h1 h2
   exact ⟨hq,ht⟩
theorem uA {q q':ap} {r r':List Tok} (h:bG (q,r)=some (q',r')) (hq:fF q) (ht:cK r):fF q'∧cK r':=by
 by_cases hk:q.kind=8∨q.kind=11
 · rw [show bG (q,r)=_ from if_pos hk] at h
   obtain ⟨z,h1,h2⟩:=aZ h
   obtain ⟨s,h3,h4⟩:=Option.map_eq_some_iff.1 h2
   injection h4 with h5 h6
   subst h5 h6
   obtain ⟨_,_,m3,_⟩:=my (show bc r=some (z.1,z.2) from h1)
   exact ⟨⟨hq.tag,hq.box,hq.dst,hq.text,hq.sset,hq.filter⟩,fun t htm=>ht t (m3 t htm)⟩
 · rw [show bG (q,r)=some (q,r) from if_neg hk] at h
   injection h with h
   injection h with h1 h2
   subst h1 h2
   exact ⟨hq,ht⟩
theorem wB {q q':ap} {r r':List Tok} (h:cJ (q,r)=some (q',r')) (hq:fF q) (ht:cK r):fF q'∧cK r':=by
 by_cases hk:q.kind=11
 · rw [show cJ (q,r)=(fr r).map fun z=>({ q with text:=z.1 },z.2) from if_pos hk] at h
   obtain ⟨z,h1,h4⟩:=Option.map_eq_some_iff.1 h
   injection h4 with h5 h6
   subst h5 h6
   have e1:=nJ (show dH 2 r=some (z.1,z.2) from by rw [iT];exact h1) ht
   exact ⟨⟨hq.tag,hq.box,hq.dst,e1.1,hq.sset,hq.filter⟩,e1.2⟩
 · rw [show cJ (q,r)=some (q,r) from if_neg hk] at h
   injection h with h
   injection h with h1 h2
   subst h1 h2
   exact ⟨hq,ht⟩
theorem sj {q q':ap} {r r':List Tok} (h:bf (q,r)=some (q',r')) (hq:fF q) (ht:cK r):fF q'∧cK r':=by
 by_cases hk:q.kind=6
 · rw [show bf (q,r)=(bL r).map fun f=>({ q with filter:=f },[]) from if_pos hk] at h
   obtain ⟨z,h1,h4⟩:=Option.map_eq_some_iff.1 h
   injection h4 with h5 h6
   subst h5 h6
   exact ⟨⟨hq.tag,hq.box,hq.dst,hq.text,hq.sset,uy h1⟩,fun t htm=>by cases htm⟩
 · rw [show bf (q,r)=some (q,r) from if_neg hk] at h
   injection h with h
   injection h with h1 h2
   subst h1 h2
   exact ⟨hq,ht⟩
theorem ry {q q':ap} {r r':List Tok} (h:bh (q,r)=some (q',r')) (hq:fF q) (ht:cK r):fF q':=by
 unfold bh at h
 obtain ⟨q1,h1,h⟩:=aZ h
 obtain ⟨q2,h2,h⟩:=aZ h
 obtain ⟨q3,h3,h⟩:=aZ h
 obtain ⟨q4,h4,h⟩:=aZ h
 obtain ⟨q5,h5,h⟩:=aZ h
 obtain ⟨q6,h6,h⟩:=aZ h
 have e1:=xP (show dU (q,r)=some (q1.1,q1.2) from h1) hq ht
 have e2:=yZ (show opP (q1.1,q1.2)=some (q2.1,q2.2) from h2) e1.1 e1.2
 have e3:=xQ (show eW (q2.1,q2.2)=some (q3.1,q3.2) from h3) e2.1 e2.2
 have e4:=za (show toP (q3.1,q3.2)=some (q4.1,q4.2) from h4) e3.1 e3.2
 have e5:=uA (show bG (q4.1,q4.2)=some (q5.1,q5.2) from h5) e4.1 e4.2
 have e6:=wB (show cJ (q5.1,q5.2)=some (q6.1,q6.2) from h6) e5.1 e5.2
 exact (sj (show bf (q6.1,q6.2)=some (q',r') from h) e6.1 e6.2).1
def zN (l:List Tok):Prop:=tsz l≤1048576∨cK l
theorem db {l r r':List Tok} {q':ap} {tag:List UInt8} {u:Bool} {k:Int} (h:zN l) (hr:bh (aV tag u k,r)=some (q',r')) (h1:tag.length+tsz r≤tsz l) (h2:cK l→tag.length≤1000∧cK r):bg q'.lf≤1048576:=by
 rcases h with h | h
 · have e:=pl hr
   rw [ap.sz (aV tag u k)] at e
   have h3:(aV tag u k).tag.length+(aV tag u k).box.length+(aV tag u k).dst.length+co (am (aV tag u k).sset)+(aV tag u k).text.length+co (aj (aV tag u k).filter.scopes)=tag.length:=rfl
   omega
 · obtain ⟨e1,e2⟩:=h2 h
   exact (ry hr ⟨e1,Nat.zero_le _,Nat.zero_le _,Nat.zero_le _,Nat.zero_le _,Nat.zero_le _⟩ e2).sz
end Go.Proofs.YtmlgkoeacbeopaaGreatDoor
