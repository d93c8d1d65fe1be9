/- Vc -/
import Derived.Test.YtmlgkoeacbeopaaGreatDoorVb
set_option maxHeartbeats 12800000
namespace Go.Proofs.YtmlgkoeacbeopaaGreatDoor
open Go.RowKit Go.Stop
def PG (W:World):Prop:=TM W∧Fw W∧Ew W∧W.cell? ⟨0,0,none⟩=some (.iface 177 (.agg #[hdl 83]))
theorem PG.keeps:mO PG:=fun _ _ h hb=>⟨TM.keeps _ _ h.1 hb,h.2.1.below hb,h.2.2.1.below hb,(hb.cell (p:=⟨0,0,none⟩) (World.block_lt_of_cell? _ _ h.2.2.2)).trans h.2.2.2⟩
theorem xU {P:Program} {Q:Exit→Act→World→Prop} {c:Code} {a:Act} {w:World} {tm:Array Value} {d:List Deferred} (h:a.tmps=tm) (hd:a.defers=d) (k:c.wp P Q { tmps:=tm,defers:=d } w):c.wp P Q a w:=by
 cases a
 simp only at h hd
 subst h hd
 exact k
theorem zg (v:Value) (w:World):(Instr.typeAssert (.iface 86 v) 20 83 true).run Tryz.prog w= .ok (.tuple #[.iface 86 v,.bool true]) w:=run_typeAssert_hasB Tryz.underlying83 (by kernel_rfl) v _ w
theorem zh (w:World):(Instr.typeAssert .nilIface 20 83 true).run Tryz.prog w= .ok (.tuple #[.nilIface,.bool false]) w:=by kernel_rfl
theorem xV (s:ByteArray) (t:Addr) (old:Value) (w:World) (hg:w.cell? ⟨0,0,none⟩=some (.iface 177 (.agg #[hdl 83]))) (ht0:w.cell? t=some old) (hf0:w.frozen? t=false):
 Calls Tryz.prog 65 #[.iface 86 (.agg #[.string s]),.iface 88 (.pointer (some t))] w fun ev w'=>ev= .returned (.bool true)∧ac w w' [t.block]:=by
 refine (zc s t old w hg ht0 hf0).mono ?_
 rintro e w' ⟨rfl,rfl⟩
 refine ⟨rfl,?_⟩
 refine ⟨rfl,rfl,rfl,by simp;omega,fun k hk hn=> ?_⟩
 refine (Below.heap_setCell _ t _ k (by simpa using hn)).trans ?_
 rw [Below.heap_alloc _ _ _ (by simp;omega),Below.heap_alloc _ _ _ (by simp;omega),Below.heap_alloc _ _ _ (by simp;omega),Below.heap_alloc _ _ _ hk]
theorem nO (P Q:Nat) (w:World):
 CallsD Tryz.prog 64 #[.pointer (some ⟨P,0,none⟩),.pointer (some ⟨Q,0,none⟩)] .returning w fun e u' w'=>e= .returned (.tuple #[])∧u'= .returning∧w'=w:=by
 refine callsD_of_wpS Tryz.func64 rfl fun c₀ cs hu=> ?_
 apply wpS_seq
 apply wpS_region
 simp [wpOpsS,go_sem,recoverD,hu,Tryz.ntmps64,Exit.thenS,zh]
 apply wpS_seq
 apply wpS_region
 simp [wpOpsS,go_sem,Exit.thenS]
 refine wpS_cond (t:=false) (by simp [Act.eval,Array.replicate]) ?_
 simp only [Bool.false_eq_true,if_false]
 refine wpS_of_wp (wp_skip ?_)
 cases c₀
 simp_all [bodyPostS,results,Tryz.results64]
set_option maxRecDepth 20000 in
theorem pC (P Q:Nat) (s:ByteArray) (old:Array Value) (x:Value) (w:World) (hE:w.cell? ⟨0,0,none⟩=some (.iface 177 (.agg #[hdl 83]))) (hp:w.heap[P]? =some (.cells old 29 (0,0))) (ho:old.size=11) (hq:w.heap[Q]? =some (.cells #[x] 4 (0,0))) (hpq:P ≠ Q):
 CallsD Tryz.prog 64 #[.pointer (some ⟨P,0,none⟩),.pointer (some ⟨Q,0,none⟩)] (.panicking [{ v:=wX s,recovered:=false }]) w fun e u' w'=>
  e= .returned (.tuple #[])∧u'= .panicking [{ v:=wX s,recovered:=true }]∧w'.heap[P]? =some (.cells bj 29 (0,0))∧w'.heap[Q]? =some (.cells #[.bool false] 4 (0,0))∧ac w w' [P,Q]:=by
 have hPs:P < w.heap.size:=(Array.getElem?_eq_some_iff.1 hp).1
 have hQs:Q < w.heap.size:=(Array.getElem?_eq_some_iff.1 hq).1
 have hX:Below w.heap.size w (w.alloc (.cells #[sv []] 86)):=(Below.refl _ _).alloc (Nat.le_refl _) _
 have C:=aa9 (xV s ⟨w.heap.size,0,none⟩ (sv []) (w.alloc (.cells #[sv []] 86)) ((hX.cell (p:=⟨0,0,none⟩) (World.block_lt_of_cell? _ _ hE)).trans hE) (by simp) (by simp))
 refine callsD_of_wpS Tryz.func64 rfl fun c₀ cs hu=> ?_
 apply wpS_seq
 apply wpS_region
 simp [wpOpsS,go_sem,recoverD,hu,Tryz.ntmps64,Exit.thenS,zg,wX]
 refine wpS_of_wp ?_
 refine xU (tm:= #[.pointer (some ⟨P,0,none⟩),.pointer (some ⟨Q,0,none⟩),.iface 86 (.agg #[.string s]),.bool true,undef,.tuple #[.iface 86 (.agg #[.string s]),.bool true],.iface 86 (.agg #[.string s]),.tuple #[.iface 86 (.agg #[.string s]),.bool true],.iface 86 (.agg #[.string s]),.bool true,undef,undef,undef,undef,undef]) (by kernel_rfl) rfl ?_
 go_hide hQ
 go_wp2_with fail
 refine C.out.mono ?_
 rintro e w1 ⟨rfl,hg1⟩
 have hp1:w1.heap[P]? =some (.cells old 29 (0,0)):=(hg1.block P (by simp;omega) (by simp;omega)).trans ((hX.block P hPs).trans hp)
 have hq1:w1.heap[Q]? =some (.cells #[x] 4 (0,0)):=(hg1.block Q (by simp;omega) (by simp;omega)).trans ((hX.block Q hQs).trans hq)
 obtain ⟨Y,hY⟩: ∃ Y,Y=w1.setRow P bj:=⟨_,rfl⟩
 have hpY:Y.heap[P]? =some (.cells bj 29 (0,0)):=by rw [hY];exact setRow_heap _ _ _ _ _ _ hp1
 have hqY:Y.heap[Q]? =some (.cells #[x] 4 (0,0)):=by rw [hY];exact (setRow_other _ _ _ _ (by omega)).trans hq1
 have hgY:ac w Y [P,Q]:=by
  refine ac.trans (W1:=w1) ⟨hg1.os,hg1.tape,hg1.output,Nat.le_trans hX.size hg1.size,fun k hk _=>(hg1.block k (by simp;omega) (by simp;omega)).trans (hX.block k hk)⟩ ?_
  rw [hY]
  exact ⟨rfl,rfl,rfl,by simp [World.setRow],fun k _ hk=>setRow_other _ _ _ _ (by intro e;exact hk (by simp [e]))⟩
 obtain ⟨qc,qf⟩:=eF hqY
 rw [hY] at qc qf
 have HF:=aa9 (show (Y.setCell ⟨Q,0,none⟩ (.bool false)).heap[P]? =some (.cells bj 29 (0,0))∧(Y.setCell ⟨Q,0,none⟩ (.bool false)).heap[Q]? =some (.cells #[.bool false] 4 (0,0))∧ac w (Y.setCell ⟨Q,0,none⟩ (.bool false)) [P,Q] from
  ⟨(aD hpq).trans hpY,bz hqY,hgY.trans (ac.set (by simp))⟩)
 rw [hY] at HF
 clear hY hpY hqY hgY hp hq hX hg1 hE
 go_wp2_with (refine ak rfl _ _ _ rfl P bj (by rfl) (by rfl) _ _ hp1 (by kernel_rfl) ho (by simp [Value.oneCell',sv]) ?_)
 subst hQ
 exact ⟨rfl,_,rfl,.tuple #[],by simp [results,Tryz.results64,go_sem],rfl,rfl,HF.out.1,HF.out.2.1,HF.out.2.2⟩
def dx:ap:=aV [] false 0
def dL (U:Option ap) (w:World) (e:Ending) (w':World):Prop:=
 ∃ a5 a10 f5 f10,e= .returned (.tuple #[bQ (U.getD dx) a5 a10,.bool U.isSome])∧cx w' w.heap.size (am (U.getD dx).sset) a5 f5∧cx w' w.heap.size (aj (U.getD dx).filter.scopes) a10 f10∧(f5++f10).Nodup∧Below w.heap.size w w'
set_option maxRecDepth 20000 in
theorem ew (v:Value) (l:List Tok) (w:World) (hG:PG w) (hr:Rd 2 dh w v l) (hc:c7 v) (hl:l.length≤1048576) (hx: ∀ t∈l,t.text.length≤1048576) (hsz:zN l):
 Calls Tryz.prog 25 #[v] w (dL (aM l) w):=by
 have hmf: ∀ (fn:Fn) (first cap:Array Value) (w:World),(Instr.makeFunc fn first cap).run Tryz.prog w= .ok (.func fn first cap) w:=fun _ _ _ _=>rfl
 obtain ⟨p,c,rfl,_⟩:=hr.ex
 have hcc:l.length≤c:=hc _ _ _ rfl
 obtain ⟨W1,hW1⟩: ∃ W1,W1=(w.alloc (.cells bj 29)).alloc (.cells #[.bool false] 4):=⟨_,rfl⟩
 have hb1:Below w.heap.size w W1:=by rw [hW1];exact ((Below.refl _ _).alloc (Nat.le_refl _) _).alloc (by simp) _
 have hz1:W1.heap.size=w.heap.size+2:=by rw [hW1];simp
 have hP1:W1.heap[w.heap.size]? =some (.cells bj 29 (0,0)):=by rw [hW1,Below.heap_alloc _ _ _ (by simp)];exact heap_alloc_new w _
 have hQ1:W1.heap[w.heap.size+1]? =some (.cells #[.bool false] 4 (0,0)):=by
  have h1:=heap_alloc_new (w.alloc (.cells bj 29)) (.cells #[.bool false] 4)
  rw [World.size_alloc] at h1
  rw [hW1]
  exact h1
 have hG1:PG W1:=PG.keeps _ _ hG hb1
 have HRD:=aa9 (show Rdr W1 (W1.alloc (.cells #[.slice p l.length c] 90)) W1.heap.size l from
  ⟨Nat.le_refl _,(Below.refl _ _).alloc (Nat.le_refl _) _,⟨p,c,heap_alloc_new W1 _,hr.below hb1,hcc⟩,hl,hx⟩)
 have C:=aa9 (nN W1 _ W1.heap.size l hG1.1 hG1.2.1 hG1.2.2.1 HRD.out hsz)
 have HE1:=aa9 hG1.2.2.2
 have HP1:=aa9 hP1
 have HQ1:=aa9 hQ1
 have HB1:=aa9 hb1
 have HZ1:=aa9 hz1
 clear hG hr hc hcc hb1 hP1 hQ1 hG1 hl hx hsz
 rw [hz1] at C
 subst hW1
 clear hz1
 go_enter_defers Tryz.func25,Tryz.ntmps25
 go_wp2_with fail
 refine C.out.mono ?_
 intro e w2 hp
 cases hU:aM l with
 | none=>
   rw [hU] at hp
   obtain ⟨⟨s,rfl⟩,hb2⟩:=hp
   have hP2:=(hb2.block w.heap.size (by rw [HZ1.out];omega)).trans HP1.out
   have hQ2:=(hb2.block (w.heap.size+1) (by rw [HZ1.out];omega)).trans HQ1.out
   have hE2:=(hb2.cell (p:=⟨0,0,none⟩) (World.block_lt_of_cell? _ _ HE1.out)).trans HE1.out
   have hbw:=HB1.out.trans (hb2.mono (by rw [HZ1.out];omega))
   refine leaves_cons (f:=64) (args:= #[.pointer (some ⟨w.heap.size,0,none⟩),.pointer (some ⟨w.heap.size+1,0,none⟩)]) (by simp) (by simp [go_sem]) ?_
   refine (pC _ _ s _ _ w2 hE2 hP2 rfl hQ2 (by omega)).mono ?_
   rintro e u' w3 ⟨rfl,rfl,hP3,hQ3,hg3⟩
   obtain ⟨q0,q1,q2,q3,q4,q5,q6,q7,q8,q9,q10⟩:=cC11 hP3
   have q11:=(eF hQ3).1
   have HB:=aa9 (ac.below hbw hg3 hbw.size (fun k hk=>by simp at hk;omega))
   clear hP3 hQ3 hg3 hP2 hQ2 hE2 hb2 hbw
   simp [Leaves,settle,results,Tryz.results25,go_sem,q0,q1,q2,q3,q4,q5,q6,q7,q8,q9,q10,q11]
   exact ⟨.slice none 0 0,.slice none 0 0,[],[],rfl,bA _ _,aC _ _,List.nodup_nil,HB.out⟩
 | some c=>
   rw [hU] at hp
   obtain ⟨a5,a10,f5,f10,rfl,h5,h10,hnd,hb2⟩:=hp
   obtain ⟨p5,c5,rfl⟩:=au.slice h5.is
   obtain ⟨p10,c10,rfl⟩:=au.slice h10.is
   have hP2:=(hb2.block w.heap.size (by rw [HZ1.out];omega)).trans HP1.out
   have hQ2:=(hb2.block (w.heap.size+1) (by rw [HZ1.out];omega)).trans HQ1.out
   have hbw:=HB1.out.trans (hb2.mono (by rw [HZ1.out];omega))
   obtain ⟨Y,hY⟩: ∃ Y,Y=w2.setRow w.heap.size #[sv c.tag,.int .i64 c.kind,sv c.box,sv c.dst,.bool c.uid,.slice p5 c.sset.length c5,.int .i64 c.op,.int .i64 c.flags,sv c.text,.bool c.filter.on,.slice p10 c.filter.scopes.length c10]:=⟨_,rfl⟩
   have hPY:Y.heap[w.heap.size]? =some (.cells #[sv c.tag,.int .i64 c.kind,sv c.box,sv c.dst,.bool c.uid,.slice p5 c.sset.length c5,.int .i64 c.op,.int .i64 c.flags,sv c.text,.bool c.filter.on,.slice p10 c.filter.scopes.length c10] 29 (0,0)):=by rw [hY];exact setRow_heap _ _ _ _ _ _ hP2
   have hQY:Y.heap[w.heap.size+1]? =some (.cells #[.bool false] 4 (0,0)):=by rw [hY];exact (setRow_other _ _ _ _ (by omega)).trans hQ2
   have hgY:ac w2 Y [w.heap.size,w.heap.size+1]:=by rw [hY];exact ⟨rfl,rfl,rfl,by simp [World.setRow],fun k _ hk=>setRow_other _ _ _ _ (by intro e;exact hk (by simp [e]))⟩
   obtain ⟨qc,qf⟩:=eF hQY
   have hP3:(Y.setCell ⟨w.heap.size+1,0,none⟩ (.bool true)).heap[w.heap.size]? =some (.cells #[sv c.tag,.int .i64 c.kind,sv c.box,sv c.dst,.bool c.uid,.slice p5 c.sset.length c5,.int .i64 c.op,.int .i64 c.flags,sv c.text,.bool c.filter.on,.slice p10 c.filter.scopes.length c10] 29 (0,0)):=(aD (by omega)).trans hPY
   have hQ3:(Y.setCell ⟨w.heap.size+1,0,none⟩ (.bool true)).heap[w.heap.size+1]? =some (.cells #[.bool true] 4 (0,0)):=bz hQY
   have hg3:ac w2 (Y.setCell ⟨w.heap.size+1,0,none⟩ (.bool true)) [w.heap.size,w.heap.size+1]:=hgY.trans (ac.set (by simp))
   have h5':=h5.apart hg3 (fun k hk=>by have:=h5.low k hk;rw [HZ1.out] at this;simp;omega)
   have h10':=h10.apart hg3 (fun k hk=>by have:=h10.low k hk;rw [HZ1.out] at this;simp;omega)
   have HB:=aa9 (ac.below hbw hg3 hbw.size (fun k hk=>by simp at hk;omega))
   have H5:=aa9 (show cx _ w.heap.size _ _ _ from ⟨h5'.is,h5'.nodup,fun k hk=>by have:=h5'.low k hk;rw [HZ1.out] at this;omega⟩)
   have H10:=aa9 (show cx _ w.heap.size _ _ _ from ⟨h10'.is,h10'.nodup,fun k hk=>by have:=h10'.low k hk;rw [HZ1.out] at this;omega⟩)
   obtain ⟨q0,q1,q2,q3,q4,q5,q6,q7,q8,q9,q10⟩:=cC11 hP3
   have q11:=(eF hQ3).1
   rw [hY] at qc qf
   clear hP3 hQ3 hg3 hQ2 hb2 hbw hPY hQY hgY h5 h10 h5' h10'
   have HU:=aa9 hU
   clear hU
   go_wp2_with (refine ak rfl _ _ _ rfl w.heap.size #[sv c.tag,.int .i64 c.kind,sv c.box,sv c.dst,.bool c.uid,.slice p5 c.sset.length c5,.int .i64 c.op,.int .i64 c.flags,sv c.text,.bool c.filter.on,.slice p10 c.filter.scopes.length c10] (by rfl) (by rfl) _ _ hP2 (by kernel_rfl) rfl (by simp [Value.oneCell',sv]) ?_)
   rw [←hY]
   clear hY qc qf hP2
   refine leaves_cons (f:=64) (args:= #[.pointer (some ⟨w.heap.size,0,none⟩),.pointer (some ⟨w.heap.size+1,0,none⟩)]) (by simp) (by simp [go_sem]) ?_
   refine (nO _ _ _).mono ?_
   rintro e u' w3 ⟨rfl,rfl,rfl⟩
   simp [Leaves,settle,results,Tryz.results25,go_sem,q0,q1,q2,q3,q4,q5,q6,q7,q8,q9,q10,q11]
   rw [HU.out]
   exact ⟨_,_,f5,f10,rfl,H5.out,H10.out,hnd,HB.out⟩
end Go.Proofs.YtmlgkoeacbeopaaGreatDoor
namespace Go.Proofs.YtmlgkoeacbeopaaGreatDoor
open Go.RowKit
def pD (l:List Tok):Option ((List UInt8×Bool×List UInt8)×List Tok):=(aq 1 l).bind fun t=>(aq 1 t.2).bind fun w=>if an w.1=rv then (aq 1 w.2).map fun z=>((t.1,true,z.1),z.2) else some ((t.1,false,w.1),w.2)
theorem eY (l:List Tok):aM l=(pD l).bind fun z=>j6 z.1.1 z.1.2.1 (z.1.2.2,z.2):=by
 unfold aM pD
 cases aq 1 l with
 | none=>rfl
 | some t=>
   simp only [Option.bind_some]
   cases aq 1 t.2 with
   | none=>rfl
   | some w=>
     simp only [Option.bind_some]
     by_cases hu:an w.1=rv
     · rw [if_pos hu,if_pos hu]
       cases aq 1 w.2 with
       | none=>rfl
       | some z=>rfl
     · rw [if_neg hu,if_neg hu]
       rfl
theorem wH {l:List Tok} {a1 a2 a3:Nat} {b1 b2 b3:Bool} {tag w z:List UInt8} (h1:aK (aq 1) l 0 false tag a1 b1) (h2:aK (aq 1) l a1 b1 w a2 b2) (h3:aK (aq 1) l a2 b2 z a3 b3) (hu:an w=rv):aK pD l 0 false (tag,true,z) a3 b3:=
 h1.bind (Q:=fun t r=>(aq 1 r).bind fun w=>if an w.1=rv then (aq 1 w.2).map fun z=>((t,true,z.1),z.2) else some ((t,false,w.1),w.2))
  (h2.bind (Q:=fun w r=>if an w=rv then (aq 1 r).map fun z=>((tag,true,z.1),z.2) else some ((tag,false,w),r))
   ((h3.map fun z=>(tag,true,z)).of_eq fun _=>if_pos hu)) |>.of_eq fun _=>rfl
theorem xW {l:List Tok} {a1 a2:Nat} {b1 b2:Bool} {tag w:List UInt8} (h1:aK (aq 1) l 0 false tag a1 b1) (h2:aK (aq 1) l a1 b1 w a2 b2) (hu: ¬an w=rv):aK pD l 0 false (tag,false,w) a2 b2:=
 h1.bind (Q:=fun t r=>(aq 1 r).bind fun w=>if an w.1=rv then (aq 1 w.2).map fun z=>((t,true,z.1),z.2) else some ((t,false,w.1),w.2))
  (h2.bind (Q:=fun w r=>if an w=rv then (aq 1 r).map fun z=>((tag,true,z.1),z.2) else some ((tag,false,w),r))
   ((aK.skip (x:=(tag,false,w)) h2.le).of_eq fun _=>if_neg hu)) |>.of_eq fun _=>rfl
theorem uL {l:List Tok} {a:Nat} {b:Bool} {x:List UInt8×Bool×List UInt8} (h:aK pD l 0 false x a b) (hb:b=true∨bB (an x.2.2) 15=0):aM l=none:=by
 rw [eY]
 have h0:pD l=pD (l.drop 0):=by simp
 cases hb2:b with
 | true=>rw [h0,h.no rfl hb2];rfl
 | false=>
   rw [h0,(h.yes hb2).2]
   have hk:bB (an x.2.2) 15=0:=by
    rcases hb with hb | hb
    · rw [hb2] at hb;cases hb
    · exact hb
   show j6 x.1 x.2.1 (x.2.2,l.drop a)=none
   unfold j6
   rw [if_pos hk]
theorem sD {l:List Tok} {a:Nat} {x:List UInt8×Bool×List UInt8} (h:aK pD l 0 false x a false) (hk: ¬bB (an x.2.2) 15=0):aM l=(bh (aV x.1 x.2.1 (bB (an x.2.2) 15),l.drop a)).bind iR:=by
 rw [eY]
 have h0:pD l=pD (l.drop 0):=by simp
 rw [h0,(h.yes rfl).2]
 show j6 x.1 x.2.1 (x.2.2,l.drop a)=_
 unfold j6
 rw [if_neg hk]
theorem rB {l r:List Tok} {x:List UInt8×Bool×List UInt8} (h:pD l=some (x,r)):x.1.length+tsz r≤tsz l:=by
 unfold pD at h
 obtain ⟨t,h1,h⟩:=aZ h
 obtain ⟨w,h2,h⟩:=aZ h
 have e1:=bN (show aq 1 l=some (t.1,t.2) from h1)
 have e2:=bN (show aq 1 t.2=some (w.1,w.2) from h2)
 by_cases hu:an w.1=rv
 · rw [if_pos hu] at h
   obtain ⟨z,h3,h4⟩:=Option.map_eq_some_iff.1 h
   have e3:=bN (show aq 1 w.2=some (z.1,z.2) from h3)
   injection h4 with h5 h6
   subst h5 h6
   show t.1.length+_≤_
   omega
 · rw [if_neg hu] at h
   injection h with h
   injection h with h5 h6
   subst h5 h6
   show t.1.length+_≤_
   omega
theorem uM {l r:List Tok} {x:List UInt8×Bool×List UInt8} (h:pD l=some (x,r)) (ht:cK l):x.1.length≤1000∧cK r:=by
 unfold pD at h
 obtain ⟨t,h1,h⟩:=aZ h
 obtain ⟨w,h2,h⟩:=aZ h
 have e1:=es (show aq 1 l=some (t.1,t.2) from h1) ht
 have e2:=es (show aq 1 t.2=some (w.1,w.2) from h2) e1.2
 by_cases hu:an w.1=rv
 · rw [if_pos hu] at h
   obtain ⟨z,h3,h4⟩:=Option.map_eq_some_iff.1 h
   have e3:=es (show aq 1 w.2=some (z.1,z.2) from h3) e2.2
   injection h4 with h5 h6
   subst h5 h6
   exact ⟨e1.1,e3.2⟩
 · rw [if_neg hu] at h
   injection h with h
   injection h with h5 h6
   subst h5 h6
   exact ⟨e1.1,e2.2⟩
theorem lH (u:List UInt8) (k:Nat):bB u (k+1)=if an (kdW ((k+1:Nat):Int))=u then ((k+1:Nat):Int) else bB u k:=rfl
structure SpD (w W:World) (g b r:Nat) (p:Option Addr) (l:List Tok) (cap at_:Nat) (bad:Bool) (q:ap):Prop where
 in6:In6 W g p l cap at_ bad
 blk:W.heap[b]? =some (.cells (ki q (.slice none 0 0) (.slice none 0 0)) 29 (0,0))
 res:W.heap[r]? =some (.cells bj 29 (0,0))
 bel:Below w.heap.size w W
 lo:w.heap.size≤r
 rg:r < g
 gb:g < b
section
variable {w W W':World} {g b r:Nat} {p:Option Addr} {l:List Tok} {cap at_ at':Nat} {bad bad':Bool} {q q':ap}
theorem SpD.step (h:SpD w W g b r p l cap at_ bad q) (hi:In6 W' g p l cap at' bad') (hg:ac W W' [g]):SpD w W' g b r p l cap at' bad' q where
 in6:=hi
 blk:=(hg.block b (Array.getElem?_eq_some_iff.1 h.blk).1 (by have:=h.gb;simp;omega)).trans h.blk
 res:=(hg.block r (Array.getElem?_eq_some_iff.1 h.res).1 (by have:=h.rg;simp;omega)).trans h.res
 bel:=ac.below h.bel hg h.bel.size (fun k hk=>by rw [List.mem_singleton.1 hk];have:=h.lo;have:=h.rg;omega)
 lo:=h.lo
 rg:=h.rg
 gb:=h.gb
theorem SpD.call (h:SpD w W g b r p l cap at_ bad q) (hb:Below W.heap.size W W'):SpD w W' g b r p l cap at_ bad q:=h.step (h.in6.below hb) (ac.of_below hb)
theorem SpD.setF (h:SpD w W g b r p l cap at_ bad q) (j:Nat) (u:Value) {q':ap} (hu:(ki q (.slice none 0 0) (.slice none 0 0)).setIfInBounds j u=ki q' (.slice none 0 0) (.slice none 0 0)):SpD w (W.setCell ⟨b,j,none⟩ u) g b r p l cap at_ bad q' where
 in6:=h.in6.keep (fun k hk=>aD (by have:=h.gb;omega))
 blk:=by rw [bz h.blk,hu]
 res:=(aD (by have:=h.rg;have:=h.gb;omega)).trans h.res
 bel:=h.bel.setCell (p:=⟨b,j,none⟩) (by have:=h.lo;have:=h.rg;have:=h.gb;show w.heap.size≤b;omega) _
 lo:=h.lo
 rg:=h.rg
 gb:=h.gb
theorem SpD.cell (h:SpD w W g b r p l cap at_ bad q) (j:Nat) (v:Value) (hv:(ki q (.slice none 0 0) (.slice none 0 0))[j]? =some v):W.cell? ⟨b,j,none⟩=some v:=(aa8 h.blk j).trans hv
theorem SpD.free (h:SpD w W g b r p l cap at_ bad q) (j:Nat):W.frozen? ⟨b,j,none⟩=false:=Lib.frozen_of_heap h.blk j
end
set_option maxRecDepth 20000 in
theorem ey (v:Value) (l:List Tok) (w:World) (hr:Rd 2 dh w v l) (hc:c7 v) (hl:l.length≤1048576) (hx: ∀ t∈l,t.text.length≤1048576) (hsz:zN l):
 Calls Tryz.prog 23 #[v] w (dL (aM l) w):=by
 obtain ⟨p,cap,rfl,hp⟩:=hr.ex
 have hcap:l.length≤cap:=hc _ _ _ rfl
 have HX:=aa9 hx
 have HSZ:=aa9 hsz
 have hb2:Below w.heap.size w ((w.alloc (.cells bj 29)).alloc (.cells #[.slice p l.length cap,.int .i64 0,.bool false] 76)):=((Below.refl _ _).alloc (Nat.le_refl _) _).alloc (by simp) _
 have HI:=aa9 (show In6 ((w.alloc (.cells bj 29)).alloc (.cells #[.slice p l.length cap,.int .i64 0,.bool false] 76)) (w.heap.size+1) p l cap 0 false from by
  refine ⟨?_,hp.imp id (fun ⟨b',o',h1,h2,h3⟩=>⟨b',o',h1,by omega,fun i t hi=>⟨(hb2.cell (p:=⟨b',_,none⟩) h2).trans (h3 i t hi 0 _ rfl),(hb2.cell (p:=⟨b',_,none⟩) h2).trans (h3 i t hi 1 _ rfl)⟩⟩)⟩
  have h1:=heap_alloc_new (w.alloc (.cells bj 29)) (.cells #[.slice p l.length cap,.int .i64 0,.bool false] 76)
  rw [World.size_alloc] at h1
  exact h1)
 have HR:=aa9 (show ((w.alloc (.cells bj 29)).alloc (.cells #[.slice p l.length cap,.int .i64 0,.bool false] 76)).heap[w.heap.size]? =some (.cells bj 29 (0,0)) from (Below.heap_alloc _ _ _ (by simp)).trans (heap_alloc_new w _))
 have HB2:=aa9 hb2
 clear hr hc hx hsz hp hb2
 go_enter Tryz.func23,Tryz.ntmps23
 go_wp2_with fail
 refine (bU (w.heap.size+1) cap 0 p l false 1 _ HI.out (by omega) (Nat.zero_le _)).mono ?_
 rintro e w1 ⟨tag,a1,b1,rfl,i1,g1,st1,hm1⟩
 have hg1:=ac.of_grown g1
 have hz1:w.heap.size+2≤w1.heap.size:=by have:=hg1.size;simpa using this
 have K1:=aa9 (show SpD w (w1.alloc (.cells #[sv tag,.int .i64 0,sv [],sv [],.bool false,.slice none 0 0,.int .i64 0,.int .i64 0,sv [],.bool false,.slice none 0 0] 29)) (w.heap.size+1) w1.heap.size w.heap.size p l cap a1 b1 (aV tag false 0) from
  { in6:=i1.below ((Below.refl _ _).alloc (Nat.le_refl _) _),blk:=heap_alloc_new w1 _,res:=(Below.heap_alloc w1 _ _ (by omega)).trans ((hg1.block w.heap.size (by simp;omega) (by simp)).trans HR.out),
    bel:=(ac.below HB2.out hg1 HB2.out.size (fun k hk=>by rw [List.mem_singleton.1 hk];omega)).alloc (by omega) _,lo:=Nat.le_refl _,rg:=by omega,gb:=by omega })
 have ST1:=aa9 st1
 have ha1:=st1.le
 clear i1 g1 hg1 st1 hm1 HI HR HB2
 generalize hbb:w1.heap.size=b at *
 generalize hgg:w.heap.size+1=g at *
 go_wp2_with fail
 refine (bU g cap a1 p l b1 1 _ K1.out.in6 (by omega) ha1).mono ?_
 rintro e w2 ⟨wd,a2,b2,rfl,i2,g2,st2,hm2⟩
 have hwl:wd.length≤1048576:=by
  rcases hm2 with rfl | ⟨t,ht,rfl⟩
  · exact Nat.zero_le _
  · exact HX.out t ht
 have K2:=aa9 (K1.out.step i2 (ac.of_grown g2))
 have ST2:=aa9 st2
 have ha2:=st2.le
 have CU:=aa9 (fun W=>bH ⟨wd.toArray⟩ W (by show wd.toArray.size≤_;unfold maxLen;simp;omega))
 clear i2 g2 st2 hm2 K1
 go_wp2_with fail
 refine (CU.out _).mono ?_
 rintro e w3 ⟨rfl,b3⟩
 have K3:=aa9 (K2.out.call b3)
 have HWL:=aa9 hwl
 have c4:=K3.out.cell 4 (.bool false) rfl
 have z4:=K3.out.free 4
 have K3u:=aa9 (show SpD w (w3.setCell ⟨b,4,none⟩ (.bool true)) g b w.heap.size p l cap a2 b2 (aV tag true 0) from K3.out.setF 4 (.bool true) rfl)
 clear b3 CU K2 hwl
 go_upto_if 18 with fail
 go_cut [6] (fun u wx=> ∃ (z:List UInt8) (uid:Bool) (a3:Nat) (b3:Bool),u=sv (an z)∧SpD w wx g b w.heap.size p l cap a3 b3 (aV tag uid 0)∧aK pD l 0 false (tag,uid,z) a3 b3)
 case first=>
  cases hu:(an wd==([85,73,68]:List UInt8)) with
  | false=>
    have HS:=aa9 (xW ST1.out ST2.out (beq_eq_false_iff_ne.1 hu))
    have hun: ¬an wd=[85,73,68]:=beq_eq_false_iff_ne.1 hu
    go_wp2_with fail
    go_meet
    exact ⟨wd,false,a2,b2,rfl,K3.out,HS.out⟩
  | true=>
    have hue:an wd=[85,73,68]:=beq_iff_eq.1 hu
    go_wp2_with fail
    refine (bU g cap a2 p l b2 1 _ K3u.out.in6 (by omega) ha2).mono ?_
    rintro e w4 ⟨z,a3,b3,rfl,i3,g3,st3,hm3⟩
    have hzl:z.length≤1048576:=by
     rcases hm3 with rfl | ⟨t,ht,rfl⟩
     · exact Nat.zero_le _
     · exact HX.out t ht
    have K4:=aa9 (K3u.out.step i3 (ac.of_grown g3))
    have HS:=aa9 (wH ST1.out ST2.out st3 hue)
    have CU:=aa9 (fun W=>bH ⟨z.toArray⟩ W (by show z.toArray.size≤_;unfold maxLen;simp;omega))
    clear i3 g3 st3 hm3 hzl hue hu
    go_wp2_with fail
    refine (CU.out _).mono ?_
    rintro e w5 ⟨rfl,b5⟩
    have K5:=aa9 (K4.out.call b5)
    clear b5 CU
    go_wp2_with fail
    go_meet
    exact ⟨z,true,a3,b3,rfl,K5.out,HS.out⟩
 case rest=>
 obtain ⟨z,uid,a3,b3,hu6,k3,st3⟩:=hcut
 subst hu6
 have K:=aa9 k3
 have SS:=aa9 st3
 have ha3:=st3.le
 clear k3 st3 K3 K3u ST1 ST2 HWL c4 z4
 obtain ⟨uz,huz⟩: ∃ uz,uz=an z:=⟨_,rfl⟩
 rw [←huz]
 have HUZ:=aa9 huz
 clear huz
 go_wp2_with fail
 go_loopw [7] (fun u wr=> ∃ k:Nat,k≤15∧u= .int .i64 ((k:Int)+1)∧SpD w wr g b w.heap.size p l cap a3 b3 (aV tag uid (bB uz k))) (fun u _=>16 - (intOf u).toNat)
 case atStart=>exact ⟨0,by omega,rfl,K.out⟩
 case round=>
  obtain ⟨k,hk,rfl,kr⟩:=hrel
  have KR:=aa9 kr
  clear kr
  by_cases hk15:k < 15
  · have hle:((k:Int)+1)≤15:=by omega
    have CK:=aa9 (fun W=>j0 ((k:Int)+1) W)
    have hkl:(kdW ((k:Int)+1)).length≤1048576:=lC
    have CU:=aa9 (fun W=>bH ⟨(kdW ((k:Int)+1)).toArray⟩ W (by show (kdW ((k:Int)+1)).toArray.size≤_;unfold maxLen;simp;omega))
    clear hkl
    go_wp2_with fail
    refine (CK.out _).mono ?_
    rintro e w6 h6
    obtain ⟨rfl,b6⟩:=h6
    have K6:=aa9 (KR.out.call b6)
    clear b6 CK
    go_wp2_with fail
    refine (CU.out _).mono ?_
    rintro e w7 ⟨rfl,b7⟩
    have K7:=aa9 (K6.out.call b7)
    have c1:=K7.out.cell 1 (.int .i64 (bB uz k)) rfl
    have z1:=K7.out.free 1
    have hwr:IntKind.i64.wrap ((k:Int)+1+1)=(k:Int)+1+1:=IntWalk.i64_in _ (by omega)
    clear b7 CU K6
    cases hq:(an (kdW ((k:Int)+1))==uz) with
    | true=>
      have K8:=aa9 (show SpD w (w7.setCell ⟨b,1,none⟩ (.int .i64 ((k:Int)+1))) g b w.heap.size p l cap a3 b3 (aV tag uid (bB uz (k+1))) from by
       rw [lH,if_pos (by have:=beq_iff_eq.1 hq;rw [show ((k+1:Nat):Int)=(k:Int)+1 by omega];exact this)]
       exact K7.out.setF 1 (.int .i64 ((k:Int)+1)) rfl)
      have hqe:an (kdW ((k:Int)+1))=uz:=beq_iff_eq.1 hq
      go_wp2_with fail
      go_roundw
      case rel=>exact ⟨k+1,by omega,by go_num,K8.out⟩
      case measure=>simp [intOf];omega
    | false=>
      have K8:=aa9 (show SpD w w7 g b w.heap.size p l cap a3 b3 (aV tag uid (bB uz (k+1))) from by
       rw [lH,if_neg (by have:=beq_eq_false_iff_ne.1 hq;rw [show ((k+1:Nat):Int)=(k:Int)+1 by omega];exact this)]
       exact K7.out)
      have hqe: ¬an (kdW ((k:Int)+1))=uz:=beq_eq_false_iff_ne.1 hq
      go_wp2_with fail
      go_roundw
      case rel=>exact ⟨k+1,by omega,by go_num,K8.out⟩
      case measure=>simp [intOf];omega
  · obtain rfl:k=15:=by omega
    have hgt: ¬(((15:Nat):Int)+1≤15):=by omega
    have r2:wr.cell? ⟨g,2,none⟩=some (.bool b3):=(aa8 KR.out.in6.blk 2).trans rfl
    obtain ⟨kk,hkk⟩: ∃ kk,kk=bB uz 15:=⟨_,rfl⟩
    rw [←hkk] at KR
    have HKK:=aa9 (show kk=bB (an z) 15 by rw [hkk,HUZ.out])
    have hres:=KR.out.res
    have hbel:=KR.out.bel
    clear hkk
    have k1:=KR.out.cell 1 (.int .i64 kk) rfl
    by_cases hbad:b3=true∨kk=0
    · have HE:=aa9 (uL SS.out (by rcases hbad with hbad | hbad
                                  · exact .inl hbad
                                  · exact .inr (by rw [←HKK.out];exact hbad)))
      have hte:b3=true∨(b3=false∧(kk==0)=true):=by
       cases b3 with
       | true=>exact .inl rfl
       | false=>exact .inr ⟨rfl,by rcases hbad with h | h;cases h;simpa using h⟩
      clear hbad SS
      rcases hte with rfl | ⟨rfl,hk0⟩
      all_goals
       obtain ⟨Z,hZ⟩: ∃ Z,Z=wr.setRow w.heap.size bj:=⟨_,rfl⟩
       have hzr:Z.heap[w.heap.size]? =some (.cells bj 29 (0,0)):=by rw [hZ];exact setRow_heap _ _ _ _ _ _ hres
       have HBZ:=aa9 (show Below w.heap.size w Z from ac.below hbel (show ac wr Z [w.heap.size] by rw [hZ];exact ⟨rfl,rfl,rfl,by simp [World.setRow],fun k _ hk=>setRow_other _ _ _ _ (by simpa using hk)⟩) (hbel).size (fun k hk=>by rw [List.mem_singleton.1 hk];exact Nat.le_refl _))
       obtain ⟨q0,q1,q2,q3,q4,q5,q6,q7,q8,q9,q10⟩:=cC11 hzr
       clear hzr
       go_wp2_with (refine ak rfl _ _ _ rfl w.heap.size bj (by rfl) (by rfl) _ _ hres (by kernel_rfl) rfl (by simp [Value.oneCell',sv]) ?_)
       rw [←hZ]
       refine bodyPost_ret (v:= .tuple #[.agg bj,.bool false]) (by simp [results,Tryz.results23,go_sem,q0,q1,q2,q3,q4,q5,q6,q7,q8,q9,q10]) rfl ?_
       rw [HE.out]
       exact ⟨.slice none 0 0,.slice none 0 0,[],[],rfl,bA _ _,aC _ _,List.nodup_nil,HBZ.out⟩
    · have hb3:b3=false:=by cases b3 with
       | true=>exact absurd (.inl rfl) hbad
       | false=>rfl
      subst hb3
      have hkn: ¬kk=0:=fun h=>hbad (.inr h)
      have hk0:(kk==0)=false:=beq_eq_false_iff_ne.2 hkn
      have HE:=aa9 (show aM l=(bh (aV tag uid kk,l.drop a3)).bind iR from by
       have:=sD SS.out (by rw [←HKK.out];exact hkn)
       rw [HKK.out]
       exact this)
      have HTS:=aa9 (show tag.length+tsz (l.drop a3)≤tsz l∧(cK l→tag.length≤1000∧cK (l.drop a3)) from by
       have h1:=rB (SS.out.yes rfl).2
       have h2:=uM (SS.out.yes rfl).2
       simp only [List.drop_zero] at h1 h2
       exact ⟨h1,h2⟩)
      have hkr:1≤kk∧kk≤15:=by
       rcases gz (u:=an z) 15 with h | ⟨h1,h2,_⟩
       · exact absurd (HKK.out.trans h) hkn
       · rw [←HKK.out] at h1 h2
         exact ⟨h1,by omega⟩
      have CR:=aa9 (sC (aV tag uid kk) wr g cap a3 p l KR.out.in6 hcap hl HX.out ha3 rfl rfl hkr)
      clear hkr
      clear hbad SS HKK hkn
      have g0:=KR.out.cell 0 (sv tag) rfl
      have g1:=KR.out.cell 1 (.int .i64 kk) rfl
      have g2:=KR.out.cell 2 (sv []) rfl
      have g3:=KR.out.cell 3 (sv []) rfl
      have g4:=KR.out.cell 4 (.bool uid) rfl
      have g5:=KR.out.cell 5 (.slice none 0 0) rfl
      have g6:=KR.out.cell 6 (.int .i64 0) rfl
      have g7:=KR.out.cell 7 (.int .i64 0) rfl
      have g8:=KR.out.cell 8 (sv []) rfl
      have g9:=KR.out.cell 9 (.bool false) rfl
      have g10:=KR.out.cell 10 (.slice none 0 0) rfl
      go_wp2_with fail
      refine CR.out.mono ?_
      rintro e w8 ⟨q,a5,a10,f5,f10,a4,b4,rfl,i8,g8,st8,h5,h10,hnd⟩
      obtain ⟨p5,c5,rfl⟩:=au.slice h5.is
      obtain ⟨p10,c10,rfl⟩:=au.slice h10.is
      have K8:=aa9 (KR.out.step i8 g8)
      have hblk8:=K8.out.blk
      clear g0 g1 g2 g3 g4 g5 g6 g7 g8 g9 g10 k1 r2 hres hbel CR
      obtain ⟨Y,hY⟩: ∃ Y,Y=w8.setRow b #[sv q.tag,.int .i64 q.kind,sv q.box,sv q.dst,.bool q.uid,.slice p5 q.sset.length c5,.int .i64 q.op,.int .i64 q.flags,sv q.text,.bool q.filter.on,.slice p10 q.filter.scopes.length c10]:=⟨_,rfl⟩
      have hyb:Y.heap[b]? =some (.cells #[sv q.tag,.int .i64 q.kind,sv q.box,sv q.dst,.bool q.uid,.slice p5 q.sset.length c5,.int .i64 q.op,.int .i64 q.flags,sv q.text,.bool q.filter.on,.slice p10 q.filter.scopes.length c10] 29 (0,0)):=by rw [hY];exact setRow_heap _ _ _ _ _ _ hblk8
      have hyr:Y.heap[w.heap.size]? =some (.cells bj 29 (0,0)):=by rw [hY];exact (setRow_other _ _ _ _ (by have:=K8.out.rg;have:=K8.out.gb;omega)).trans K8.out.res
      have hyg:ac w8 Y [b]:=by rw [hY];exact ⟨rfl,rfl,rfl,by simp [World.setRow],fun k _ hk=>setRow_other _ _ _ _ (by simpa using hk)⟩
      have hbelY:Below w.heap.size w Y:=ac.below K8.out.bel hyg K8.out.bel.size (fun k hk=>by rw [List.mem_singleton.1 hk];have:=K8.out.lo;have:=K8.out.rg;have:=K8.out.gb;omega)
      have hyi:In6 Y g p l cap a4 b4:=i8.keep (fun k hk=>by rw [hY];exact setRow_other _ _ _ _ (by have:=K8.out.gb;omega))
      have y1:Y.cell? ⟨g,1,none⟩=some (.int .i64 a4):=(aa8 hyi.blk 1).trans rfl
      have y2:Y.cell? ⟨g,2,none⟩=some (.bool b4):=(aa8 hyi.blk 2).trans rfl
      have hlowb:b < wr.heap.size:=(Array.getElem?_eq_some_iff.1 KR.out.blk).1
      have hrgb:w.heap.size < b:=by have:=KR.out.rg;have:=KR.out.gb;omega
      have T5:=aa9 (h5.apart hyg (fun k hk=>by have:=h5.low k hk;simp;omega))
      have T10:=aa9 (h10.apart hyg (fun k hk=>by have:=h10.low k hk;simp;omega))
      have HND:=aa9 hnd
      have ST8:=aa9 st8
      have HYB:=aa9 hyb
      have HYR:=aa9 hyr
      have HBY:=aa9 hbelY
      clear h5 h10 hnd st8 i8 g8 hyb hbelY hyi K8 KR hyg hyr
      have hyr0:=HYR.out
      rw [hY] at y1 y2 hyr0
      cases b4 with
      | true=>
        have HE2:=aa9 (show aM l=none from by rw [HE.out,ST8.out.no rfl rfl];rfl)
        have hby:Below w.heap.size w (w8.setRow b #[sv q.tag,.int .i64 q.kind,sv q.box,sv q.dst,.bool q.uid,.slice p5 q.sset.length c5,.int .i64 q.op,.int .i64 q.flags,sv q.text,.bool q.filter.on,.slice p10 q.filter.scopes.length c10]):=by rw [←hY];exact HBY.out
        obtain ⟨Z,hZ⟩: ∃ Z,Z=(w8.setRow b #[sv q.tag,.int .i64 q.kind,sv q.box,sv q.dst,.bool q.uid,.slice p5 q.sset.length c5,.int .i64 q.op,.int .i64 q.flags,sv q.text,.bool q.filter.on,.slice p10 q.filter.scopes.length c10]).setRow w.heap.size bj:=⟨_,rfl⟩
        have hzr:Z.heap[w.heap.size]? =some (.cells bj 29 (0,0)):=by rw [hZ];exact setRow_heap _ _ _ _ _ _ hyr0
        have hgz:ac (w8.setRow b #[sv q.tag,.int .i64 q.kind,sv q.box,sv q.dst,.bool q.uid,.slice p5 q.sset.length c5,.int .i64 q.op,.int .i64 q.flags,sv q.text,.bool q.filter.on,.slice p10 q.filter.scopes.length c10]) Z [w.heap.size]:=by rw [hZ];exact ⟨rfl,rfl,rfl,by simp [World.setRow],fun k _ hk=>setRow_other _ _ _ _ (by simpa using hk)⟩
        have HBZ:=aa9 (show Below w.heap.size w Z from ac.below hby hgz (hby).size (fun k hk=>by rw [List.mem_singleton.1 hk];exact Nat.le_refl _))
        have HGZ:=aa9 hgz
        obtain ⟨q0,q1,q2,q3,q4,q5,q6,q7,q8,q9,q10⟩:=cC11 hzr
        clear hzr hgz
        go_wp2_with (first | (refine ak rfl _ _ _ rfl b #[sv q.tag,.int .i64 q.kind,sv q.box,sv q.dst,.bool q.uid,.slice p5 q.sset.length c5,.int .i64 q.op,.int .i64 q.flags,sv q.text,.bool q.filter.on,.slice p10 q.filter.scopes.length c10] (by rfl) (by rfl) _ _ hblk8 (by kernel_rfl) rfl (by simp [Value.oneCell',sv]) ?_) | (refine ak rfl _ _ _ rfl w.heap.size bj (by rfl) (by rfl) _ _ hyr0 (by kernel_rfl) rfl (by simp [Value.oneCell',sv]) ?_))
        rw [←hZ]
        refine bodyPost_ret (v:= .tuple #[.agg bj,.bool false]) (by simp [results,Tryz.results23,go_sem,q0,q1,q2,q3,q4,q5,q6,q7,q8,q9,q10]) rfl ?_
        rw [HE2.out]
        exact ⟨.slice none 0 0,.slice none 0 0,[],[],rfl,bA _ _,aC _ _,List.nodup_nil,HBZ.out⟩
      | false=>
        have hst:=(ST8.out.yes rfl).2
        have hle4:=ST8.out.le
        by_cases hlt:a4 < l.length
        · have hlt2:(a4:Int) < (l.length:Int):=by omega
          have HE2:=aa9 (show aM l=none from by
           rw [HE.out,hst,Option.bind_some]
           rw [List.drop_eq_getElem_cons hlt]
           exact fy)
          have hby:Below w.heap.size w (w8.setRow b #[sv q.tag,.int .i64 q.kind,sv q.box,sv q.dst,.bool q.uid,.slice p5 q.sset.length c5,.int .i64 q.op,.int .i64 q.flags,sv q.text,.bool q.filter.on,.slice p10 q.filter.scopes.length c10]):=by rw [←hY];exact HBY.out
          clear hst
          obtain ⟨Z,hZ⟩: ∃ Z,Z=(w8.setRow b #[sv q.tag,.int .i64 q.kind,sv q.box,sv q.dst,.bool q.uid,.slice p5 q.sset.length c5,.int .i64 q.op,.int .i64 q.flags,sv q.text,.bool q.filter.on,.slice p10 q.filter.scopes.length c10]).setRow w.heap.size bj:=⟨_,rfl⟩
          have hzr:Z.heap[w.heap.size]? =some (.cells bj 29 (0,0)):=by rw [hZ];exact setRow_heap _ _ _ _ _ _ hyr0
          have hgz:ac (w8.setRow b #[sv q.tag,.int .i64 q.kind,sv q.box,sv q.dst,.bool q.uid,.slice p5 q.sset.length c5,.int .i64 q.op,.int .i64 q.flags,sv q.text,.bool q.filter.on,.slice p10 q.filter.scopes.length c10]) Z [w.heap.size]:=by rw [hZ];exact ⟨rfl,rfl,rfl,by simp [World.setRow],fun k _ hk=>setRow_other _ _ _ _ (by simpa using hk)⟩
          have HBZ:=aa9 (show Below w.heap.size w Z from ac.below hby hgz (hby).size (fun k hk=>by rw [List.mem_singleton.1 hk];exact Nat.le_refl _))
          have HGZ:=aa9 hgz
          obtain ⟨q0,q1,q2,q3,q4,q5,q6,q7,q8,q9,q10⟩:=cC11 hzr
          clear hzr hgz
          go_wp2_with (first | (refine ak rfl _ _ _ rfl b #[sv q.tag,.int .i64 q.kind,sv q.box,sv q.dst,.bool q.uid,.slice p5 q.sset.length c5,.int .i64 q.op,.int .i64 q.flags,sv q.text,.bool q.filter.on,.slice p10 q.filter.scopes.length c10] (by rfl) (by rfl) _ _ hblk8 (by kernel_rfl) rfl (by simp [Value.oneCell',sv]) ?_) | (refine ak rfl _ _ _ rfl w.heap.size bj (by rfl) (by rfl) _ _ hyr0 (by kernel_rfl) rfl (by simp [Value.oneCell',sv]) ?_))
          rw [←hZ]
          refine bodyPost_ret (v:= .tuple #[.agg bj,.bool false]) (by simp [results,Tryz.results23,go_sem,q0,q1,q2,q3,q4,q5,q6,q7,q8,q9,q10]) rfl ?_
          rw [HE2.out]
          exact ⟨.slice none 0 0,.slice none 0 0,[],[],rfl,bA _ _,aC _ _,List.nodup_nil,HBZ.out⟩
        · have he4:a4=l.length:=by omega
          have hge: ¬(a4:Int) < (l.length:Int):=by omega
          have HE2:=aa9 (show aM l=iR (q,[]) from by
           rw [HE.out,hst,Option.bind_some,he4,List.drop_length])
          have hsm:bg q.lf≤1048576:=db HSZ.out hst HTS.out.1 HTS.out.2
          have COK:=aa9 (j4 q (.slice p5 q.sset.length c5) (.slice p10 q.filter.scopes.length c10) Y T5.out.rd T10.out.rd hsm)
          have hyb0:=HYB.out
          rw [hY] at hyb0
          obtain ⟨g0,g1,g2,g3,g4,g5,g6,g7,g8,g9,g10⟩:=cC11 hyb0
          have hYe:=aa9 hY
          clear hst hsm he4 HTS HE
          go_wp2_with (first | (refine ak rfl _ _ _ rfl b #[sv q.tag,.int .i64 q.kind,sv q.box,sv q.dst,.bool q.uid,.slice p5 q.sset.length c5,.int .i64 q.op,.int .i64 q.flags,sv q.text,.bool q.filter.on,.slice p10 q.filter.scopes.length c10] (by rfl) (by rfl) _ _ hblk8 (by kernel_rfl) rfl (by simp [Value.oneCell',sv]) ?_))
          rw [←hY]
          refine COK.out.mono ?_
          rintro e w9 ⟨rfl,b9⟩
          have hyb9:=(b9.block b (Array.getElem?_eq_some_iff.1 HYB.out).1).trans HYB.out
          have hyr9:=(b9.block w.heap.size (Array.getElem?_eq_some_iff.1 HYR.out).1).trans HYR.out
          have hb9:=HBY.out.trans (b9.mono HBY.out.size)
          have T59:=aa9 (T5.out.below b9)
          have T109:=aa9 (T10.out.below b9)
          clear g0 g1 g2 g3 g4 g5 g6 g7 g8 g9 g10 hyb0 hyr0 y1 y2 COK b9 T5 T10
          cases hok:cg q with
          | false=>
            have HE3:=aa9 (show aM l=none from by rw [HE2.out];exact dX hok)
            clear hok
            obtain ⟨Z,hZ⟩: ∃ Z,Z=w9.setRow w.heap.size bj:=⟨_,rfl⟩
            have hzr:Z.heap[w.heap.size]? =some (.cells bj 29 (0,0)):=by rw [hZ];exact setRow_heap _ _ _ _ _ _ hyr9
            have hgz:ac w9 Z [w.heap.size]:=by rw [hZ];exact ⟨rfl,rfl,rfl,by simp [World.setRow],fun k _ hk=>setRow_other _ _ _ _ (by simpa using hk)⟩
            have HBZ:=aa9 (show Below w.heap.size w Z from ac.below hb9 hgz (hb9).size (fun k hk=>by rw [List.mem_singleton.1 hk];exact Nat.le_refl _))
            have HGZ:=aa9 hgz
            obtain ⟨q0,q1,q2,q3,q4,q5,q6,q7,q8,q9,q10⟩:=cC11 hzr
            clear hzr hgz
            go_wp2_with (refine ak rfl _ _ _ rfl w.heap.size bj (by rfl) (by rfl) _ _ hyr9 (by kernel_rfl) rfl (by simp [Value.oneCell',sv]) ?_)
            rw [←hZ]
            refine bodyPost_ret (v:= .tuple #[.agg bj,.bool false]) (by simp [results,Tryz.results23,go_sem,q0,q1,q2,q3,q4,q5,q6,q7,q8,q9,q10]) rfl ?_
            rw [HE3.out]
            exact ⟨.slice none 0 0,.slice none 0 0,[],[],rfl,bA _ _,aC _ _,List.nodup_nil,HBZ.out⟩
          | true=>
            have HE3:=aa9 (show aM l=some q from by rw [HE2.out];exact dW hok)
            clear hok
            obtain ⟨g0,g1,g2,g3,g4,g5,g6,g7,g8,g9,g10⟩:=cC11 hyb9
            obtain ⟨Z,hZ⟩: ∃ Z,Z=w9.setRow w.heap.size #[sv q.tag,.int .i64 q.kind,sv q.box,sv q.dst,.bool q.uid,.slice p5 q.sset.length c5,.int .i64 q.op,.int .i64 q.flags,sv q.text,.bool q.filter.on,.slice p10 q.filter.scopes.length c10]:=⟨_,rfl⟩
            have hzr:Z.heap[w.heap.size]? =some (.cells #[sv q.tag,.int .i64 q.kind,sv q.box,sv q.dst,.bool q.uid,.slice p5 q.sset.length c5,.int .i64 q.op,.int .i64 q.flags,sv q.text,.bool q.filter.on,.slice p10 q.filter.scopes.length c10] 29 (0,0)):=by rw [hZ];exact setRow_heap _ _ _ _ _ _ hyr9
            have hgz:ac w9 Z [w.heap.size]:=by rw [hZ];exact ⟨rfl,rfl,rfl,by simp [World.setRow],fun k _ hk=>setRow_other _ _ _ _ (by simpa using hk)⟩
            have HBZ:=aa9 (show Below w.heap.size w Z from ac.below hb9 hgz (hb9).size (fun k hk=>by rw [List.mem_singleton.1 hk];exact Nat.le_refl _))
            have HGZ:=aa9 hgz
            obtain ⟨q0,q1,q2,q3,q4,q5,q6,q7,q8,q9,q10⟩:=cC11 hzr
            clear hzr hgz
            go_wp2_with (refine ak rfl _ _ _ rfl w.heap.size #[sv q.tag,.int .i64 q.kind,sv q.box,sv q.dst,.bool q.uid,.slice p5 q.sset.length c5,.int .i64 q.op,.int .i64 q.flags,sv q.text,.bool q.filter.on,.slice p10 q.filter.scopes.length c10] (by rfl) (by rfl) _ _ hyr9 (by kernel_rfl) rfl (by simp [Value.oneCell',sv]) ?_)
            rw [←hZ]
            refine bodyPost_ret (v:= .tuple #[.agg #[sv q.tag,.int .i64 q.kind,sv q.box,sv q.dst,.bool q.uid,.slice p5 q.sset.length c5,.int .i64 q.op,.int .i64 q.flags,sv q.text,.bool q.filter.on,.slice p10 q.filter.scopes.length c10],.bool true]) (by simp [results,Tryz.results23,go_sem,q0,q1,q2,q3,q4,q5,q6,q7,q8,q9,q10]) rfl ?_
            rw [HE3.out]
            have t5:=T59.out.apart HGZ.out (fun k hk=>by have:=T59.out.low k hk;simp;omega)
            have t10:=T109.out.apart HGZ.out (fun k hk=>by have:=T109.out.low k hk;simp;omega)
            exact ⟨_,_,f5,f10,rfl,⟨t5.is,t5.nodup,fun k hk=>by have:=t5.low k hk;omega⟩,⟨t10.is,t10.nodup,fun k hk=>by have:=t10.low k hk;omega⟩,HND.out,HBZ.out⟩
end Go.Proofs.YtmlgkoeacbeopaaGreatDoor
