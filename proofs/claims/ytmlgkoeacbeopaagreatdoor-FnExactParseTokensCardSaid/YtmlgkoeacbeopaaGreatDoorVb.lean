/- Vb -/
import Derived.Test.YtmlgkoeacbeopaaGreatDoorVa
set_option maxHeartbeats 12800000
namespace Go.Proofs.YtmlgkoeacbeopaaGreatDoor
open Go.RowKit
def oL23 : List (Nat × Bool) := [(0, true), (1, true), (2, true), (3, true), (4, true), (5, true), (6, true), (7, true), (8, true), (9, true), (10, true), (11, true), (12, false)]
theorem ac.of_grown {W W':World} {g:Nat} (h:W.grownBy W' (some g)):ac W W' [g]:=⟨h.os,h.tape,h.output,h.size,fun k hk hn=>h.block k hk (by intro e;injection e with e;exact hn (by simp [e]))⟩
abbrev ki (q:ap) (a5 a10:Value):Array Value:= #[sv q.tag,.int .i64 q.kind,sv q.box,sv q.dst,.bool q.uid,a5,.int .i64 q.op,.int .i64 q.flags,sv q.text,.bool q.filter.on,a10]
structure SpC (W0 W:World) (g b:Nat) (p:Option Addr) (l:List Tok) (cap at_:Nat) (bad:Bool) (q:ap) (a5 a10:Value) (f5 f10:List Nat):Prop where
 in6:In6 W g p l cap at_ bad
 blk:W.heap[b]? =some (.cells (ki q a5 a10) 29 (0,0))
 res:W.heap[b+1]? =some (.cells bj 29 (0,0))
 base:W0.heap.size=b
 gb:g < b
 grow:ac W0 W [g]
 t5:cx W (b+2) (am q.sset) a5 f5
 t10:cx W (b+2) (aj q.filter.scopes) a10 f10
 nd:(f5++f10).Nodup
section
variable {W0 W W':World} {g b:Nat} {p:Option Addr} {l:List Tok} {cap at_ at':Nat} {bad bad':Bool} {q q':ap} {a5 a10:Value} {f5 f10:List Nat}
theorem SpC.step (h:SpC W0 W g b p l cap at_ bad q a5 a10 f5 f10) (hi:In6 W' g p l cap at' bad') (hg:ac W W' [g]):SpC W0 W' g b p l cap at' bad' q a5 a10 f5 f10 where
 in6:=hi
 blk:=(hg.block b (Array.getElem?_eq_some_iff.1 h.blk).1 (by have:=h.gb;simp;omega)).trans h.blk
 res:=(hg.block (b+1) (Array.getElem?_eq_some_iff.1 h.res).1 (by have:=h.gb;simp;omega)).trans h.res
 base:=h.base
 gb:=h.gb
 grow:=h.grow.trans hg
 t5:=h.t5.apart hg (fun k hk=>by have:=h.t5.low k hk;have:=h.gb;simp;omega)
 t10:=h.t10.apart hg (fun k hk=>by have:=h.t10.low k hk;have:=h.gb;simp;omega)
 nd:=h.nd
theorem SpC.call (h:SpC W0 W g b p l cap at_ bad q a5 a10 f5 f10) (hb:Below W.heap.size W W'):SpC W0 W' g b p l cap at_ bad q a5 a10 f5 f10:=h.step (h.in6.below hb) (ac.of_below hb)
theorem SpC.setBad (h:SpC W0 W g b p l cap at_ bad q a5 a10 f5 f10) (v:Bool):SpC W0 (W.setCell ⟨g,2,none⟩ (.bool v)) g b p l cap at_ v q a5 a10 f5 f10:=h.step (h.in6.set rfl) (ac.set (by simp))
theorem SpC.setAt (h:SpC W0 W g b p l cap at_ bad q a5 a10 f5 f10) (n:Nat):SpC W0 (W.setCell ⟨g,1,none⟩ (.int .i64 n)) g b p l cap n bad q a5 a10 f5 f10:=h.step (h.in6.set rfl) (ac.set (by simp))
theorem SpC.setF (h:SpC W0 W g b p l cap at_ bad q a5 a10 f5 f10) (j:Nat) (u:Value) {q':ap} {a5' a10':Value} {f5' f10':List Nat} (hu:(ki q a5 a10).setIfInBounds j u=ki q' a5' a10') (h5:cx W (b+2) (am q'.sset) a5' f5') (h10:cx W (b+2) (aj q'.filter.scopes) a10' f10') (hn:(f5'++f10').Nodup):SpC W0 (W.setCell ⟨b,j,none⟩ u) g b p l cap at_ bad q' a5' a10' f5' f10' where
 in6:=h.in6.keep (fun k hk=>aD (by have:=h.gb;omega))
 blk:=by rw [bz h.blk,hu]
 res:=(aD (by omega)).trans h.res
 base:=h.base
 gb:=h.gb
 grow:=h.grow.setN (by rw [h.base];exact Nat.le_refl _)
 t5:=h5.apart (ac.set (List.mem_singleton.2 rfl)) (fun k hk=>by have:=h5.low k hk;simp;omega)
 t10:=h10.apart (ac.set (List.mem_singleton.2 rfl)) (fun k hk=>by have:=h10.low k hk;simp;omega)
 nd:=hn
theorem SpC.cell (h:SpC W0 W g b p l cap at_ bad q a5 a10 f5 f10) (j:Nat) (v:Value) (hv:(ki q a5 a10)[j]? =some v):W.cell? ⟨b,j,none⟩=some v:=(aa8 h.blk j).trans hv
theorem SpC.free (h:SpC W0 W g b p l cap at_ bad q a5 a10 f5 f10) (j:Nat):W.frozen? ⟨b,j,none⟩=false:=Lib.frozen_of_heap h.blk j
theorem SpC.r0 (h:SpC W0 W g b p l cap at_ bad q a5 a10 f5 f10):W.cell? ⟨g,0,none⟩=some (.slice p l.length cap):=(aa8 h.in6.blk 0).trans rfl
theorem SpC.r1 (h:SpC W0 W g b p l cap at_ bad q a5 a10 f5 f10):W.cell? ⟨g,1,none⟩=some (.int .i64 at_):=(aa8 h.in6.blk 1).trans rfl
theorem SpC.r2 (h:SpC W0 W g b p l cap at_ bad q a5 a10 f5 f10):W.cell? ⟨g,2,none⟩=some (.bool bad):=(aa8 h.in6.blk 2).trans rfl
theorem SpC.rf (h:SpC W0 W g b p l cap at_ bad q a5 a10 f5 f10) (j:Nat):W.frozen? ⟨g,j,none⟩=false:=Lib.frozen_of_heap h.in6.blk j
end
theorem lG (g cap at_:Nat) (p:Option Addr) (l:List Tok) (bad:Bool) (W:World) (h:In6 W g p l cap at_ bad) (hl:l.length≤1048576) (hx: ∀ t∈l,t.text.length≤1048576) (ha:at_≤l.length):
 Calls Tryz.prog 118 #[.pointer (some ⟨g,0,none⟩)] W fun e w'=> ∃ n at' bad',e= .returned (.int .i64 n)∧In6 w' g p l cap at' bad'∧ac W w' [g]∧aK ch l at_ bad n at' bad':=by
 go_enter Tryz.func118,Tryz.ntmps118
 go_wp2_with fail
 refine (gZ g cap at_ p l bad W h (by omega) ha).mono ?_
 rintro e w1 ⟨v,xs,a1,b1,rfl,o1,i1,g1,st1,hm,hle⟩
 have C:=aa9 (ju v xs w1 (Rd1.of_own (enc:=sv) o1) (by omega) (fun y hy=>by obtain ⟨t,ht,rfl⟩:=hm y hy;exact hx t ht))
 have I1:=aa9 i1
 have G1:=aa9 (ac.of_grown g1)
 have ST:=aa9 (qA st1)
 clear o1 i1 g1 st1 hm h
 go_wp2_with fail
 refine C.out.mono ?_
 rintro e w2 ⟨rfl,b2⟩
 have I2:=aa9 (I1.out.below b2)
 have G2:=aa9 (G1.out.trans (ac.of_below (fp:=[g]) b2))
 have r2:w2.cell? ⟨g,2,none⟩=some (.bool b1):=(aa8 I2.out.blk 2).trans rfl
 have z2:w2.frozen? ⟨g,2,none⟩=false:=Lib.frozen_of_heap I2.out.blk 2
 clear b2
 cases hU:rdF 0 xs with
 | none=>
   rw [hU] at ST
   unfold rdV
   cases b1
   all_goals
    go_wp2
    go_ret
    exact ⟨_,a1,true,rfl,I2.out.set rfl,G2.out.trans (ac.set (by simp)),by simpa using ST.out⟩
 | some n=>
   rw [hU] at ST
   unfold rdV
   cases b1
   all_goals
    go_wp2
    go_ret
    exact ⟨_,a1,_,rfl,I2.out.set rfl,G2.out.trans (ac.set (by simp)),by simpa using ST.out⟩
def dY (c0:ap) (W0:World) (g cap at_:Nat) (p:Option Addr) (l:List Tok) (e:Ending) (w':World):Prop:=
 ∃ q a5 a10 f5 f10 at' bad',e= .returned (bQ q a5 a10)∧In6 w' g p l cap at' bad'∧ac W0 w' [g]∧aK (fun r=>bh (c0,r)) l at_ false q at' bad'∧cx w' W0.heap.size (am q.sset) a5 f5∧cx w' W0.heap.size (aj q.filter.scopes) a10 f10∧(f5++f10).Nodup
set_option maxRecDepth 20000 in
theorem aan (c0:ap) (W0:World) (g cap at_:Nat) (p:Option Addr) (l:List Tok) (h:In6 W0 g p l cap at_ false) (hcap:l.length≤cap) (hl:l.length≤1048576) (hx: ∀ t∈l,t.text.length≤1048576) (ha:at_≤l.length) (hs:c0.sset=[]) (hf:c0.filter.scopes=[]) (hk:c0.kind=1∨c0.kind=3∨c0.kind=4∨c0.kind=5∨c0.kind=9∨c0.kind=15):
 Calls Tryz.prog 62 #[.pointer (some ⟨g,0,none⟩),bQ c0 (.slice none 0 0) (.slice none 0 0)] W0 (dY c0 W0 g cap at_ p l):=by
 have _h0:=And.intro hcap hl
 clear _h0
 have hse:ay c0.kind=false:=by rcases hk with hk | hk | hk | hk | hk | hk <;> rw [hk] <;> decide
 have hbo:ar c0.kind=false:=by rcases hk with hk | hk | hk | hk | hk | hk <;> rw [hk] <;> decide
 have t8:(c0.kind==8)=false:=cFalse (by omega)
 have t14:(c0.kind==14)=false:=cFalse (by omega)
 have t11:(c0.kind==11)=false:=cFalse (by omega)
 have t6:(c0.kind==6)=false:=cFalse (by omega)
 have n8: ¬c0.kind=8:=beq_eq_false_iff_ne.1 t8
 have n14: ¬c0.kind=14:=beq_eq_false_iff_ne.1 t14
 have n11: ¬c0.kind=11:=beq_eq_false_iff_ne.1 t11
 have n6: ¬c0.kind=6:=beq_eq_false_iff_ne.1 t6
 have nf: ¬(c0.kind=8∨c0.kind=11):=by rintro (h | h);exact n8 h;exact n11 h
 have NN:=aa9 (And.intro hse (And.intro hbo (And.intro n8 (And.intro n14 (And.intro n11 (And.intro n6 nf))))))
 have HX:=aa9 hx
 have hg:=h.lt
 have HI:=aa9 h
 have HS:=aa9 hs
 have HF:=aa9 hf
 have cs:=fun W=>bu c0.kind W
 have cb:=fun W=>ba c0.kind W
 rw [hse] at cs
 rw [hbo] at cb
 have CS:=aa9 cs
 have CB:=aa9 cb
 clear hx h hs hf cs cb hse hbo n8 n14 n11 n6 nf hk
 go_enter Tryz.func62,Tryz.ntmps62
 go_wp2_with fail
 refine (CS.out _).mono ?_
 rintro e w1 ⟨rfl,rfl⟩
 clear CS
 go_upto_if 13 with fail
 refine aw ?_
 intro X hX
 have K0:=aa9 (show SpC W0 X g W0.heap.size p l cap at_ false c0 (.slice none 0 0) (.slice none 0 0) [] [] from by
  rw [hX]
  have hb:Below W0.heap.size W0 ((W0.alloc (.cells (ki c0 (.slice none 0 0) (.slice none 0 0)) 29)).alloc (.cells bj 29)):=((Below.refl _ _).alloc (Nat.le_refl _) _).alloc (by simp) _
  refine ⟨HI.out.below hb,(Below.heap_alloc _ _ _ (by simp)).trans (heap_alloc_new W0 _),?_,rfl,hg,ac.of_below hb,by rw [HS.out];exact bA _ _,by rw [HF.out];exact aC _ _,List.nodup_nil⟩
  have h1:=heap_alloc_new (W0.alloc (.cells (ki c0 (.slice none 0 0) (.slice none 0 0)) 29)) (.cells bj 29)
  rw [World.size_alloc] at h1
  exact h1)
 clear hX HI HS HF
 generalize hb0:W0.heap.size=b at *
 have SS:=aa9 (ga (q:=c0) (b:=false) NN.out.1 ha)
 have c1:=K0.out.cell 1 (.int .i64 c0.kind) rfl
 have SB:=aa9 (show aK (fun r=>nR c0 r) l at_ false _ _ _ from aK.bind (P:=fun r=>dU (c0,r)) (Q:=fun c r=>opP (c,r)) SS.out (fu (q:=c0) NN.out.2.2.1 ha))
 clear SS
 have SS:=SB
 clear SB
 go_wp2_with fail
 refine (CB.out _).mono ?_
 rintro e wz ⟨rfl,rfl⟩
 clear CB
 have SB:=aa9 (show aK (fun r=>nS c0 r) l at_ false _ _ _ from aK.bind (P:=fun r=>nR c0 r) (Q:=fun c r=>eW (c,r)) SS.out (iV (q:=c0) NN.out.2.1 ha))
 clear SS
 have SS:=SB
 clear SB
 have SB:=aa9 (show aK (fun r=>nT c0 r) l at_ false _ _ _ from aK.bind (P:=fun r=>nS c0 r) (Q:=fun c r=>toP (c,r)) SS.out (fw (q:=c0) NN.out.2.2.2.1 ha))
 clear SS
 have SS:=SB
 clear SB
 have SB:=aa9 (show aK (fun r=>mB c0 r) l at_ false _ _ _ from aK.bind (P:=fun r=>nT c0 r) (Q:=fun c r=>bG (c,r)) SS.out (dt (q:=c0) NN.out.2.2.2.2.2.2 ha))
 clear SS
 have SS:=SB
 clear SB
 have SB:=aa9 (show aK (fun r=>lO c0 r) l at_ false _ _ _ from aK.bind (P:=fun r=>mB c0 r) (Q:=fun c r=>cJ (c,r)) SS.out (du (q:=c0) NN.out.2.2.2.2.1 ha))
 clear SS
 have SS:=SB
 clear SB
 have SB:=aa9 (show aK (fun r=>sI c0 r) l at_ false _ _ _ from aK.bind (P:=fun r=>lO c0 r) (Q:=fun c r=>bf (c,r)) SS.out (ca (q:=c0) NN.out.2.2.2.2.2.1 ha))
 clear SS
 have SS:=SB
 clear SB
 go_upto_region 25 with fail
 refine aw ?_
 intro wf hwf
 have K:=aa9 (hwf ▸ K0.out)
 clear hwf K0
 have g0:=K.out.cell 0 (sv (c0:ap).tag) rfl
 have g1:=K.out.cell 1 (.int .i64 (c0:ap).kind) rfl
 have g2:=K.out.cell 2 (sv (c0:ap).box) rfl
 have g3:=K.out.cell 3 (sv (c0:ap).dst) rfl
 have g4:=K.out.cell 4 (.bool (c0:ap).uid) rfl
 have g5:=K.out.cell 5 (.slice none 0 0) rfl
 have g6:=K.out.cell 6 (.int .i64 (c0:ap).op) rfl
 have g7:=K.out.cell 7 (.int .i64 (c0:ap).flags) rfl
 have g8:=K.out.cell 8 (sv (c0:ap).text) rfl
 have g9:=K.out.cell 9 (.bool (c0:ap).filter.on) rfl
 have g10:=K.out.cell 10 (.slice none 0 0) rfl
 have hres:=K.out.res
 obtain ⟨Z,hZ⟩: ∃ Z,Z=wf.setRow (b+1) #[sv (c0:ap).tag,.int .i64 (c0:ap).kind,sv (c0:ap).box,sv (c0:ap).dst,.bool (c0:ap).uid,.slice none 0 0,.int .i64 (c0:ap).op,.int .i64 (c0:ap).flags,sv (c0:ap).text,.bool (c0:ap).filter.on,.slice none 0 0]:=⟨_,rfl⟩
 have hzr:Z.heap[b+1]? =some (.cells #[sv (c0:ap).tag,.int .i64 (c0:ap).kind,sv (c0:ap).box,sv (c0:ap).dst,.bool (c0:ap).uid,.slice none 0 0,.int .i64 (c0:ap).op,.int .i64 (c0:ap).flags,sv (c0:ap).text,.bool (c0:ap).filter.on,.slice none 0 0] 29 (0,0)):=by rw [hZ];exact setRow_heap _ _ _ _ _ _ hres
 have hgz:ac wf Z [b+1]:=by rw [hZ];exact ⟨rfl,rfl,rfl,by simp [World.setRow],fun k _ hk=>setRow_other _ _ _ _ (by simpa using hk)⟩
 have HIZ:=aa9 (show In6 Z g p l cap at_ false from K.out.in6.keep (fun k hk=>by rw [hZ];exact setRow_other _ _ _ _ (by have:=K.out.gb;omega)))
 have HT5:=aa9 (show cx Z W0.heap.size _ _ _ from (K.out.t5.apart hgz (fun k hk=>by have:=K.out.t5.low k hk;simp;omega)) |> fun t=>⟨t.is,t.nodup,fun k hk=>by have:=t.low k hk;have:=K.out.base;omega⟩)
 have HT10:=aa9 (show cx Z W0.heap.size _ _ _ from (K.out.t10.apart hgz (fun k hk=>by have:=K.out.t10.low k hk;simp;omega)) |> fun t=>⟨t.is,t.nodup,fun k hk=>by have:=t.low k hk;have:=K.out.base;omega⟩)
 have HGZ:=aa9 (show ac W0 Z [g] from ⟨hgz.os.trans K.out.grow.os,hgz.tape.trans K.out.grow.tape,hgz.output.trans K.out.grow.output,Nat.le_trans K.out.grow.size hgz.size,fun k hk hn=>(hgz.block k (Nat.lt_of_lt_of_le hk K.out.grow.size) (by have:=K.out.base;simp;omega)).trans (K.out.grow.block k hk hn)⟩)
 have HND:=aa9 K.out.nd
 have HSS:=aa9 (SS.out.of_eq (fun r=>cN c0 r))
 obtain ⟨qq0,qq1,qq2,qq3,qq4,qq5,qq6,qq7,qq8,qq9,qq10⟩:=cC11 hzr
 clear hgz hzr K SS
 go_wp2_with (refine ak rfl _ _ _ rfl (b+1) #[sv (c0:ap).tag,.int .i64 (c0:ap).kind,sv (c0:ap).box,sv (c0:ap).dst,.bool (c0:ap).uid,.slice none 0 0,.int .i64 (c0:ap).op,.int .i64 (c0:ap).flags,sv (c0:ap).text,.bool (c0:ap).filter.on,.slice none 0 0] (by rfl) (by rfl) _ _ hres (by kernel_rfl) rfl (by simp [Value.oneCell',sv]) ?_)
 rw [←hZ]
 refine bodyPost_ret (v:= .agg #[sv (c0:ap).tag,.int .i64 (c0:ap).kind,sv (c0:ap).box,sv (c0:ap).dst,.bool (c0:ap).uid,.slice none 0 0,.int .i64 (c0:ap).op,.int .i64 (c0:ap).flags,sv (c0:ap).text,.bool (c0:ap).filter.on,.slice none 0 0]) (by simp [results,Tryz.results62,go_sem,qq0,qq1,qq2,qq3,qq4,qq5,qq6,qq7,qq8,qq9,qq10]) rfl ?_
 exact ⟨c0,_,_,_,_,at_,false,rfl,HIZ.out,HGZ.out,HSS.out,HT5.out,HT10.out,HND.out⟩
set_option maxRecDepth 20000 in
theorem aao (c0:ap) (W0:World) (g cap at_:Nat) (p:Option Addr) (l:List Tok) (h:In6 W0 g p l cap at_ false) (hcap:l.length≤cap) (hl:l.length≤1048576) (hx: ∀ t∈l,t.text.length≤1048576) (ha:at_≤l.length) (hs:c0.sset=[]) (hf:c0.filter.scopes=[]) (hk:c0.kind=2∨c0.kind=12∨c0.kind=13):
 Calls Tryz.prog 62 #[.pointer (some ⟨g,0,none⟩),bQ c0 (.slice none 0 0) (.slice none 0 0)] W0 (dY c0 W0 g cap at_ p l):=by
 have _h0:=And.intro hcap hl
 clear _h0
 have hse:ay c0.kind=false:=by rcases hk with hk | hk | hk <;> rw [hk] <;> decide
 have hbo:ar c0.kind=true:=by rcases hk with hk | hk | hk <;> rw [hk] <;> decide
 have t8:(c0.kind==8)=false:=cFalse (by omega)
 have t14:(c0.kind==14)=false:=cFalse (by omega)
 have t11:(c0.kind==11)=false:=cFalse (by omega)
 have t6:(c0.kind==6)=false:=cFalse (by omega)
 have n8: ¬c0.kind=8:=beq_eq_false_iff_ne.1 t8
 have n14: ¬c0.kind=14:=beq_eq_false_iff_ne.1 t14
 have n11: ¬c0.kind=11:=beq_eq_false_iff_ne.1 t11
 have n6: ¬c0.kind=6:=beq_eq_false_iff_ne.1 t6
 have nf: ¬(c0.kind=8∨c0.kind=11):=by rintro (h | h);exact n8 h;exact n11 h
 have NN:=aa9 (And.intro hse (And.intro hbo (And.intro n8 (And.intro n14 (And.intro n11 (And.intro n6 nf))))))
 have HX:=aa9 hx
 have hg:=h.lt
 have HI:=aa9 h
 have HS:=aa9 hs
 have HF:=aa9 hf
 have cs:=fun W=>bu c0.kind W
 have cb:=fun W=>ba c0.kind W
 rw [hse] at cs
 rw [hbo] at cb
 have CS:=aa9 cs
 have CB:=aa9 cb
 clear hx h hs hf cs cb hse hbo n8 n14 n11 n6 nf hk
 go_enter Tryz.func62,Tryz.ntmps62
 go_wp2_with fail
 refine (CS.out _).mono ?_
 rintro e w1 ⟨rfl,rfl⟩
 clear CS
 go_upto_if 13 with fail
 refine aw ?_
 intro X hX
 have K0:=aa9 (show SpC W0 X g W0.heap.size p l cap at_ false c0 (.slice none 0 0) (.slice none 0 0) [] [] from by
  rw [hX]
  have hb:Below W0.heap.size W0 ((W0.alloc (.cells (ki c0 (.slice none 0 0) (.slice none 0 0)) 29)).alloc (.cells bj 29)):=((Below.refl _ _).alloc (Nat.le_refl _) _).alloc (by simp) _
  refine ⟨HI.out.below hb,(Below.heap_alloc _ _ _ (by simp)).trans (heap_alloc_new W0 _),?_,rfl,hg,ac.of_below hb,by rw [HS.out];exact bA _ _,by rw [HF.out];exact aC _ _,List.nodup_nil⟩
  have h1:=heap_alloc_new (W0.alloc (.cells (ki c0 (.slice none 0 0) (.slice none 0 0)) 29)) (.cells bj 29)
  rw [World.size_alloc] at h1
  exact h1)
 clear hX HI HS HF
 generalize hb0:W0.heap.size=b at *
 have SS:=aa9 (ga (q:=c0) (b:=false) NN.out.1 ha)
 have c1:=K0.out.cell 1 (.int .i64 c0.kind) rfl
 have SB:=aa9 (show aK (fun r=>nR c0 r) l at_ false _ _ _ from aK.bind (P:=fun r=>dU (c0,r)) (Q:=fun c r=>opP (c,r)) SS.out (fu (q:=c0) NN.out.2.2.1 ha))
 clear SS
 have SS:=SB
 clear SB
 go_wp2_with fail
 refine (CB.out _).mono ?_
 rintro e wz ⟨rfl,rfl⟩
 clear CB
 go_wp2_with fail
 refine (bU g cap at_ p l false 1 _ K0.out.in6 (by omega) ha).mono ?_
 rintro e v1 ⟨x1,a1,b1,rfl,i1,g1,st1,hm1⟩
 have M1:=aa9 (K0.out.step i1 (ac.of_grown g1))
 have ha1:=st1.le
 clear c1
 have SB:=aa9 (show aK (fun r=>nS c0 r) l at_ false _ _ _ from aK.bind (P:=fun r=>nR c0 r) (Q:=fun c r=>eW (c,r)) SS.out (iU (q:=c0) NN.out.2.1 st1))
 clear SS
 have SS:=SB
 clear SB
 have hc21:=M1.out.cell 2 (sv c0.box) rfl
 have hz21:=M1.out.free 2
 have B1:=aa9 (M1.out.setF 2 (sv x1) (q':= { c0 with box:=x1 }) (a5':= .slice none 0 0) (a10':= .slice none 0 0) (f5':=[]) (f10':=[]) rfl M1.out.t5 M1.out.t10 M1.out.nd)
 clear i1 g1 st1 hm1 K0 M1
 go_upto_region 11 with fail
 refine aw ?_
 intro Y1 hY1
 have D1:=aa9 (hY1 ▸ B1.out)
 clear hY1 B1 hc21 hz21
 have c1:=D1.out.cell 1 (.int .i64 c0.kind) rfl
 have SB:=aa9 (show aK (fun r=>nT c0 r) l at_ false _ _ _ from aK.bind (P:=fun r=>nS c0 r) (Q:=fun c r=>toP (c,r)) SS.out (fw (q:= { c0 with box:=x1 }) NN.out.2.2.2.1 ha1))
 clear SS
 have SS:=SB
 clear SB
 have SB:=aa9 (show aK (fun r=>mB c0 r) l at_ false _ _ _ from aK.bind (P:=fun r=>nT c0 r) (Q:=fun c r=>bG (c,r)) SS.out (dt (q:= { c0 with box:=x1 }) NN.out.2.2.2.2.2.2 ha1))
 clear SS
 have SS:=SB
 clear SB
 have SB:=aa9 (show aK (fun r=>lO c0 r) l at_ false _ _ _ from aK.bind (P:=fun r=>mB c0 r) (Q:=fun c r=>cJ (c,r)) SS.out (du (q:= { c0 with box:=x1 }) NN.out.2.2.2.2.1 ha1))
 clear SS
 have SS:=SB
 clear SB
 have SB:=aa9 (show aK (fun r=>sI c0 r) l at_ false _ _ _ from aK.bind (P:=fun r=>lO c0 r) (Q:=fun c r=>bf (c,r)) SS.out (ca (q:= { c0 with box:=x1 }) NN.out.2.2.2.2.2.1 ha1))
 clear SS
 have SS:=SB
 clear SB
 go_upto_region 25 with fail
 refine aw ?_
 intro wf hwf
 have K:=aa9 (hwf ▸ D1.out)
 clear hwf D1
 have g0:=K.out.cell 0 (sv c0.tag) rfl
 have g1:=K.out.cell 1 (.int .i64 c0.kind) rfl
 have g2:=K.out.cell 2 (sv x1) rfl
 have g3:=K.out.cell 3 (sv c0.dst) rfl
 have g4:=K.out.cell 4 (.bool c0.uid) rfl
 have g5:=K.out.cell 5 (.slice none 0 0) rfl
 have g6:=K.out.cell 6 (.int .i64 c0.op) rfl
 have g7:=K.out.cell 7 (.int .i64 c0.flags) rfl
 have g8:=K.out.cell 8 (sv c0.text) rfl
 have g9:=K.out.cell 9 (.bool c0.filter.on) rfl
 have g10:=K.out.cell 10 (.slice none 0 0) rfl
 have hres:=K.out.res
 obtain ⟨Z,hZ⟩: ∃ Z,Z=wf.setRow (b+1) #[sv c0.tag,.int .i64 c0.kind,sv x1,sv c0.dst,.bool c0.uid,.slice none 0 0,.int .i64 c0.op,.int .i64 c0.flags,sv c0.text,.bool c0.filter.on,.slice none 0 0]:=⟨_,rfl⟩
 have hzr:Z.heap[b+1]? =some (.cells #[sv c0.tag,.int .i64 c0.kind,sv x1,sv c0.dst,.bool c0.uid,.slice none 0 0,.int .i64 c0.op,.int .i64 c0.flags,sv c0.text,.bool c0.filter.on,.slice none 0 0] 29 (0,0)):=by rw [hZ];exact setRow_heap _ _ _ _ _ _ hres
 have hgz:ac wf Z [b+1]:=by rw [hZ];exact ⟨rfl,rfl,rfl,by simp [World.setRow],fun k _ hk=>setRow_other _ _ _ _ (by simpa using hk)⟩
 have HIZ:=aa9 (show In6 Z g p l cap a1 b1 from K.out.in6.keep (fun k hk=>by rw [hZ];exact setRow_other _ _ _ _ (by have:=K.out.gb;omega)))
 have HT5:=aa9 (show cx Z W0.heap.size _ _ _ from (K.out.t5.apart hgz (fun k hk=>by have:=K.out.t5.low k hk;simp;omega)) |> fun t=>⟨t.is,t.nodup,fun k hk=>by have:=t.low k hk;have:=K.out.base;omega⟩)
 have HT10:=aa9 (show cx Z W0.heap.size _ _ _ from (K.out.t10.apart hgz (fun k hk=>by have:=K.out.t10.low k hk;simp;omega)) |> fun t=>⟨t.is,t.nodup,fun k hk=>by have:=t.low k hk;have:=K.out.base;omega⟩)
 have HGZ:=aa9 (show ac W0 Z [g] from ⟨hgz.os.trans K.out.grow.os,hgz.tape.trans K.out.grow.tape,hgz.output.trans K.out.grow.output,Nat.le_trans K.out.grow.size hgz.size,fun k hk hn=>(hgz.block k (Nat.lt_of_lt_of_le hk K.out.grow.size) (by have:=K.out.base;simp;omega)).trans (K.out.grow.block k hk hn)⟩)
 have HND:=aa9 K.out.nd
 have HSS:=aa9 (SS.out.of_eq (fun r=>cN c0 r))
 obtain ⟨qq0,qq1,qq2,qq3,qq4,qq5,qq6,qq7,qq8,qq9,qq10⟩:=cC11 hzr
 clear hgz hzr K SS
 go_wp2_with (refine ak rfl _ _ _ rfl (b+1) #[sv c0.tag,.int .i64 c0.kind,sv x1,sv c0.dst,.bool c0.uid,.slice none 0 0,.int .i64 c0.op,.int .i64 c0.flags,sv c0.text,.bool c0.filter.on,.slice none 0 0] (by rfl) (by rfl) _ _ hres (by kernel_rfl) rfl (by simp [Value.oneCell',sv]) ?_)
 rw [←hZ]
 refine bodyPost_ret (v:= .agg #[sv c0.tag,.int .i64 c0.kind,sv x1,sv c0.dst,.bool c0.uid,.slice none 0 0,.int .i64 c0.op,.int .i64 c0.flags,sv c0.text,.bool c0.filter.on,.slice none 0 0]) (by simp [results,Tryz.results62,go_sem,qq0,qq1,qq2,qq3,qq4,qq5,qq6,qq7,qq8,qq9,qq10]) rfl ?_
 exact ⟨{ c0 with box:=x1 },_,_,_,_,a1,b1,rfl,HIZ.out,HGZ.out,HSS.out,HT5.out,HT10.out,HND.out⟩
set_option maxRecDepth 20000 in
theorem aap (c0:ap) (W0:World) (g cap at_:Nat) (p:Option Addr) (l:List Tok) (h:In6 W0 g p l cap at_ false) (hcap:l.length≤cap) (hl:l.length≤1048576) (hx: ∀ t∈l,t.text.length≤1048576) (ha:at_≤l.length) (hs:c0.sset=[]) (hf:c0.filter.scopes=[]) (hk:c0.kind=14):
 Calls Tryz.prog 62 #[.pointer (some ⟨g,0,none⟩),bQ c0 (.slice none 0 0) (.slice none 0 0)] W0 (dY c0 W0 g cap at_ p l):=by
 have _h0:=And.intro hcap hl
 clear _h0
 have hse:ay c0.kind=false:=by rw [hk];decide
 have hbo:ar c0.kind=true:=by rw [hk];decide
 have t8:(c0.kind==8)=false:=cFalse (by omega)
 have t14:(c0.kind==14)=true:=cTrue (by omega)
 have t11:(c0.kind==11)=false:=cFalse (by omega)
 have t6:(c0.kind==6)=false:=cFalse (by omega)
 have n8: ¬c0.kind=8:=beq_eq_false_iff_ne.1 t8
 have n14:c0.kind=14:=hk
 have n11: ¬c0.kind=11:=beq_eq_false_iff_ne.1 t11
 have n6: ¬c0.kind=6:=beq_eq_false_iff_ne.1 t6
 have nf: ¬(c0.kind=8∨c0.kind=11):=by rintro (h | h);exact n8 h;exact n11 h
 have NN:=aa9 (And.intro hse (And.intro hbo (And.intro n8 (And.intro n14 (And.intro n11 (And.intro n6 nf))))))
 have HX:=aa9 hx
 have hg:=h.lt
 have HI:=aa9 h
 have HS:=aa9 hs
 have HF:=aa9 hf
 have cs:=fun W=>bu c0.kind W
 have cb:=fun W=>ba c0.kind W
 rw [hse] at cs
 rw [hbo] at cb
 have CS:=aa9 cs
 have CB:=aa9 cb
 clear hx h hs hf cs cb hse hbo n8 n14 n11 n6 nf hk
 go_enter Tryz.func62,Tryz.ntmps62
 go_wp2_with fail
 refine (CS.out _).mono ?_
 rintro e w1 ⟨rfl,rfl⟩
 clear CS
 go_upto_if 13 with fail
 refine aw ?_
 intro X hX
 have K0:=aa9 (show SpC W0 X g W0.heap.size p l cap at_ false c0 (.slice none 0 0) (.slice none 0 0) [] [] from by
  rw [hX]
  have hb:Below W0.heap.size W0 ((W0.alloc (.cells (ki c0 (.slice none 0 0) (.slice none 0 0)) 29)).alloc (.cells bj 29)):=((Below.refl _ _).alloc (Nat.le_refl _) _).alloc (by simp) _
  refine ⟨HI.out.below hb,(Below.heap_alloc _ _ _ (by simp)).trans (heap_alloc_new W0 _),?_,rfl,hg,ac.of_below hb,by rw [HS.out];exact bA _ _,by rw [HF.out];exact aC _ _,List.nodup_nil⟩
  have h1:=heap_alloc_new (W0.alloc (.cells (ki c0 (.slice none 0 0) (.slice none 0 0)) 29)) (.cells bj 29)
  rw [World.size_alloc] at h1
  exact h1)
 clear hX HI HS HF
 generalize hb0:W0.heap.size=b at *
 have SS:=aa9 (ga (q:=c0) (b:=false) NN.out.1 ha)
 have c1:=K0.out.cell 1 (.int .i64 c0.kind) rfl
 have SB:=aa9 (show aK (fun r=>nR c0 r) l at_ false _ _ _ from aK.bind (P:=fun r=>dU (c0,r)) (Q:=fun c r=>opP (c,r)) SS.out (fu (q:=c0) NN.out.2.2.1 ha))
 clear SS
 have SS:=SB
 clear SB
 go_wp2_with fail
 refine (CB.out _).mono ?_
 rintro e wz ⟨rfl,rfl⟩
 clear CB
 go_wp2_with fail
 refine (bU g cap at_ p l false 1 _ K0.out.in6 (by omega) ha).mono ?_
 rintro e v1 ⟨x1,a1,b1,rfl,i1,g1,st1,hm1⟩
 have M1:=aa9 (K0.out.step i1 (ac.of_grown g1))
 have ha1:=st1.le
 clear c1
 have SB:=aa9 (show aK (fun r=>nS c0 r) l at_ false _ _ _ from aK.bind (P:=fun r=>nR c0 r) (Q:=fun c r=>eW (c,r)) SS.out (iU (q:=c0) NN.out.2.1 st1))
 clear SS
 have SS:=SB
 clear SB
 have hc21:=M1.out.cell 2 (sv c0.box) rfl
 have hz21:=M1.out.free 2
 have B1:=aa9 (M1.out.setF 2 (sv x1) (q':= { c0 with box:=x1 }) (a5':= .slice none 0 0) (a10':= .slice none 0 0) (f5':=[]) (f10':=[]) rfl M1.out.t5 M1.out.t10 M1.out.nd)
 clear i1 g1 st1 hm1 K0 M1
 go_upto_region 11 with fail
 refine aw ?_
 intro Y1 hY1
 have D1:=aa9 (hY1 ▸ B1.out)
 clear hY1 B1 hc21 hz21
 have c1:=D1.out.cell 1 (.int .i64 c0.kind) rfl
 go_wp2_with fail
 refine (bU g cap a1 p l b1 1 _ D1.out.in6 (by omega) ha1).mono ?_
 rintro e v2 ⟨x2,a2,b2,rfl,i2,g2,st2,hm2⟩
 have M2:=aa9 (D1.out.step i2 (ac.of_grown g2))
 have ha2:=st2.le
 clear c1
 have SB:=aa9 (show aK (fun r=>nT c0 r) l at_ false _ _ _ from aK.bind (P:=fun r=>nS c0 r) (Q:=fun c r=>toP (c,r)) SS.out (wv (q:= { c0 with box:=x1 }) NN.out.2.2.2.1 st2))
 clear SS
 have SS:=SB
 clear SB
 have hc22:=M2.out.cell 3 (sv c0.dst) rfl
 have hz22:=M2.out.free 3
 have B2:=aa9 (M2.out.setF 3 (sv x2) (q':= { c0 with box:=x1,dst:=x2 }) (a5':= .slice none 0 0) (a10':= .slice none 0 0) (f5':=[]) (f10':=[]) rfl M2.out.t5 M2.out.t10 M2.out.nd)
 clear i2 g2 st2 hm2 D1 M2
 go_upto_region 13 with fail
 refine aw ?_
 intro Y2 hY2
 have D2:=aa9 (hY2 ▸ B2.out)
 clear hY2 B2 hc22 hz22
 have c1:=D2.out.cell 1 (.int .i64 c0.kind) rfl
 have SB:=aa9 (show aK (fun r=>mB c0 r) l at_ false _ _ _ from aK.bind (P:=fun r=>nT c0 r) (Q:=fun c r=>bG (c,r)) SS.out (dt (q:= { c0 with box:=x1,dst:=x2 }) NN.out.2.2.2.2.2.2 ha2))
 clear SS
 have SS:=SB
 clear SB
 have SB:=aa9 (show aK (fun r=>lO c0 r) l at_ false _ _ _ from aK.bind (P:=fun r=>mB c0 r) (Q:=fun c r=>cJ (c,r)) SS.out (du (q:= { c0 with box:=x1,dst:=x2 }) NN.out.2.2.2.2.1 ha2))
 clear SS
 have SS:=SB
 clear SB
 have SB:=aa9 (show aK (fun r=>sI c0 r) l at_ false _ _ _ from aK.bind (P:=fun r=>lO c0 r) (Q:=fun c r=>bf (c,r)) SS.out (ca (q:= { c0 with box:=x1,dst:=x2 }) NN.out.2.2.2.2.2.1 ha2))
 clear SS
 have SS:=SB
 clear SB
 go_upto_region 25 with fail
 refine aw ?_
 intro wf hwf
 have K:=aa9 (hwf ▸ D2.out)
 clear hwf D2
 have g0:=K.out.cell 0 (sv c0.tag) rfl
 have g1:=K.out.cell 1 (.int .i64 c0.kind) rfl
 have g2:=K.out.cell 2 (sv x1) rfl
 have g3:=K.out.cell 3 (sv x2) rfl
 have g4:=K.out.cell 4 (.bool c0.uid) rfl
 have g5:=K.out.cell 5 (.slice none 0 0) rfl
 have g6:=K.out.cell 6 (.int .i64 c0.op) rfl
 have g7:=K.out.cell 7 (.int .i64 c0.flags) rfl
 have g8:=K.out.cell 8 (sv c0.text) rfl
 have g9:=K.out.cell 9 (.bool c0.filter.on) rfl
 have g10:=K.out.cell 10 (.slice none 0 0) rfl
 have hres:=K.out.res
 obtain ⟨Z,hZ⟩: ∃ Z,Z=wf.setRow (b+1) #[sv c0.tag,.int .i64 c0.kind,sv x1,sv x2,.bool c0.uid,.slice none 0 0,.int .i64 c0.op,.int .i64 c0.flags,sv c0.text,.bool c0.filter.on,.slice none 0 0]:=⟨_,rfl⟩
 have hzr:Z.heap[b+1]? =some (.cells #[sv c0.tag,.int .i64 c0.kind,sv x1,sv x2,.bool c0.uid,.slice none 0 0,.int .i64 c0.op,.int .i64 c0.flags,sv c0.text,.bool c0.filter.on,.slice none 0 0] 29 (0,0)):=by rw [hZ];exact setRow_heap _ _ _ _ _ _ hres
 have hgz:ac wf Z [b+1]:=by rw [hZ];exact ⟨rfl,rfl,rfl,by simp [World.setRow],fun k _ hk=>setRow_other _ _ _ _ (by simpa using hk)⟩
 have HIZ:=aa9 (show In6 Z g p l cap a2 b2 from K.out.in6.keep (fun k hk=>by rw [hZ];exact setRow_other _ _ _ _ (by have:=K.out.gb;omega)))
 have HT5:=aa9 (show cx Z W0.heap.size _ _ _ from (K.out.t5.apart hgz (fun k hk=>by have:=K.out.t5.low k hk;simp;omega)) |> fun t=>⟨t.is,t.nodup,fun k hk=>by have:=t.low k hk;have:=K.out.base;omega⟩)
 have HT10:=aa9 (show cx Z W0.heap.size _ _ _ from (K.out.t10.apart hgz (fun k hk=>by have:=K.out.t10.low k hk;simp;omega)) |> fun t=>⟨t.is,t.nodup,fun k hk=>by have:=t.low k hk;have:=K.out.base;omega⟩)
 have HGZ:=aa9 (show ac W0 Z [g] from ⟨hgz.os.trans K.out.grow.os,hgz.tape.trans K.out.grow.tape,hgz.output.trans K.out.grow.output,Nat.le_trans K.out.grow.size hgz.size,fun k hk hn=>(hgz.block k (Nat.lt_of_lt_of_le hk K.out.grow.size) (by have:=K.out.base;simp;omega)).trans (K.out.grow.block k hk hn)⟩)
 have HND:=aa9 K.out.nd
 have HSS:=aa9 (SS.out.of_eq (fun r=>cN c0 r))
 obtain ⟨qq0,qq1,qq2,qq3,qq4,qq5,qq6,qq7,qq8,qq9,qq10⟩:=cC11 hzr
 clear hgz hzr K SS
 go_wp2_with (refine ak rfl _ _ _ rfl (b+1) #[sv c0.tag,.int .i64 c0.kind,sv x1,sv x2,.bool c0.uid,.slice none 0 0,.int .i64 c0.op,.int .i64 c0.flags,sv c0.text,.bool c0.filter.on,.slice none 0 0] (by rfl) (by rfl) _ _ hres (by kernel_rfl) rfl (by simp [Value.oneCell',sv]) ?_)
 rw [←hZ]
 refine bodyPost_ret (v:= .agg #[sv c0.tag,.int .i64 c0.kind,sv x1,sv x2,.bool c0.uid,.slice none 0 0,.int .i64 c0.op,.int .i64 c0.flags,sv c0.text,.bool c0.filter.on,.slice none 0 0]) (by simp [results,Tryz.results62,go_sem,qq0,qq1,qq2,qq3,qq4,qq5,qq6,qq7,qq8,qq9,qq10]) rfl ?_
 exact ⟨{ c0 with box:=x1,dst:=x2 },_,_,_,_,a2,b2,rfl,HIZ.out,HGZ.out,HSS.out,HT5.out,HT10.out,HND.out⟩
set_option maxRecDepth 20000 in
theorem aaq (c0:ap) (W0:World) (g cap at_:Nat) (p:Option Addr) (l:List Tok) (h:In6 W0 g p l cap at_ false) (hcap:l.length≤cap) (hl:l.length≤1048576) (hx: ∀ t∈l,t.text.length≤1048576) (ha:at_≤l.length) (hs:c0.sset=[]) (hf:c0.filter.scopes=[]) (hk:c0.kind=11):
 Calls Tryz.prog 62 #[.pointer (some ⟨g,0,none⟩),bQ c0 (.slice none 0 0) (.slice none 0 0)] W0 (dY c0 W0 g cap at_ p l):=by
 have _h0:=And.intro hcap hl
 clear _h0
 have hse:ay c0.kind=false:=by rw [hk];decide
 have hbo:ar c0.kind=true:=by rw [hk];decide
 have t8:(c0.kind==8)=false:=cFalse (by omega)
 have t14:(c0.kind==14)=false:=cFalse (by omega)
 have t11:(c0.kind==11)=true:=cTrue (by omega)
 have t6:(c0.kind==6)=false:=cFalse (by omega)
 have n8: ¬c0.kind=8:=beq_eq_false_iff_ne.1 t8
 have n14: ¬c0.kind=14:=beq_eq_false_iff_ne.1 t14
 have n11:c0.kind=11:=hk
 have n6: ¬c0.kind=6:=beq_eq_false_iff_ne.1 t6
 have nf:c0.kind=8∨c0.kind=11:=by first | exact .inl n8 | exact .inr n11
 have NN:=aa9 (And.intro hse (And.intro hbo (And.intro n8 (And.intro n14 (And.intro n11 (And.intro n6 nf))))))
 have HX:=aa9 hx
 have hg:=h.lt
 have HI:=aa9 h
 have HS:=aa9 hs
 have HF:=aa9 hf
 have cs:=fun W=>bu c0.kind W
 have cb:=fun W=>ba c0.kind W
 rw [hse] at cs
 rw [hbo] at cb
 have CS:=aa9 cs
 have CB:=aa9 cb
 clear hx h hs hf cs cb hse hbo n8 n14 n11 n6 nf hk
 go_enter Tryz.func62,Tryz.ntmps62
 go_wp2_with fail
 refine (CS.out _).mono ?_
 rintro e w1 ⟨rfl,rfl⟩
 clear CS
 go_upto_if 13 with fail
 refine aw ?_
 intro X hX
 have K0:=aa9 (show SpC W0 X g W0.heap.size p l cap at_ false c0 (.slice none 0 0) (.slice none 0 0) [] [] from by
  rw [hX]
  have hb:Below W0.heap.size W0 ((W0.alloc (.cells (ki c0 (.slice none 0 0) (.slice none 0 0)) 29)).alloc (.cells bj 29)):=((Below.refl _ _).alloc (Nat.le_refl _) _).alloc (by simp) _
  refine ⟨HI.out.below hb,(Below.heap_alloc _ _ _ (by simp)).trans (heap_alloc_new W0 _),?_,rfl,hg,ac.of_below hb,by rw [HS.out];exact bA _ _,by rw [HF.out];exact aC _ _,List.nodup_nil⟩
  have h1:=heap_alloc_new (W0.alloc (.cells (ki c0 (.slice none 0 0) (.slice none 0 0)) 29)) (.cells bj 29)
  rw [World.size_alloc] at h1
  exact h1)
 clear hX HI HS HF
 generalize hb0:W0.heap.size=b at *
 have SS:=aa9 (ga (q:=c0) (b:=false) NN.out.1 ha)
 have c1:=K0.out.cell 1 (.int .i64 c0.kind) rfl
 have SB:=aa9 (show aK (fun r=>nR c0 r) l at_ false _ _ _ from aK.bind (P:=fun r=>dU (c0,r)) (Q:=fun c r=>opP (c,r)) SS.out (fu (q:=c0) NN.out.2.2.1 ha))
 clear SS
 have SS:=SB
 clear SB
 go_wp2_with fail
 refine (CB.out _).mono ?_
 rintro e wz ⟨rfl,rfl⟩
 clear CB
 go_wp2_with fail
 refine (bU g cap at_ p l false 1 _ K0.out.in6 (by omega) ha).mono ?_
 rintro e v1 ⟨x1,a1,b1,rfl,i1,g1,st1,hm1⟩
 have M1:=aa9 (K0.out.step i1 (ac.of_grown g1))
 have ha1:=st1.le
 clear c1
 have SB:=aa9 (show aK (fun r=>nS c0 r) l at_ false _ _ _ from aK.bind (P:=fun r=>nR c0 r) (Q:=fun c r=>eW (c,r)) SS.out (iU (q:=c0) NN.out.2.1 st1))
 clear SS
 have SS:=SB
 clear SB
 have hc21:=M1.out.cell 2 (sv c0.box) rfl
 have hz21:=M1.out.free 2
 have B1:=aa9 (M1.out.setF 2 (sv x1) (q':= { c0 with box:=x1 }) (a5':= .slice none 0 0) (a10':= .slice none 0 0) (f5':=[]) (f10':=[]) rfl M1.out.t5 M1.out.t10 M1.out.nd)
 clear i1 g1 st1 hm1 K0 M1
 go_upto_region 11 with fail
 refine aw ?_
 intro Y1 hY1
 have D1:=aa9 (hY1 ▸ B1.out)
 clear hY1 B1 hc21 hz21
 have c1:=D1.out.cell 1 (.int .i64 c0.kind) rfl
 have SB:=aa9 (show aK (fun r=>nT c0 r) l at_ false _ _ _ from aK.bind (P:=fun r=>nS c0 r) (Q:=fun c r=>toP (c,r)) SS.out (fw (q:= { c0 with box:=x1 }) NN.out.2.2.2.1 ha1))
 clear SS
 have SS:=SB
 clear SB
 go_wp2_with fail
 refine (lG g cap a1 p l b1 _ D1.out.in6 hl HX.out ha1).mono ?_
 rintro e v2 ⟨x2,a2,b2,rfl,i2,g2,st2⟩
 have M2:=aa9 (D1.out.step i2 g2)
 have ha2:=st2.le
 clear c1
 have SB:=aa9 (show aK (fun r=>mB c0 r) l at_ false _ _ _ from aK.bind (P:=fun r=>nT c0 r) (Q:=fun c r=>bG (c,r)) SS.out (ly (q:= { c0 with box:=x1 }) NN.out.2.2.2.2.2.2 st2))
 clear SS
 have SS:=SB
 clear SB
 have hc22:=M2.out.cell 7 (.int .i64 c0.flags) rfl
 have hz22:=M2.out.free 7
 have B2:=aa9 (M2.out.setF 7 (.int .i64 x2) (q':= { c0 with box:=x1,flags:=x2 }) (a5':= .slice none 0 0) (a10':= .slice none 0 0) (f5':=[]) (f10':=[]) rfl M2.out.t5 M2.out.t10 M2.out.nd)
 clear i2 g2 st2 D1 M2
 go_upto_region 15 with fail
 refine aw ?_
 intro Y2 hY2
 have D2:=aa9 (hY2 ▸ B2.out)
 clear hY2 B2 hc22 hz22
 have c1:=D2.out.cell 1 (.int .i64 c0.kind) rfl
 have KD:=aa9 (D2.out.call (Below.refl _ _).drew)
 have d0:=KD.out.r0
 have d1:=KD.out.r1
 have c1d:=KD.out.cell 1 (.int .i64 c0.kind) rfl
 have hwr:IntKind.i64.wrap ((a2:Int)+1)=(a2:Int)+1:=IntWalk.i64_in _ (by omega)
 by_cases hlt:a2 < l.length
 · obtain ⟨bb,off,rfl,hbb,hcell⟩:=D2.out.in6.rd.resolve_left (by intro h;subst h;simp at hlt)
   obtain ⟨t,ht⟩: ∃ t,l[a2]? =some t:=⟨_,List.getElem?_eq_getElem hlt⟩
   have f0:Y2.drew.cell? ⟨bb,off+a2 * 2,none⟩=some (.int .i64 t.kind):=(hcell a2 t ht).1
   have f1:Y2.drew.cell? ⟨bb,off+a2 * 2+1,none⟩=some (sv t.text):=(hcell a2 t ht).2
   have hlt2:(a2:Int) < (l.length:Int):=by omega
   cases h2:(t.kind==2) with
   | false=>
     have SB:=aa9 (show aK (fun r=>lO c0 r) l at_ false _ _ _ from aK.bind (P:=fun r=>mB c0 r) (Q:=fun c r=>cJ (c,r)) SS.out (jK (q:= { c0 with box:=x1,flags:=x2 }) NN.out.2.2.2.2.1 (iW (fun u hu=>by rw [ht] at hu;injection hu with hu;rw [←hu];exact beq_eq_false_iff_ne.1 h2) ha2)))
     clear SS
     have SS:=SB
     clear SB
     have K2:=aa9 (KD.out.setBad true)
     have r2:=KD.out.r2
     have z2:=KD.out.rf 2
     have c2d:=K2.out.cell 1 (.int .i64 c0.kind) rfl
     clear hcell ht
     go_wp2
     refine ah oL17 (fun W=>W.cell? ⟨g,0,none⟩=some (.slice (some ⟨bb,off,none⟩) l.length cap)∧W.cell? ⟨g,1,none⟩=some (.int .i64 a2)∧W.cell? ⟨bb,off+a2 * 2,none⟩=some (.int .i64 t.kind)) (by kernel_rfl) (by kernel_rfl) rfl (by kernel_rfl) ?_
     intro ops' hops
     simp only [oL17,List.map_cons,List.map_nil,ae,ag]
     iterate 11 (refine aa ?_ (fun _ _ _ h=>h) rfl ?_ ⟨d0,d1,f0⟩ ?_;rotate_left;focus (intro W hS;obtain ⟨s0,s1,s2⟩:=hS;go_simp;rfl))
     iterate 12 (refine aa ?_ (fun _ _ _ h=>h) (by rw [hops.out];kernel_rfl) ?_ ⟨d0,d1,f0⟩ ?_;rotate_left;focus (intro W hS;obtain ⟨s0,s1,s2⟩:=hS;go_simp;rfl))
     iterate 1 (refine aa ?_ (fun _ _ _ h=>h) rfl ?_ ⟨d0,d1,f0⟩ ?_;rotate_left;focus (intro W hS;obtain ⟨s0,s1,s2⟩:=hS;go_simp;rfl))
     refine ai ?_
     go_simp
     have SB:=aa9 (SS.out.other ({ c0 with box:=x1,flags:=x2 } :ap))
     clear SS
     have SS:=SB
     clear SB
     have SB:=aa9 (show aK (fun r=>sI c0 r) l at_ false _ _ _ from aK.bind (P:=fun r=>lO c0 r) (Q:=fun c r=>bf (c,r)) SS.out (ca (q:= { c0 with box:=x1,flags:=x2 }) NN.out.2.2.2.2.2.1 ha2))
     clear SS
     have SS:=SB
     clear SB
     go_upto_region 25 with fail
     refine aw ?_
     intro wf hwf
     have K:=aa9 (show SpC W0 wf g b (some ⟨bb,off,none⟩) l cap a2 true { c0 with box:=x1,flags:=x2 } (.slice none 0 0) (.slice none 0 0) ([]) [] from by rw [hwf];exact K2.out)
     clear hwf K2 KD D2
     have g0:=K.out.cell 0 (sv c0.tag) rfl
     have g1:=K.out.cell 1 (.int .i64 c0.kind) rfl
     have g2:=K.out.cell 2 (sv x1) rfl
     have g3:=K.out.cell 3 (sv c0.dst) rfl
     have g4:=K.out.cell 4 (.bool c0.uid) rfl
     have g5:=K.out.cell 5 (.slice none 0 0) rfl
     have g6:=K.out.cell 6 (.int .i64 c0.op) rfl
     have g7:=K.out.cell 7 (.int .i64 x2) rfl
     have g8:=K.out.cell 8 (sv c0.text) rfl
     have g9:=K.out.cell 9 (.bool c0.filter.on) rfl
     have g10:=K.out.cell 10 (.slice none 0 0) rfl
     have hres:=K.out.res
     obtain ⟨Z,hZ⟩: ∃ Z,Z=wf.setRow (b+1) #[sv c0.tag,.int .i64 c0.kind,sv x1,sv c0.dst,.bool c0.uid,.slice none 0 0,.int .i64 c0.op,.int .i64 x2,sv c0.text,.bool c0.filter.on,.slice none 0 0]:=⟨_,rfl⟩
     have hzr:Z.heap[b+1]? =some (.cells #[sv c0.tag,.int .i64 c0.kind,sv x1,sv c0.dst,.bool c0.uid,.slice none 0 0,.int .i64 c0.op,.int .i64 x2,sv c0.text,.bool c0.filter.on,.slice none 0 0] 29 (0,0)):=by rw [hZ];exact setRow_heap _ _ _ _ _ _ hres
     have hgz:ac wf Z [b+1]:=by rw [hZ];exact ⟨rfl,rfl,rfl,by simp [World.setRow],fun k _ hk=>setRow_other _ _ _ _ (by simpa using hk)⟩
     have HIZ:=aa9 (show In6 Z g (some ⟨bb,off,none⟩) l cap a2 true from K.out.in6.keep (fun k hk=>by rw [hZ];exact setRow_other _ _ _ _ (by have:=K.out.gb;omega)))
     have HT5:=aa9 (show cx Z W0.heap.size _ _ _ from (K.out.t5.apart hgz (fun k hk=>by have:=K.out.t5.low k hk;simp;omega)) |> fun t=>⟨t.is,t.nodup,fun k hk=>by have:=t.low k hk;have:=K.out.base;omega⟩)
     have HT10:=aa9 (show cx Z W0.heap.size _ _ _ from (K.out.t10.apart hgz (fun k hk=>by have:=K.out.t10.low k hk;simp;omega)) |> fun t=>⟨t.is,t.nodup,fun k hk=>by have:=t.low k hk;have:=K.out.base;omega⟩)
     have HGZ:=aa9 (show ac W0 Z [g] from ⟨hgz.os.trans K.out.grow.os,hgz.tape.trans K.out.grow.tape,hgz.output.trans K.out.grow.output,Nat.le_trans K.out.grow.size hgz.size,fun k hk hn=>(hgz.block k (Nat.lt_of_lt_of_le hk K.out.grow.size) (by have:=K.out.base;simp;omega)).trans (K.out.grow.block k hk hn)⟩)
     have HND:=aa9 K.out.nd
     have HSS:=aa9 (SS.out.of_eq (fun r=>cN c0 r))
     obtain ⟨qq0,qq1,qq2,qq3,qq4,qq5,qq6,qq7,qq8,qq9,qq10⟩:=cC11 hzr
     clear hgz hzr K SS
     go_wp2_with (refine ak rfl _ _ _ rfl (b+1) #[sv c0.tag,.int .i64 c0.kind,sv x1,sv c0.dst,.bool c0.uid,.slice none 0 0,.int .i64 c0.op,.int .i64 x2,sv c0.text,.bool c0.filter.on,.slice none 0 0] (by rfl) (by rfl) _ _ hres (by kernel_rfl) rfl (by simp [Value.oneCell',sv]) ?_)
     rw [←hZ]
     refine bodyPost_ret (v:= .agg #[sv c0.tag,.int .i64 c0.kind,sv x1,sv c0.dst,.bool c0.uid,.slice none 0 0,.int .i64 c0.op,.int .i64 x2,sv c0.text,.bool c0.filter.on,.slice none 0 0]) (by simp [results,Tryz.results62,go_sem,qq0,qq1,qq2,qq3,qq4,qq5,qq6,qq7,qq8,qq9,qq10]) rfl ?_
     exact ⟨{ c0 with box:=x1,flags:=x2 },_,_,_,_,a2,true,rfl,HIZ.out,HGZ.out,HSS.out,HT5.out,HT10.out,HND.out⟩
   | true=>
     have SB:=aa9 (show aK (fun r=>lO c0 r) l at_ false _ _ _ from aK.bind (P:=fun r=>mB c0 r) (Q:=fun c r=>cJ (c,r)) SS.out (jK (q:= { c0 with box:=x1,flags:=x2 }) NN.out.2.2.2.2.1 (pj ht (beq_iff_eq.1 h2))))
     clear SS
     have SS:=SB
     clear SB
     have KD2:=aa9 (KD.out.call (Below.refl _ _).drew)
     have K2:=aa9 (KD2.out.setF 8 (sv t.text) (q':= { c0 with box:=x1,flags:=x2,text:=t.text }) (a5':= .slice none 0 0) (a10':= .slice none 0 0) rfl KD2.out.t5 KD2.out.t10 KD2.out.nd)
     have K3:=aa9 (K2.out.setAt (a2+1))
     have hc8:=KD2.out.cell 8 (sv c0.text) rfl
     have hz8:=KD2.out.free 8
     have y0:=KD2.out.r0
     have y1:=KD2.out.r1
     have xx1:=K2.out.r1
     have xx2:=K2.out.rf 1
     have xx3:=D2.out.r1
     have xx4:=D2.out.rf 1
     have c3d:=K3.out.cell 1 (.int .i64 c0.kind) rfl
     have hat1:a2+1≤l.length:=hlt
     clear ht hcell
     go_wp2
     refine ah oL17 (fun W=>W.cell? ⟨g,0,none⟩=some (.slice (some ⟨bb,off,none⟩) l.length cap)∧W.cell? ⟨g,1,none⟩=some (.int .i64 a2)∧W.cell? ⟨bb,off+a2 * 2,none⟩=some (.int .i64 t.kind)) (by kernel_rfl) (by kernel_rfl) rfl (by kernel_rfl) ?_
     intro ops' hops
     simp only [oL17,List.map_cons,List.map_nil,ae,ag]
     iterate 11 (refine aa ?_ (fun _ _ _ h=>h) rfl ?_ ⟨d0,d1,f0⟩ ?_;rotate_left;focus (intro W hS;obtain ⟨s0,s1,s2⟩:=hS;go_simp;rfl))
     iterate 12 (refine aa ?_ (fun _ _ _ h=>h) (by rw [hops.out];kernel_rfl) ?_ ⟨d0,d1,f0⟩ ?_;rotate_left;focus (intro W hS;obtain ⟨s0,s1,s2⟩:=hS;go_simp;rfl))
     iterate 1 (refine aa ?_ (fun _ _ _ h=>h) rfl ?_ ⟨d0,d1,f0⟩ ?_;rotate_left;focus (intro W hS;obtain ⟨s0,s1,s2⟩:=hS;go_simp;rfl))
     refine ai ?_
     go_simp
     go_wp2
     refine ah oL23 (fun W=>W.cell? ⟨g,0,none⟩=some (.slice (some ⟨bb,off,none⟩) l.length cap)∧W.cell? ⟨g,1,none⟩=some (.int .i64 a2)∧W.cell? ⟨bb,off+a2 * 2+1,none⟩=some (sv t.text)) (by kernel_rfl) (by kernel_rfl) rfl (by kernel_rfl) ?_
     intro ops' hops
     clear hops
     simp only [oL23,List.map_cons,List.map_nil,ae,ag]
     iterate 12 (refine aa ?_ (fun _ _ _ h=>h) rfl ?_ ⟨y0,y1,f1⟩ ?_;rotate_left;focus (intro W hS;obtain ⟨s0,s1,s2⟩:=hS;go_simp;rfl))
     try go_frame
     refine al rfl ?_
     go_simp
     refine ⟨by first | exact ⟨D2.out.r0,D2.out.r1,f1⟩ | exact ⟨D2.out.r0,f1⟩ | (refine ⟨?_,?_,?_⟩ <;> first | exact D2.out.r0 | exact D2.out.r1 | exact f1) | (simp [xx3,d0,d1,f1]) | exact f1 | rfl,?_⟩
     refine ai ?_
     go_simp
     have SB:=aa9 (show aK (fun r=>sI c0 r) l at_ false _ _ _ from aK.bind (P:=fun r=>lO c0 r) (Q:=fun c r=>bf (c,r)) SS.out (ca (q:= { c0 with box:=x1,flags:=x2,text:=t.text }) NN.out.2.2.2.2.2.1 hat1))
     clear SS
     have SS:=SB
     clear SB
     go_upto_region 25 with fail
     refine aw ?_
     intro wf hwf
     have K:=aa9 (show SpC W0 wf g b (some ⟨bb,off,none⟩) l cap (a2+1) b2 { c0 with box:=x1,flags:=x2,text:=t.text } (.slice none 0 0) (.slice none 0 0) ([]) [] from by rw [hwf];exact K3.out)
     clear hwf K3 K2 KD KD2 D2
     have g0:=K.out.cell 0 (sv c0.tag) rfl
     have g1:=K.out.cell 1 (.int .i64 c0.kind) rfl
     have g2:=K.out.cell 2 (sv x1) rfl
     have g3:=K.out.cell 3 (sv c0.dst) rfl
     have g4:=K.out.cell 4 (.bool c0.uid) rfl
     have g5:=K.out.cell 5 (.slice none 0 0) rfl
     have g6:=K.out.cell 6 (.int .i64 c0.op) rfl
     have g7:=K.out.cell 7 (.int .i64 x2) rfl
     have g8:=K.out.cell 8 (sv t.text) rfl
     have g9:=K.out.cell 9 (.bool c0.filter.on) rfl
     have g10:=K.out.cell 10 (.slice none 0 0) rfl
     have hres:=K.out.res
     obtain ⟨Z,hZ⟩: ∃ Z,Z=wf.setRow (b+1) #[sv c0.tag,.int .i64 c0.kind,sv x1,sv c0.dst,.bool c0.uid,.slice none 0 0,.int .i64 c0.op,.int .i64 x2,sv t.text,.bool c0.filter.on,.slice none 0 0]:=⟨_,rfl⟩
     have hzr:Z.heap[b+1]? =some (.cells #[sv c0.tag,.int .i64 c0.kind,sv x1,sv c0.dst,.bool c0.uid,.slice none 0 0,.int .i64 c0.op,.int .i64 x2,sv t.text,.bool c0.filter.on,.slice none 0 0] 29 (0,0)):=by rw [hZ];exact setRow_heap _ _ _ _ _ _ hres
     have hgz:ac wf Z [b+1]:=by rw [hZ];exact ⟨rfl,rfl,rfl,by simp [World.setRow],fun k _ hk=>setRow_other _ _ _ _ (by simpa using hk)⟩
     have HIZ:=aa9 (show In6 Z g (some ⟨bb,off,none⟩) l cap (a2+1) b2 from K.out.in6.keep (fun k hk=>by rw [hZ];exact setRow_other _ _ _ _ (by have:=K.out.gb;omega)))
     have HT5:=aa9 (show cx Z W0.heap.size _ _ _ from (K.out.t5.apart hgz (fun k hk=>by have:=K.out.t5.low k hk;simp;omega)) |> fun t=>⟨t.is,t.nodup,fun k hk=>by have:=t.low k hk;have:=K.out.base;omega⟩)
     have HT10:=aa9 (show cx Z W0.heap.size _ _ _ from (K.out.t10.apart hgz (fun k hk=>by have:=K.out.t10.low k hk;simp;omega)) |> fun t=>⟨t.is,t.nodup,fun k hk=>by have:=t.low k hk;have:=K.out.base;omega⟩)
     have HGZ:=aa9 (show ac W0 Z [g] from ⟨hgz.os.trans K.out.grow.os,hgz.tape.trans K.out.grow.tape,hgz.output.trans K.out.grow.output,Nat.le_trans K.out.grow.size hgz.size,fun k hk hn=>(hgz.block k (Nat.lt_of_lt_of_le hk K.out.grow.size) (by have:=K.out.base;simp;omega)).trans (K.out.grow.block k hk hn)⟩)
     have HND:=aa9 K.out.nd
     have HSS:=aa9 (SS.out.of_eq (fun r=>cN c0 r))
     obtain ⟨qq0,qq1,qq2,qq3,qq4,qq5,qq6,qq7,qq8,qq9,qq10⟩:=cC11 hzr
     clear hgz hzr K SS
     go_wp2_with (refine ak rfl _ _ _ rfl (b+1) #[sv c0.tag,.int .i64 c0.kind,sv x1,sv c0.dst,.bool c0.uid,.slice none 0 0,.int .i64 c0.op,.int .i64 x2,sv t.text,.bool c0.filter.on,.slice none 0 0] (by rfl) (by rfl) _ _ hres (by kernel_rfl) rfl (by simp [Value.oneCell',sv]) ?_)
     rw [←hZ]
     refine bodyPost_ret (v:= .agg #[sv c0.tag,.int .i64 c0.kind,sv x1,sv c0.dst,.bool c0.uid,.slice none 0 0,.int .i64 c0.op,.int .i64 x2,sv t.text,.bool c0.filter.on,.slice none 0 0]) (by simp [results,Tryz.results62,go_sem,qq0,qq1,qq2,qq3,qq4,qq5,qq6,qq7,qq8,qq9,qq10]) rfl ?_
     exact ⟨{ c0 with box:=x1,flags:=x2,text:=t.text },_,_,_,_,(a2+1),b2,rfl,HIZ.out,HGZ.out,HSS.out,HT5.out,HT10.out,HND.out⟩
 · obtain hate:a2=l.length:=by omega
   have SB:=aa9 (show aK (fun r=>lO c0 r) l at_ false _ _ _ from aK.bind (P:=fun r=>mB c0 r) (Q:=fun c r=>cJ (c,r)) SS.out (jK (q:= { c0 with box:=x1,flags:=x2 }) NN.out.2.2.2.2.1 (iW (fun u hu=>by rw [hate,List.getElem?_eq_none (Nat.le_refl _)] at hu;cases hu) ha2)))
   clear SS
   have SS:=SB
   clear SB
   have K2:=aa9 (KD.out.setBad true)
   have r2:=KD.out.r2
   have z2:=KD.out.rf 2
   have hge: ¬(a2:Int) < (l.length:Int):=by omega
   go_wp2
   refine ah oL17 (fun W=>W.cell? ⟨g,0,none⟩=some (.slice p l.length cap)∧W.cell? ⟨g,1,none⟩=some (.int .i64 a2)) (by kernel_rfl) (by kernel_rfl) rfl (by kernel_rfl) ?_
   intro ops' hops
   simp only [oL17,List.map_cons,List.map_nil,ae,ag]
   iterate 11 (refine aa ?_ (fun _ _ _ h=>h) rfl ?_ ⟨d0,d1⟩ ?_;rotate_left;focus (intro W hS;obtain ⟨s0,s1⟩:=hS;go_simp;rfl))
   iterate 12 (refine aJ (fun _ _ _ h=>h) (by rw [hops.out];kernel_rfl) ⟨d0,d1⟩ ?_)
   iterate 1 (refine aa ?_ (fun _ _ _ h=>h) rfl ?_ ⟨d0,d1⟩ ?_;rotate_left;focus (intro W hS;obtain ⟨s0,s1⟩:=hS;go_simp;rfl))
   refine ai ?_
   go_simp
   have SB:=aa9 (SS.out.other ({ c0 with box:=x1,flags:=x2 } :ap))
   clear SS
   have SS:=SB
   clear SB
   have SB:=aa9 (show aK (fun r=>sI c0 r) l at_ false _ _ _ from aK.bind (P:=fun r=>lO c0 r) (Q:=fun c r=>bf (c,r)) SS.out (ca (q:= { c0 with box:=x1,flags:=x2 }) NN.out.2.2.2.2.2.1 ha2))
   clear SS
   have SS:=SB
   clear SB
   go_upto_region 25 with fail
   refine aw ?_
   intro wf hwf
   have K:=aa9 (show SpC W0 wf g b p l cap a2 true { c0 with box:=x1,flags:=x2 } (.slice none 0 0) (.slice none 0 0) ([]) [] from by rw [hwf];exact K2.out)
   clear hwf K2 KD D2
   have g0:=K.out.cell 0 (sv c0.tag) rfl
   have g1:=K.out.cell 1 (.int .i64 c0.kind) rfl
   have g2:=K.out.cell 2 (sv x1) rfl
   have g3:=K.out.cell 3 (sv c0.dst) rfl
   have g4:=K.out.cell 4 (.bool c0.uid) rfl
   have g5:=K.out.cell 5 (.slice none 0 0) rfl
   have g6:=K.out.cell 6 (.int .i64 c0.op) rfl
   have g7:=K.out.cell 7 (.int .i64 x2) rfl
   have g8:=K.out.cell 8 (sv c0.text) rfl
   have g9:=K.out.cell 9 (.bool c0.filter.on) rfl
   have g10:=K.out.cell 10 (.slice none 0 0) rfl
   have hres:=K.out.res
   obtain ⟨Z,hZ⟩: ∃ Z,Z=wf.setRow (b+1) #[sv c0.tag,.int .i64 c0.kind,sv x1,sv c0.dst,.bool c0.uid,.slice none 0 0,.int .i64 c0.op,.int .i64 x2,sv c0.text,.bool c0.filter.on,.slice none 0 0]:=⟨_,rfl⟩
   have hzr:Z.heap[b+1]? =some (.cells #[sv c0.tag,.int .i64 c0.kind,sv x1,sv c0.dst,.bool c0.uid,.slice none 0 0,.int .i64 c0.op,.int .i64 x2,sv c0.text,.bool c0.filter.on,.slice none 0 0] 29 (0,0)):=by rw [hZ];exact setRow_heap _ _ _ _ _ _ hres
   have hgz:ac wf Z [b+1]:=by rw [hZ];exact ⟨rfl,rfl,rfl,by simp [World.setRow],fun k _ hk=>setRow_other _ _ _ _ (by simpa using hk)⟩
   have HIZ:=aa9 (show In6 Z g p l cap a2 true from K.out.in6.keep (fun k hk=>by rw [hZ];exact setRow_other _ _ _ _ (by have:=K.out.gb;omega)))
   have HT5:=aa9 (show cx Z W0.heap.size _ _ _ from (K.out.t5.apart hgz (fun k hk=>by have:=K.out.t5.low k hk;simp;omega)) |> fun t=>⟨t.is,t.nodup,fun k hk=>by have:=t.low k hk;have:=K.out.base;omega⟩)
   have HT10:=aa9 (show cx Z W0.heap.size _ _ _ from (K.out.t10.apart hgz (fun k hk=>by have:=K.out.t10.low k hk;simp;omega)) |> fun t=>⟨t.is,t.nodup,fun k hk=>by have:=t.low k hk;have:=K.out.base;omega⟩)
   have HGZ:=aa9 (show ac W0 Z [g] from ⟨hgz.os.trans K.out.grow.os,hgz.tape.trans K.out.grow.tape,hgz.output.trans K.out.grow.output,Nat.le_trans K.out.grow.size hgz.size,fun k hk hn=>(hgz.block k (Nat.lt_of_lt_of_le hk K.out.grow.size) (by have:=K.out.base;simp;omega)).trans (K.out.grow.block k hk hn)⟩)
   have HND:=aa9 K.out.nd
   have HSS:=aa9 (SS.out.of_eq (fun r=>cN c0 r))
   obtain ⟨qq0,qq1,qq2,qq3,qq4,qq5,qq6,qq7,qq8,qq9,qq10⟩:=cC11 hzr
   clear hgz hzr K SS
   go_wp2_with (refine ak rfl _ _ _ rfl (b+1) #[sv c0.tag,.int .i64 c0.kind,sv x1,sv c0.dst,.bool c0.uid,.slice none 0 0,.int .i64 c0.op,.int .i64 x2,sv c0.text,.bool c0.filter.on,.slice none 0 0] (by rfl) (by rfl) _ _ hres (by kernel_rfl) rfl (by simp [Value.oneCell',sv]) ?_)
   rw [←hZ]
   refine bodyPost_ret (v:= .agg #[sv c0.tag,.int .i64 c0.kind,sv x1,sv c0.dst,.bool c0.uid,.slice none 0 0,.int .i64 c0.op,.int .i64 x2,sv c0.text,.bool c0.filter.on,.slice none 0 0]) (by simp [results,Tryz.results62,go_sem,qq0,qq1,qq2,qq3,qq4,qq5,qq6,qq7,qq8,qq9,qq10]) rfl ?_
   exact ⟨{ c0 with box:=x1,flags:=x2 },_,_,_,_,a2,true,rfl,HIZ.out,HGZ.out,HSS.out,HT5.out,HT10.out,HND.out⟩
set_option maxRecDepth 20000 in
theorem aar (c0:ap) (W0:World) (g cap at_:Nat) (p:Option Addr) (l:List Tok) (h:In6 W0 g p l cap at_ false) (hcap:l.length≤cap) (hl:l.length≤1048576) (hx: ∀ t∈l,t.text.length≤1048576) (ha:at_≤l.length) (hs:c0.sset=[]) (hf:c0.filter.scopes=[]) (hk:c0.kind=7):
 Calls Tryz.prog 62 #[.pointer (some ⟨g,0,none⟩),bQ c0 (.slice none 0 0) (.slice none 0 0)] W0 (dY c0 W0 g cap at_ p l):=by
 have _h0:=And.intro hcap hl
 clear _h0
 have hse:ay c0.kind=true:=by rw [hk];decide
 have hbo:ar c0.kind=false:=by rw [hk];decide
 have t8:(c0.kind==8)=false:=cFalse (by omega)
 have t14:(c0.kind==14)=false:=cFalse (by omega)
 have t11:(c0.kind==11)=false:=cFalse (by omega)
 have t6:(c0.kind==6)=false:=cFalse (by omega)
 have n8: ¬c0.kind=8:=beq_eq_false_iff_ne.1 t8
 have n14: ¬c0.kind=14:=beq_eq_false_iff_ne.1 t14
 have n11: ¬c0.kind=11:=beq_eq_false_iff_ne.1 t11
 have n6: ¬c0.kind=6:=beq_eq_false_iff_ne.1 t6
 have nf: ¬(c0.kind=8∨c0.kind=11):=by rintro (h | h);exact n8 h;exact n11 h
 have NN:=aa9 (And.intro hse (And.intro hbo (And.intro n8 (And.intro n14 (And.intro n11 (And.intro n6 nf))))))
 have HX:=aa9 hx
 have hg:=h.lt
 have HI:=aa9 h
 have HS:=aa9 hs
 have HF:=aa9 hf
 have cs:=fun W=>bu c0.kind W
 have cb:=fun W=>ba c0.kind W
 rw [hse] at cs
 rw [hbo] at cb
 have CS:=aa9 cs
 have CB:=aa9 cb
 clear hx h hs hf cs cb hse hbo n8 n14 n11 n6 nf hk
 go_enter Tryz.func62,Tryz.ntmps62
 go_wp2_with fail
 refine (CS.out _).mono ?_
 rintro e w1 ⟨rfl,rfl⟩
 clear CS
 go_upto_if 13 with fail
 refine aw ?_
 intro X hX
 have K0:=aa9 (show SpC W0 X g W0.heap.size p l cap at_ false c0 (.slice none 0 0) (.slice none 0 0) [] [] from by
  rw [hX]
  have hb:Below W0.heap.size W0 ((W0.alloc (.cells (ki c0 (.slice none 0 0) (.slice none 0 0)) 29)).alloc (.cells bj 29)):=((Below.refl _ _).alloc (Nat.le_refl _) _).alloc (by simp) _
  refine ⟨HI.out.below hb,(Below.heap_alloc _ _ _ (by simp)).trans (heap_alloc_new W0 _),?_,rfl,hg,ac.of_below hb,by rw [HS.out];exact bA _ _,by rw [HF.out];exact aC _ _,List.nodup_nil⟩
  have h1:=heap_alloc_new (W0.alloc (.cells (ki c0 (.slice none 0 0) (.slice none 0 0)) 29)) (.cells bj 29)
  rw [World.size_alloc] at h1
  exact h1)
 clear hX HI HS HF
 generalize hb0:W0.heap.size=b at *
 go_wp2_with fail
 refine (bU g cap at_ p l false 1 _ K0.out.in6 (by omega) ha).mono ?_
 rintro e v1 ⟨x1,a1,b1,rfl,i1,g1,st1,hm1⟩
 have M1:=aa9 (K0.out.step i1 (ac.of_grown g1))
 have ha1:=st1.le
 have hxl:x1.length≤1048576:=by
  rcases hm1 with rfl | ⟨t,ht,rfl⟩
  · exact Nat.zero_le _
  · exact HX.out t ht
 have C:=aa9 (eh ⟨x1.toArray⟩ v1 (by simpa [ByteArray.size] using hxl))
 have st:=lx (q:=c0) NN.out.1 st1
 clear i1 g1 st1 hm1 hxl K0
 go_wp2_with fail
 refine C.out.mono ?_
 rintro e w2 ⟨v2,rfl,o2,b2⟩
 have K2:=aa9 (M1.out.call b2)
 have hlow:b+2≤v1.heap.size:=by have:=(Array.getElem?_eq_some_iff.1 M1.out.res).1;omega
 have o3:w2.ownsRow (b+2) 62 2 v2 ((bq x1).getD []).length (((bq x1).getD []).flatMap je):=eV o2 hlow
 have hio:(bq x1).isNone= !(bq x1).isSome:=by cases bq x1 <;> rfl
 rw [hio] at st
 have hrs:(bq (⟨x1.toArray⟩:ByteArray).data.toList).isSome=(bq x1).isSome:=rfl
 generalize hok:(bq x1).isSome=ok at *
 generalize (bq x1).getD []=s5 at *
 rw [hrs]
 have T2:=aa9 (show cx w2 (b+2) (am s5) v2 v2.ownBlock.toList from eX o3)
 obtain ⟨p5,c5,rfl⟩:=au.slice T2.out.is
 clear o2 o3 b2 C M1 hlow hio hrs hok
 have hc5:=K2.out.cell 5 (.slice none 0 0) rfl
 have hz5:=K2.out.free 5
 have K3:=aa9 (K2.out.setF 5 (.slice p5 s5.length c5) (q':= { c0 with sset:=s5 }) (a5':= .slice p5 s5.length c5) (a10':= .slice none 0 0) (f5':=(Value.slice p5 s5.length c5).ownBlock.toList) (f10':=[]) rfl T2.out K2.out.t10 (by simpa using T2.out.nodup))
 have r2:=K3.out.r2
 have z2:=K3.out.rf 2
 have SS:=aa9 st
 clear st
 have K4:=aa9 (K3.out.setBad (b1 || !ok))
 have k1:=K4.out.cell 1 (.int .i64 c0.kind) rfl
 go_upto_region 4 with fail
 go_cut [] (fun wx=>SpC W0 wx g b p l cap a1 (b1 || !ok) { c0 with sset:=s5 } (.slice p5 s5.length c5) (.slice none 0 0) ((Value.slice p5 s5.length c5).ownBlock.toList) [])
 case first=>
  cases b1 <;> cases ok
  all_goals
   go_wp2_with fail
   go_meet
   exact K3.out.setBad _
 case rest=>
 have K5:=aa9 hcut
 clear hcut K4 K3 K2 r2 z2 k1 hc5 hz5
 generalize hbad5:(b1 || !ok)=bad5 at *
 clear hbad5
 have c1:=K5.out.cell 1 (.int .i64 c0.kind) rfl
 have SB:=aa9 (show aK (fun r=>nR c0 r) l at_ false _ _ _ from aK.bind (P:=fun r=>dU (c0,r)) (Q:=fun c r=>opP (c,r)) SS.out (fu (q:= { c0 with sset:=s5 }) NN.out.2.2.1 ha1))
 clear SS
 have SS:=SB
 clear SB
 go_wp2_with fail
 refine (CB.out _).mono ?_
 rintro e wz ⟨rfl,rfl⟩
 clear CB
 have SB:=aa9 (show aK (fun r=>nS c0 r) l at_ false _ _ _ from aK.bind (P:=fun r=>nR c0 r) (Q:=fun c r=>eW (c,r)) SS.out (iV (q:= { c0 with sset:=s5 }) NN.out.2.1 ha1))
 clear SS
 have SS:=SB
 clear SB
 have SB:=aa9 (show aK (fun r=>nT c0 r) l at_ false _ _ _ from aK.bind (P:=fun r=>nS c0 r) (Q:=fun c r=>toP (c,r)) SS.out (fw (q:= { c0 with sset:=s5 }) NN.out.2.2.2.1 ha1))
 clear SS
 have SS:=SB
 clear SB
 have SB:=aa9 (show aK (fun r=>mB c0 r) l at_ false _ _ _ from aK.bind (P:=fun r=>nT c0 r) (Q:=fun c r=>bG (c,r)) SS.out (dt (q:= { c0 with sset:=s5 }) NN.out.2.2.2.2.2.2 ha1))
 clear SS
 have SS:=SB
 clear SB
 have SB:=aa9 (show aK (fun r=>lO c0 r) l at_ false _ _ _ from aK.bind (P:=fun r=>mB c0 r) (Q:=fun c r=>cJ (c,r)) SS.out (du (q:= { c0 with sset:=s5 }) NN.out.2.2.2.2.1 ha1))
 clear SS
 have SS:=SB
 clear SB
 have SB:=aa9 (show aK (fun r=>sI c0 r) l at_ false _ _ _ from aK.bind (P:=fun r=>lO c0 r) (Q:=fun c r=>bf (c,r)) SS.out (ca (q:= { c0 with sset:=s5 }) NN.out.2.2.2.2.2.1 ha1))
 clear SS
 have SS:=SB
 clear SB
 go_upto_region 25 with fail
 refine aw ?_
 intro wf hwf
 have K:=aa9 (hwf ▸ K5.out)
 clear hwf K5
 have g0:=K.out.cell 0 (sv c0.tag) rfl
 have g1:=K.out.cell 1 (.int .i64 c0.kind) rfl
 have g2:=K.out.cell 2 (sv c0.box) rfl
 have g3:=K.out.cell 3 (sv c0.dst) rfl
 have g4:=K.out.cell 4 (.bool c0.uid) rfl
 have g5:=K.out.cell 5 (.slice p5 s5.length c5) rfl
 have g6:=K.out.cell 6 (.int .i64 c0.op) rfl
 have g7:=K.out.cell 7 (.int .i64 c0.flags) rfl
 have g8:=K.out.cell 8 (sv c0.text) rfl
 have g9:=K.out.cell 9 (.bool c0.filter.on) rfl
 have g10:=K.out.cell 10 (.slice none 0 0) rfl
 have hres:=K.out.res
 obtain ⟨Z,hZ⟩: ∃ Z,Z=wf.setRow (b+1) #[sv c0.tag,.int .i64 c0.kind,sv c0.box,sv c0.dst,.bool c0.uid,.slice p5 s5.length c5,.int .i64 c0.op,.int .i64 c0.flags,sv c0.text,.bool c0.filter.on,.slice none 0 0]:=⟨_,rfl⟩
 have hzr:Z.heap[b+1]? =some (.cells #[sv c0.tag,.int .i64 c0.kind,sv c0.box,sv c0.dst,.bool c0.uid,.slice p5 s5.length c5,.int .i64 c0.op,.int .i64 c0.flags,sv c0.text,.bool c0.filter.on,.slice none 0 0] 29 (0,0)):=by rw [hZ];exact setRow_heap _ _ _ _ _ _ hres
 have hgz:ac wf Z [b+1]:=by rw [hZ];exact ⟨rfl,rfl,rfl,by simp [World.setRow],fun k _ hk=>setRow_other _ _ _ _ (by simpa using hk)⟩
 have HIZ:=aa9 (show In6 Z g p l cap a1 bad5 from K.out.in6.keep (fun k hk=>by rw [hZ];exact setRow_other _ _ _ _ (by have:=K.out.gb;omega)))
 have HT5:=aa9 (show cx Z W0.heap.size _ _ _ from (K.out.t5.apart hgz (fun k hk=>by have:=K.out.t5.low k hk;simp;omega)) |> fun t=>⟨t.is,t.nodup,fun k hk=>by have:=t.low k hk;have:=K.out.base;omega⟩)
 have HT10:=aa9 (show cx Z W0.heap.size _ _ _ from (K.out.t10.apart hgz (fun k hk=>by have:=K.out.t10.low k hk;simp;omega)) |> fun t=>⟨t.is,t.nodup,fun k hk=>by have:=t.low k hk;have:=K.out.base;omega⟩)
 have HGZ:=aa9 (show ac W0 Z [g] from ⟨hgz.os.trans K.out.grow.os,hgz.tape.trans K.out.grow.tape,hgz.output.trans K.out.grow.output,Nat.le_trans K.out.grow.size hgz.size,fun k hk hn=>(hgz.block k (Nat.lt_of_lt_of_le hk K.out.grow.size) (by have:=K.out.base;simp;omega)).trans (K.out.grow.block k hk hn)⟩)
 have HND:=aa9 K.out.nd
 have HSS:=aa9 (SS.out.of_eq (fun r=>cN c0 r))
 obtain ⟨qq0,qq1,qq2,qq3,qq4,qq5,qq6,qq7,qq8,qq9,qq10⟩:=cC11 hzr
 clear hgz hzr K SS
 go_wp2_with (refine ak rfl _ _ _ rfl (b+1) #[sv c0.tag,.int .i64 c0.kind,sv c0.box,sv c0.dst,.bool c0.uid,.slice p5 s5.length c5,.int .i64 c0.op,.int .i64 c0.flags,sv c0.text,.bool c0.filter.on,.slice none 0 0] (by rfl) (by rfl) _ _ hres (by kernel_rfl) rfl (by simp [Value.oneCell',sv]) ?_)
 rw [←hZ]
 refine bodyPost_ret (v:= .agg #[sv c0.tag,.int .i64 c0.kind,sv c0.box,sv c0.dst,.bool c0.uid,.slice p5 s5.length c5,.int .i64 c0.op,.int .i64 c0.flags,sv c0.text,.bool c0.filter.on,.slice none 0 0]) (by simp [results,Tryz.results62,go_sem,qq0,qq1,qq2,qq3,qq4,qq5,qq6,qq7,qq8,qq9,qq10]) rfl ?_
 exact ⟨{ c0 with sset:=s5 },_,_,_,_,a1,bad5,rfl,HIZ.out,HGZ.out,HSS.out,HT5.out,HT10.out,HND.out⟩
set_option maxRecDepth 20000 in
theorem aas (c0:ap) (W0:World) (g cap at_:Nat) (p:Option Addr) (l:List Tok) (h:In6 W0 g p l cap at_ false) (hcap:l.length≤cap) (hl:l.length≤1048576) (hx: ∀ t∈l,t.text.length≤1048576) (ha:at_≤l.length) (hs:c0.sset=[]) (hf:c0.filter.scopes=[]) (hk:c0.kind=10):
 Calls Tryz.prog 62 #[.pointer (some ⟨g,0,none⟩),bQ c0 (.slice none 0 0) (.slice none 0 0)] W0 (dY c0 W0 g cap at_ p l):=by
 have _h0:=And.intro hcap hl
 clear _h0
 have hse:ay c0.kind=true:=by rw [hk];decide
 have hbo:ar c0.kind=true:=by rw [hk];decide
 have t8:(c0.kind==8)=false:=cFalse (by omega)
 have t14:(c0.kind==14)=false:=cFalse (by omega)
 have t11:(c0.kind==11)=false:=cFalse (by omega)
 have t6:(c0.kind==6)=false:=cFalse (by omega)
 have n8: ¬c0.kind=8:=beq_eq_false_iff_ne.1 t8
 have n14: ¬c0.kind=14:=beq_eq_false_iff_ne.1 t14
 have n11: ¬c0.kind=11:=beq_eq_false_iff_ne.1 t11
 have n6: ¬c0.kind=6:=beq_eq_false_iff_ne.1 t6
 have nf: ¬(c0.kind=8∨c0.kind=11):=by rintro (h | h);exact n8 h;exact n11 h
 have NN:=aa9 (And.intro hse (And.intro hbo (And.intro n8 (And.intro n14 (And.intro n11 (And.intro n6 nf))))))
 have HX:=aa9 hx
 have hg:=h.lt
 have HI:=aa9 h
 have HS:=aa9 hs
 have HF:=aa9 hf
 have cs:=fun W=>bu c0.kind W
 have cb:=fun W=>ba c0.kind W
 rw [hse] at cs
 rw [hbo] at cb
 have CS:=aa9 cs
 have CB:=aa9 cb
 clear hx h hs hf cs cb hse hbo n8 n14 n11 n6 nf hk
 go_enter Tryz.func62,Tryz.ntmps62
 go_wp2_with fail
 refine (CS.out _).mono ?_
 rintro e w1 ⟨rfl,rfl⟩
 clear CS
 go_upto_if 13 with fail
 refine aw ?_
 intro X hX
 have K0:=aa9 (show SpC W0 X g W0.heap.size p l cap at_ false c0 (.slice none 0 0) (.slice none 0 0) [] [] from by
  rw [hX]
  have hb:Below W0.heap.size W0 ((W0.alloc (.cells (ki c0 (.slice none 0 0) (.slice none 0 0)) 29)).alloc (.cells bj 29)):=((Below.refl _ _).alloc (Nat.le_refl _) _).alloc (by simp) _
  refine ⟨HI.out.below hb,(Below.heap_alloc _ _ _ (by simp)).trans (heap_alloc_new W0 _),?_,rfl,hg,ac.of_below hb,by rw [HS.out];exact bA _ _,by rw [HF.out];exact aC _ _,List.nodup_nil⟩
  have h1:=heap_alloc_new (W0.alloc (.cells (ki c0 (.slice none 0 0) (.slice none 0 0)) 29)) (.cells bj 29)
  rw [World.size_alloc] at h1
  exact h1)
 clear hX HI HS HF
 generalize hb0:W0.heap.size=b at *
 go_wp2_with fail
 refine (bU g cap at_ p l false 1 _ K0.out.in6 (by omega) ha).mono ?_
 rintro e v1 ⟨x1,a1,b1,rfl,i1,g1,st1,hm1⟩
 have M1:=aa9 (K0.out.step i1 (ac.of_grown g1))
 have ha1:=st1.le
 have hxl:x1.length≤1048576:=by
  rcases hm1 with rfl | ⟨t,ht,rfl⟩
  · exact Nat.zero_le _
  · exact HX.out t ht
 have C:=aa9 (eh ⟨x1.toArray⟩ v1 (by simpa [ByteArray.size] using hxl))
 have st:=lx (q:=c0) NN.out.1 st1
 clear i1 g1 st1 hm1 hxl K0
 go_wp2_with fail
 refine C.out.mono ?_
 rintro e w2 ⟨v2,rfl,o2,b2⟩
 have K2:=aa9 (M1.out.call b2)
 have hlow:b+2≤v1.heap.size:=by have:=(Array.getElem?_eq_some_iff.1 M1.out.res).1;omega
 have o3:w2.ownsRow (b+2) 62 2 v2 ((bq x1).getD []).length (((bq x1).getD []).flatMap je):=eV o2 hlow
 have hio:(bq x1).isNone= !(bq x1).isSome:=by cases bq x1 <;> rfl
 rw [hio] at st
 have hrs:(bq (⟨x1.toArray⟩:ByteArray).data.toList).isSome=(bq x1).isSome:=rfl
 generalize hok:(bq x1).isSome=ok at *
 generalize (bq x1).getD []=s5 at *
 rw [hrs]
 have T2:=aa9 (show cx w2 (b+2) (am s5) v2 v2.ownBlock.toList from eX o3)
 obtain ⟨p5,c5,rfl⟩:=au.slice T2.out.is
 clear o2 o3 b2 C M1 hlow hio hrs hok
 have hc5:=K2.out.cell 5 (.slice none 0 0) rfl
 have hz5:=K2.out.free 5
 have K3:=aa9 (K2.out.setF 5 (.slice p5 s5.length c5) (q':= { c0 with sset:=s5 }) (a5':= .slice p5 s5.length c5) (a10':= .slice none 0 0) (f5':=(Value.slice p5 s5.length c5).ownBlock.toList) (f10':=[]) rfl T2.out K2.out.t10 (by simpa using T2.out.nodup))
 have r2:=K3.out.r2
 have z2:=K3.out.rf 2
 have SS:=aa9 st
 clear st
 have K4:=aa9 (K3.out.setBad (b1 || !ok))
 have k1:=K4.out.cell 1 (.int .i64 c0.kind) rfl
 go_upto_region 4 with fail
 go_cut [] (fun wx=>SpC W0 wx g b p l cap a1 (b1 || !ok) { c0 with sset:=s5 } (.slice p5 s5.length c5) (.slice none 0 0) ((Value.slice p5 s5.length c5).ownBlock.toList) [])
 case first=>
  cases b1 <;> cases ok
  all_goals
   go_wp2_with fail
   go_meet
   exact K3.out.setBad _
 case rest=>
 have K5:=aa9 hcut
 clear hcut K4 K3 K2 r2 z2 k1 hc5 hz5
 generalize hbad5:(b1 || !ok)=bad5 at *
 clear hbad5
 have c1:=K5.out.cell 1 (.int .i64 c0.kind) rfl
 have SB:=aa9 (show aK (fun r=>nR c0 r) l at_ false _ _ _ from aK.bind (P:=fun r=>dU (c0,r)) (Q:=fun c r=>opP (c,r)) SS.out (fu (q:= { c0 with sset:=s5 }) NN.out.2.2.1 ha1))
 clear SS
 have SS:=SB
 clear SB
 go_wp2_with fail
 refine (CB.out _).mono ?_
 rintro e wz ⟨rfl,rfl⟩
 clear CB
 go_wp2_with fail
 refine (bU g cap a1 p l bad5 1 _ K5.out.in6 (by omega) ha1).mono ?_
 rintro e v2 ⟨x2,a2,b2,rfl,i2,g2,st2,hm2⟩
 have M2:=aa9 (K5.out.step i2 (ac.of_grown g2))
 have ha2:=st2.le
 clear c1
 have SB:=aa9 (show aK (fun r=>nS c0 r) l at_ false _ _ _ from aK.bind (P:=fun r=>nR c0 r) (Q:=fun c r=>eW (c,r)) SS.out (iU (q:= { c0 with sset:=s5 }) NN.out.2.1 st2))
 clear SS
 have SS:=SB
 clear SB
 have hc22:=M2.out.cell 2 (sv c0.box) rfl
 have hz22:=M2.out.free 2
 have B2:=aa9 (M2.out.setF 2 (sv x2) (q':= { c0 with sset:=s5,box:=x2 }) (a5':= .slice p5 s5.length c5) (a10':= .slice none 0 0) (f5':=(Value.slice p5 s5.length c5).ownBlock.toList) (f10':=[]) rfl M2.out.t5 M2.out.t10 M2.out.nd)
 clear i2 g2 st2 hm2 K5 M2
 go_upto_region 11 with fail
 refine aw ?_
 intro Y2 hY2
 have D2:=aa9 (hY2 ▸ B2.out)
 clear hY2 B2 hc22 hz22
 have c1:=D2.out.cell 1 (.int .i64 c0.kind) rfl
 have SB:=aa9 (show aK (fun r=>nT c0 r) l at_ false _ _ _ from aK.bind (P:=fun r=>nS c0 r) (Q:=fun c r=>toP (c,r)) SS.out (fw (q:= { c0 with sset:=s5,box:=x2 }) NN.out.2.2.2.1 ha2))
 clear SS
 have SS:=SB
 clear SB
 have SB:=aa9 (show aK (fun r=>mB c0 r) l at_ false _ _ _ from aK.bind (P:=fun r=>nT c0 r) (Q:=fun c r=>bG (c,r)) SS.out (dt (q:= { c0 with sset:=s5,box:=x2 }) NN.out.2.2.2.2.2.2 ha2))
 clear SS
 have SS:=SB
 clear SB
 have SB:=aa9 (show aK (fun r=>lO c0 r) l at_ false _ _ _ from aK.bind (P:=fun r=>mB c0 r) (Q:=fun c r=>cJ (c,r)) SS.out (du (q:= { c0 with sset:=s5,box:=x2 }) NN.out.2.2.2.2.1 ha2))
 clear SS
 have SS:=SB
 clear SB
 have SB:=aa9 (show aK (fun r=>sI c0 r) l at_ false _ _ _ from aK.bind (P:=fun r=>lO c0 r) (Q:=fun c r=>bf (c,r)) SS.out (ca (q:= { c0 with sset:=s5,box:=x2 }) NN.out.2.2.2.2.2.1 ha2))
 clear SS
 have SS:=SB
 clear SB
 go_upto_region 25 with fail
 refine aw ?_
 intro wf hwf
 have K:=aa9 (hwf ▸ D2.out)
 clear hwf D2
 have g0:=K.out.cell 0 (sv c0.tag) rfl
 have g1:=K.out.cell 1 (.int .i64 c0.kind) rfl
 have g2:=K.out.cell 2 (sv x2) rfl
 have g3:=K.out.cell 3 (sv c0.dst) rfl
 have g4:=K.out.cell 4 (.bool c0.uid) rfl
 have g5:=K.out.cell 5 (.slice p5 s5.length c5) rfl
 have g6:=K.out.cell 6 (.int .i64 c0.op) rfl
 have g7:=K.out.cell 7 (.int .i64 c0.flags) rfl
 have g8:=K.out.cell 8 (sv c0.text) rfl
 have g9:=K.out.cell 9 (.bool c0.filter.on) rfl
 have g10:=K.out.cell 10 (.slice none 0 0) rfl
 have hres:=K.out.res
 obtain ⟨Z,hZ⟩: ∃ Z,Z=wf.setRow (b+1) #[sv c0.tag,.int .i64 c0.kind,sv x2,sv c0.dst,.bool c0.uid,.slice p5 s5.length c5,.int .i64 c0.op,.int .i64 c0.flags,sv c0.text,.bool c0.filter.on,.slice none 0 0]:=⟨_,rfl⟩
 have hzr:Z.heap[b+1]? =some (.cells #[sv c0.tag,.int .i64 c0.kind,sv x2,sv c0.dst,.bool c0.uid,.slice p5 s5.length c5,.int .i64 c0.op,.int .i64 c0.flags,sv c0.text,.bool c0.filter.on,.slice none 0 0] 29 (0,0)):=by rw [hZ];exact setRow_heap _ _ _ _ _ _ hres
 have hgz:ac wf Z [b+1]:=by rw [hZ];exact ⟨rfl,rfl,rfl,by simp [World.setRow],fun k _ hk=>setRow_other _ _ _ _ (by simpa using hk)⟩
 have HIZ:=aa9 (show In6 Z g p l cap a2 b2 from K.out.in6.keep (fun k hk=>by rw [hZ];exact setRow_other _ _ _ _ (by have:=K.out.gb;omega)))
 have HT5:=aa9 (show cx Z W0.heap.size _ _ _ from (K.out.t5.apart hgz (fun k hk=>by have:=K.out.t5.low k hk;simp;omega)) |> fun t=>⟨t.is,t.nodup,fun k hk=>by have:=t.low k hk;have:=K.out.base;omega⟩)
 have HT10:=aa9 (show cx Z W0.heap.size _ _ _ from (K.out.t10.apart hgz (fun k hk=>by have:=K.out.t10.low k hk;simp;omega)) |> fun t=>⟨t.is,t.nodup,fun k hk=>by have:=t.low k hk;have:=K.out.base;omega⟩)
 have HGZ:=aa9 (show ac W0 Z [g] from ⟨hgz.os.trans K.out.grow.os,hgz.tape.trans K.out.grow.tape,hgz.output.trans K.out.grow.output,Nat.le_trans K.out.grow.size hgz.size,fun k hk hn=>(hgz.block k (Nat.lt_of_lt_of_le hk K.out.grow.size) (by have:=K.out.base;simp;omega)).trans (K.out.grow.block k hk hn)⟩)
 have HND:=aa9 K.out.nd
 have HSS:=aa9 (SS.out.of_eq (fun r=>cN c0 r))
 obtain ⟨qq0,qq1,qq2,qq3,qq4,qq5,qq6,qq7,qq8,qq9,qq10⟩:=cC11 hzr
 clear hgz hzr K SS
 go_wp2_with (refine ak rfl _ _ _ rfl (b+1) #[sv c0.tag,.int .i64 c0.kind,sv x2,sv c0.dst,.bool c0.uid,.slice p5 s5.length c5,.int .i64 c0.op,.int .i64 c0.flags,sv c0.text,.bool c0.filter.on,.slice none 0 0] (by rfl) (by rfl) _ _ hres (by kernel_rfl) rfl (by simp [Value.oneCell',sv]) ?_)
 rw [←hZ]
 refine bodyPost_ret (v:= .agg #[sv c0.tag,.int .i64 c0.kind,sv x2,sv c0.dst,.bool c0.uid,.slice p5 s5.length c5,.int .i64 c0.op,.int .i64 c0.flags,sv c0.text,.bool c0.filter.on,.slice none 0 0]) (by simp [results,Tryz.results62,go_sem,qq0,qq1,qq2,qq3,qq4,qq5,qq6,qq7,qq8,qq9,qq10]) rfl ?_
 exact ⟨{ c0 with sset:=s5,box:=x2 },_,_,_,_,a2,b2,rfl,HIZ.out,HGZ.out,HSS.out,HT5.out,HT10.out,HND.out⟩
set_option maxRecDepth 20000 in
theorem aat (c0:ap) (W0:World) (g cap at_:Nat) (p:Option Addr) (l:List Tok) (h:In6 W0 g p l cap at_ false) (hcap:l.length≤cap) (hl:l.length≤1048576) (hx: ∀ t∈l,t.text.length≤1048576) (ha:at_≤l.length) (hs:c0.sset=[]) (hf:c0.filter.scopes=[]) (hk:c0.kind=8):
 Calls Tryz.prog 62 #[.pointer (some ⟨g,0,none⟩),bQ c0 (.slice none 0 0) (.slice none 0 0)] W0 (dY c0 W0 g cap at_ p l):=by
 have _h0:=And.intro hcap hl
 clear _h0
 have hse:ay c0.kind=true:=by rw [hk];decide
 have hbo:ar c0.kind=false:=by rw [hk];decide
 have t8:(c0.kind==8)=true:=cTrue (by omega)
 have t14:(c0.kind==14)=false:=cFalse (by omega)
 have t11:(c0.kind==11)=false:=cFalse (by omega)
 have t6:(c0.kind==6)=false:=cFalse (by omega)
 have n8:c0.kind=8:=hk
 have n14: ¬c0.kind=14:=beq_eq_false_iff_ne.1 t14
 have n11: ¬c0.kind=11:=beq_eq_false_iff_ne.1 t11
 have n6: ¬c0.kind=6:=beq_eq_false_iff_ne.1 t6
 have nf:c0.kind=8∨c0.kind=11:=by first | exact .inl n8 | exact .inr n11
 have NN:=aa9 (And.intro hse (And.intro hbo (And.intro n8 (And.intro n14 (And.intro n11 (And.intro n6 nf))))))
 have HX:=aa9 hx
 have hg:=h.lt
 have HI:=aa9 h
 have HS:=aa9 hs
 have HF:=aa9 hf
 have cs:=fun W=>bu c0.kind W
 have cb:=fun W=>ba c0.kind W
 rw [hse] at cs
 rw [hbo] at cb
 have CS:=aa9 cs
 have CB:=aa9 cb
 clear hx h hs hf cs cb hse hbo n8 n14 n11 n6 nf hk
 go_enter Tryz.func62,Tryz.ntmps62
 go_wp2_with fail
 refine (CS.out _).mono ?_
 rintro e w1 ⟨rfl,rfl⟩
 clear CS
 go_upto_if 13 with fail
 refine aw ?_
 intro X hX
 have K0:=aa9 (show SpC W0 X g W0.heap.size p l cap at_ false c0 (.slice none 0 0) (.slice none 0 0) [] [] from by
  rw [hX]
  have hb:Below W0.heap.size W0 ((W0.alloc (.cells (ki c0 (.slice none 0 0) (.slice none 0 0)) 29)).alloc (.cells bj 29)):=((Below.refl _ _).alloc (Nat.le_refl _) _).alloc (by simp) _
  refine ⟨HI.out.below hb,(Below.heap_alloc _ _ _ (by simp)).trans (heap_alloc_new W0 _),?_,rfl,hg,ac.of_below hb,by rw [HS.out];exact bA _ _,by rw [HF.out];exact aC _ _,List.nodup_nil⟩
  have h1:=heap_alloc_new (W0.alloc (.cells (ki c0 (.slice none 0 0) (.slice none 0 0)) 29)) (.cells bj 29)
  rw [World.size_alloc] at h1
  exact h1)
 clear hX HI HS HF
 generalize hb0:W0.heap.size=b at *
 go_wp2_with fail
 refine (bU g cap at_ p l false 1 _ K0.out.in6 (by omega) ha).mono ?_
 rintro e v1 ⟨x1,a1,b1,rfl,i1,g1,st1,hm1⟩
 have M1:=aa9 (K0.out.step i1 (ac.of_grown g1))
 have ha1:=st1.le
 have hxl:x1.length≤1048576:=by
  rcases hm1 with rfl | ⟨t,ht,rfl⟩
  · exact Nat.zero_le _
  · exact HX.out t ht
 have C:=aa9 (eh ⟨x1.toArray⟩ v1 (by simpa [ByteArray.size] using hxl))
 have st:=lx (q:=c0) NN.out.1 st1
 clear i1 g1 st1 hm1 hxl K0
 go_wp2_with fail
 refine C.out.mono ?_
 rintro e w2 ⟨v2,rfl,o2,b2⟩
 have K2:=aa9 (M1.out.call b2)
 have hlow:b+2≤v1.heap.size:=by have:=(Array.getElem?_eq_some_iff.1 M1.out.res).1;omega
 have o3:w2.ownsRow (b+2) 62 2 v2 ((bq x1).getD []).length (((bq x1).getD []).flatMap je):=eV o2 hlow
 have hio:(bq x1).isNone= !(bq x1).isSome:=by cases bq x1 <;> rfl
 rw [hio] at st
 have hrs:(bq (⟨x1.toArray⟩:ByteArray).data.toList).isSome=(bq x1).isSome:=rfl
 generalize hok:(bq x1).isSome=ok at *
 generalize (bq x1).getD []=s5 at *
 rw [hrs]
 have T2:=aa9 (show cx w2 (b+2) (am s5) v2 v2.ownBlock.toList from eX o3)
 obtain ⟨p5,c5,rfl⟩:=au.slice T2.out.is
 clear o2 o3 b2 C M1 hlow hio hrs hok
 have hc5:=K2.out.cell 5 (.slice none 0 0) rfl
 have hz5:=K2.out.free 5
 have K3:=aa9 (K2.out.setF 5 (.slice p5 s5.length c5) (q':= { c0 with sset:=s5 }) (a5':= .slice p5 s5.length c5) (a10':= .slice none 0 0) (f5':=(Value.slice p5 s5.length c5).ownBlock.toList) (f10':=[]) rfl T2.out K2.out.t10 (by simpa using T2.out.nodup))
 have r2:=K3.out.r2
 have z2:=K3.out.rf 2
 have SS:=aa9 st
 clear st
 have K4:=aa9 (K3.out.setBad (b1 || !ok))
 have k1:=K4.out.cell 1 (.int .i64 c0.kind) rfl
 go_upto_region 4 with fail
 go_cut [] (fun wx=>SpC W0 wx g b p l cap a1 (b1 || !ok) { c0 with sset:=s5 } (.slice p5 s5.length c5) (.slice none 0 0) ((Value.slice p5 s5.length c5).ownBlock.toList) [])
 case first=>
  cases b1 <;> cases ok
  all_goals
   go_wp2_with fail
   go_meet
   exact K3.out.setBad _
 case rest=>
 have K5:=aa9 hcut
 clear hcut K4 K3 K2 r2 z2 k1 hc5 hz5
 generalize hbad5:(b1 || !ok)=bad5 at *
 clear hbad5
 have c1:=K5.out.cell 1 (.int .i64 c0.kind) rfl
 go_wp2_with fail
 refine (bU g cap a1 p l bad5 1 _ K5.out.in6 (by omega) ha1).mono ?_
 rintro e v2 ⟨x2,a2,b2,rfl,i2,g2,st2,hm2⟩
 have M2:=aa9 (K5.out.step i2 (ac.of_grown g2))
 have ha2:=st2.le
 have C:=aa9 (fun W=>l4 x2 W)
 clear c1 i2 g2 hm2
 have SB:=aa9 (show aK (fun r=>nR c0 r) l at_ false _ _ _ from aK.bind (P:=fun r=>dU (c0,r)) (Q:=fun c r=>opP (c,r)) SS.out (wu (q:= { c0 with sset:=s5 }) NN.out.2.2.1 st2))
 clear SS
 have SS:=SB
 clear SB
 clear st2 K5
 go_wp2_with fail
 refine (C.out _).mono ?_
 rintro e w6 ⟨rfl,b6⟩
 have K6:=aa9 (M2.out.call b6)
 clear b6 C M2
 have hop: ∃ (o:Int) (ok:Bool),opV (lN x2)= .tuple #[.int .i64 o,.bool ok]∧(lN x2).getD 0=o∧(lN x2).isNone= !ok:=by
  cases lN x2 with
  | none=>exact ⟨0,false,rfl,rfl,rfl⟩
  | some n=>exact ⟨n,true,rfl,rfl,rfl⟩
 obtain ⟨o6,ok6,ho1,ho2,ho3⟩:=hop
 rw [ho1]
 rw [ho2,ho3] at SS
 clear ho1 ho2 ho3
 have hc6:=K6.out.cell 6 (.int .i64 c0.op) rfl
 have hz6:=K6.out.free 6
 have K7:=aa9 (K6.out.setF 6 (.int .i64 o6) (q':= { c0 with sset:=s5,op:=o6 }) (a5':= .slice p5 s5.length c5) (a10':= .slice none 0 0) (f5':=(Value.slice p5 s5.length c5).ownBlock.toList) (f10':=[]) rfl K6.out.t5 K6.out.t10 K6.out.nd)
 have r2:=K7.out.r2
 have z2:=K7.out.rf 2
 go_upto_region 8 with fail
 go_cut [] (fun wx=>SpC W0 wx g b p l cap a2 (b2 || !ok6) { c0 with sset:=s5,op:=o6 } (.slice p5 s5.length c5) (.slice none 0 0) ((Value.slice p5 s5.length c5).ownBlock.toList) [])
 case first=>
  cases b2 <;> cases ok6
  all_goals
   go_wp2_with fail
   go_meet
   exact K7.out.setBad _
 case rest=>
 have K8:=aa9 hcut
 clear hcut K7 K6 r2 z2 hc6 hz6
 generalize hbad8:(b2 || !ok6)=bad8 at *
 clear hbad8
 have c1:=K8.out.cell 1 (.int .i64 c0.kind) rfl
 go_wp2_with fail
 refine (CB.out _).mono ?_
 rintro e wz ⟨rfl,rfl⟩
 clear CB
 have SB:=aa9 (show aK (fun r=>nS c0 r) l at_ false _ _ _ from aK.bind (P:=fun r=>nR c0 r) (Q:=fun c r=>eW (c,r)) SS.out (iV (q:= { c0 with sset:=s5,op:=o6 }) NN.out.2.1 ha2))
 clear SS
 have SS:=SB
 clear SB
 have SB:=aa9 (show aK (fun r=>nT c0 r) l at_ false _ _ _ from aK.bind (P:=fun r=>nS c0 r) (Q:=fun c r=>toP (c,r)) SS.out (fw (q:= { c0 with sset:=s5,op:=o6 }) NN.out.2.2.2.1 ha2))
 clear SS
 have SS:=SB
 clear SB
 go_wp2_with fail
 refine (lG g cap a2 p l bad8 _ K8.out.in6 hl HX.out ha2).mono ?_
 rintro e v3 ⟨x3,a3,b3,rfl,i3,g3,st3⟩
 have M3:=aa9 (K8.out.step i3 g3)
 have ha3:=st3.le
 clear c1
 have SB:=aa9 (show aK (fun r=>mB c0 r) l at_ false _ _ _ from aK.bind (P:=fun r=>nT c0 r) (Q:=fun c r=>bG (c,r)) SS.out (ly (q:= { c0 with sset:=s5,op:=o6 }) NN.out.2.2.2.2.2.2 st3))
 clear SS
 have SS:=SB
 clear SB
 have hc23:=M3.out.cell 7 (.int .i64 c0.flags) rfl
 have hz23:=M3.out.free 7
 have B3:=aa9 (M3.out.setF 7 (.int .i64 x3) (q':= { c0 with sset:=s5,op:=o6,flags:=x3 }) (a5':= .slice p5 s5.length c5) (a10':= .slice none 0 0) (f5':=(Value.slice p5 s5.length c5).ownBlock.toList) (f10':=[]) rfl M3.out.t5 M3.out.t10 M3.out.nd)
 clear i3 g3 st3 K8 M3
 go_upto_region 15 with fail
 refine aw ?_
 intro Y3 hY3
 have D3:=aa9 (hY3 ▸ B3.out)
 clear hY3 B3 hc23 hz23
 have c1:=D3.out.cell 1 (.int .i64 c0.kind) rfl
 have SB:=aa9 (show aK (fun r=>lO c0 r) l at_ false _ _ _ from aK.bind (P:=fun r=>mB c0 r) (Q:=fun c r=>cJ (c,r)) SS.out (du (q:= { c0 with sset:=s5,op:=o6,flags:=x3 }) NN.out.2.2.2.2.1 ha3))
 clear SS
 have SS:=SB
 clear SB
 have SB:=aa9 (show aK (fun r=>sI c0 r) l at_ false _ _ _ from aK.bind (P:=fun r=>lO c0 r) (Q:=fun c r=>bf (c,r)) SS.out (ca (q:= { c0 with sset:=s5,op:=o6,flags:=x3 }) NN.out.2.2.2.2.2.1 ha3))
 clear SS
 have SS:=SB
 clear SB
 go_upto_region 25 with fail
 refine aw ?_
 intro wf hwf
 have K:=aa9 (hwf ▸ D3.out)
 clear hwf D3
 have g0:=K.out.cell 0 (sv c0.tag) rfl
 have g1:=K.out.cell 1 (.int .i64 c0.kind) rfl
 have g2:=K.out.cell 2 (sv c0.box) rfl
 have g3:=K.out.cell 3 (sv c0.dst) rfl
 have g4:=K.out.cell 4 (.bool c0.uid) rfl
 have g5:=K.out.cell 5 (.slice p5 s5.length c5) rfl
 have g6:=K.out.cell 6 (.int .i64 o6) rfl
 have g7:=K.out.cell 7 (.int .i64 x3) rfl
 have g8:=K.out.cell 8 (sv c0.text) rfl
 have g9:=K.out.cell 9 (.bool c0.filter.on) rfl
 have g10:=K.out.cell 10 (.slice none 0 0) rfl
 have hres:=K.out.res
 obtain ⟨Z,hZ⟩: ∃ Z,Z=wf.setRow (b+1) #[sv c0.tag,.int .i64 c0.kind,sv c0.box,sv c0.dst,.bool c0.uid,.slice p5 s5.length c5,.int .i64 o6,.int .i64 x3,sv c0.text,.bool c0.filter.on,.slice none 0 0]:=⟨_,rfl⟩
 have hzr:Z.heap[b+1]? =some (.cells #[sv c0.tag,.int .i64 c0.kind,sv c0.box,sv c0.dst,.bool c0.uid,.slice p5 s5.length c5,.int .i64 o6,.int .i64 x3,sv c0.text,.bool c0.filter.on,.slice none 0 0] 29 (0,0)):=by rw [hZ];exact setRow_heap _ _ _ _ _ _ hres
 have hgz:ac wf Z [b+1]:=by rw [hZ];exact ⟨rfl,rfl,rfl,by simp [World.setRow],fun k _ hk=>setRow_other _ _ _ _ (by simpa using hk)⟩
 have HIZ:=aa9 (show In6 Z g p l cap a3 b3 from K.out.in6.keep (fun k hk=>by rw [hZ];exact setRow_other _ _ _ _ (by have:=K.out.gb;omega)))
 have HT5:=aa9 (show cx Z W0.heap.size _ _ _ from (K.out.t5.apart hgz (fun k hk=>by have:=K.out.t5.low k hk;simp;omega)) |> fun t=>⟨t.is,t.nodup,fun k hk=>by have:=t.low k hk;have:=K.out.base;omega⟩)
 have HT10:=aa9 (show cx Z W0.heap.size _ _ _ from (K.out.t10.apart hgz (fun k hk=>by have:=K.out.t10.low k hk;simp;omega)) |> fun t=>⟨t.is,t.nodup,fun k hk=>by have:=t.low k hk;have:=K.out.base;omega⟩)
 have HGZ:=aa9 (show ac W0 Z [g] from ⟨hgz.os.trans K.out.grow.os,hgz.tape.trans K.out.grow.tape,hgz.output.trans K.out.grow.output,Nat.le_trans K.out.grow.size hgz.size,fun k hk hn=>(hgz.block k (Nat.lt_of_lt_of_le hk K.out.grow.size) (by have:=K.out.base;simp;omega)).trans (K.out.grow.block k hk hn)⟩)
 have HND:=aa9 K.out.nd
 have HSS:=aa9 (SS.out.of_eq (fun r=>cN c0 r))
 obtain ⟨qq0,qq1,qq2,qq3,qq4,qq5,qq6,qq7,qq8,qq9,qq10⟩:=cC11 hzr
 clear hgz hzr K SS
 go_wp2_with (refine ak rfl _ _ _ rfl (b+1) #[sv c0.tag,.int .i64 c0.kind,sv c0.box,sv c0.dst,.bool c0.uid,.slice p5 s5.length c5,.int .i64 o6,.int .i64 x3,sv c0.text,.bool c0.filter.on,.slice none 0 0] (by rfl) (by rfl) _ _ hres (by kernel_rfl) rfl (by simp [Value.oneCell',sv]) ?_)
 rw [←hZ]
 refine bodyPost_ret (v:= .agg #[sv c0.tag,.int .i64 c0.kind,sv c0.box,sv c0.dst,.bool c0.uid,.slice p5 s5.length c5,.int .i64 o6,.int .i64 x3,sv c0.text,.bool c0.filter.on,.slice none 0 0]) (by simp [results,Tryz.results62,go_sem,qq0,qq1,qq2,qq3,qq4,qq5,qq6,qq7,qq8,qq9,qq10]) rfl ?_
 exact ⟨{ c0 with sset:=s5,op:=o6,flags:=x3 },_,_,_,_,a3,b3,rfl,HIZ.out,HGZ.out,HSS.out,HT5.out,HT10.out,HND.out⟩
set_option maxRecDepth 20000 in
theorem aau (c0:ap) (W0:World) (g cap at_:Nat) (p:Option Addr) (l:List Tok) (h:In6 W0 g p l cap at_ false) (hcap:l.length≤cap) (hl:l.length≤1048576) (hx: ∀ t∈l,t.text.length≤1048576) (ha:at_≤l.length) (hs:c0.sset=[]) (hf:c0.filter.scopes=[]) (hk:c0.kind=6):
 Calls Tryz.prog 62 #[.pointer (some ⟨g,0,none⟩),bQ c0 (.slice none 0 0) (.slice none 0 0)] W0 (dY c0 W0 g cap at_ p l):=by
 have _h0:=And.intro hcap hl
 clear _h0
 have hse:ay c0.kind=false:=by rw [hk];decide
 have hbo:ar c0.kind=false:=by rw [hk];decide
 have t8:(c0.kind==8)=false:=cFalse (by omega)
 have t14:(c0.kind==14)=false:=cFalse (by omega)
 have t11:(c0.kind==11)=false:=cFalse (by omega)
 have t6:(c0.kind==6)=true:=cTrue (by omega)
 have n8: ¬c0.kind=8:=beq_eq_false_iff_ne.1 t8
 have n14: ¬c0.kind=14:=beq_eq_false_iff_ne.1 t14
 have n11: ¬c0.kind=11:=beq_eq_false_iff_ne.1 t11
 have n6:c0.kind=6:=hk
 have nf: ¬(c0.kind=8∨c0.kind=11):=by rintro (h | h);exact n8 h;exact n11 h
 have NN:=aa9 (And.intro hse (And.intro hbo (And.intro n8 (And.intro n14 (And.intro n11 (And.intro n6 nf))))))
 have HX:=aa9 hx
 have hg:=h.lt
 have HI:=aa9 h
 have HS:=aa9 hs
 have HF:=aa9 hf
 have cs:=fun W=>bu c0.kind W
 have cb:=fun W=>ba c0.kind W
 rw [hse] at cs
 rw [hbo] at cb
 have CS:=aa9 cs
 have CB:=aa9 cb
 clear hx h hs hf cs cb hse hbo n8 n14 n11 n6 nf hk
 go_enter Tryz.func62,Tryz.ntmps62
 go_wp2_with fail
 refine (CS.out _).mono ?_
 rintro e w1 ⟨rfl,rfl⟩
 clear CS
 go_upto_if 13 with fail
 refine aw ?_
 intro X hX
 have K0:=aa9 (show SpC W0 X g W0.heap.size p l cap at_ false c0 (.slice none 0 0) (.slice none 0 0) [] [] from by
  rw [hX]
  have hb:Below W0.heap.size W0 ((W0.alloc (.cells (ki c0 (.slice none 0 0) (.slice none 0 0)) 29)).alloc (.cells bj 29)):=((Below.refl _ _).alloc (Nat.le_refl _) _).alloc (by simp) _
  refine ⟨HI.out.below hb,(Below.heap_alloc _ _ _ (by simp)).trans (heap_alloc_new W0 _),?_,rfl,hg,ac.of_below hb,by rw [HS.out];exact bA _ _,by rw [HF.out];exact aC _ _,List.nodup_nil⟩
  have h1:=heap_alloc_new (W0.alloc (.cells (ki c0 (.slice none 0 0) (.slice none 0 0)) 29)) (.cells bj 29)
  rw [World.size_alloc] at h1
  exact h1)
 clear hX HI HS HF
 generalize hb0:W0.heap.size=b at *
 have SS:=aa9 (ga (q:=c0) (b:=false) NN.out.1 ha)
 have c1:=K0.out.cell 1 (.int .i64 c0.kind) rfl
 have SB:=aa9 (show aK (fun r=>nR c0 r) l at_ false _ _ _ from aK.bind (P:=fun r=>dU (c0,r)) (Q:=fun c r=>opP (c,r)) SS.out (fu (q:=c0) NN.out.2.2.1 ha))
 clear SS
 have SS:=SB
 clear SB
 go_wp2_with fail
 refine (CB.out _).mono ?_
 rintro e wz ⟨rfl,rfl⟩
 clear CB
 have SB:=aa9 (show aK (fun r=>nS c0 r) l at_ false _ _ _ from aK.bind (P:=fun r=>nR c0 r) (Q:=fun c r=>eW (c,r)) SS.out (iV (q:=c0) NN.out.2.1 ha))
 clear SS
 have SS:=SB
 clear SB
 have SB:=aa9 (show aK (fun r=>nT c0 r) l at_ false _ _ _ from aK.bind (P:=fun r=>nS c0 r) (Q:=fun c r=>toP (c,r)) SS.out (fw (q:=c0) NN.out.2.2.2.1 ha))
 clear SS
 have SS:=SB
 clear SB
 have SB:=aa9 (show aK (fun r=>mB c0 r) l at_ false _ _ _ from aK.bind (P:=fun r=>nT c0 r) (Q:=fun c r=>bG (c,r)) SS.out (dt (q:=c0) NN.out.2.2.2.2.2.2 ha))
 clear SS
 have SS:=SB
 clear SB
 have SB:=aa9 (show aK (fun r=>lO c0 r) l at_ false _ _ _ from aK.bind (P:=fun r=>mB c0 r) (Q:=fun c r=>cJ (c,r)) SS.out (du (q:=c0) NN.out.2.2.2.2.1 ha))
 clear SS
 have SS:=SB
 clear SB
 have K:=K0
 have r2:=K.out.r2
 have ST:=aa9 (pk (q:=c0) NN.out.2.2.2.2.2.1 ha)
 have KD:=aa9 (K.out.call (Below.refl _ _).drew)
 have t0:=KD.out.r0
 have t1:=KD.out.r1
 go_upto_region 21 with fail
 refine aw ?_
 intro wc hwc
 have KC:=aa9 (hwc ▸ K.out)
 clear hwc K KD t0 t1 c1
 have K:=KC
 have KD:=aa9 (K.out.call (Below.refl _ _).drew)
 have t0:=KD.out.r0
 have t1:=KD.out.r1
 have hrd:Rd 2 dh wc (.slice p l.length cap) l:=⟨p,cap,rfl,K.out.in6.rd.imp id (fun ⟨b',o',h1,h2,h3⟩=>⟨b',o',h1,Nat.lt_trans h2 K.out.in6.lt,fun i x hi j u hu=>by
  obtain ⟨e0,e1⟩:=h3 i x hi
  match j,hu with
  | 0,hu=>cases hu;exact e0
  | 1,hu=>cases hu;exact e1⟩)⟩
 have HRD:=aa9 (show Rd 2 dh wc (.slice (if cap=at_ then p else Option.map (fun x=>x.add (at_ * 2)) p) (l.length - at_) (cap - at_)) (l.drop at_) from (hD (k:=at_) hrd hcap ha).1)
 have hio:(bL (l.drop at_)).isNone= !(bL (l.drop at_)).isSome:=by cases bL (l.drop at_) <;> rfl
 have C:=aa9 (fun (W:World) (h:Below wc.heap.size wc W)=>show Calls Tryz.prog 119 #[.slice (if cap=at_ then p else Option.map (fun x=>x.add (at_ * 2)) p) (l.length - at_) (cap - at_)] W (fun e w'=> ∃ v fp,e= .returned (.tuple #[.agg #[.bool ((bL (l.drop at_)).getD ⟨false,[]⟩).on,v],.bool (bL (l.drop at_)).isSome])∧cx w' W.heap.size (aj ((bL (l.drop at_)).getD ⟨false,[]⟩).scopes) v fp∧Below W.heap.size W w') from iQ _ (l.drop at_) W (HRD.out.below h) (by simp;omega) (fun t ht=>HX.out t (List.mem_of_mem_drop ht)))
 rw [hio] at ST
 generalize (bL (l.drop at_)).getD ⟨false,[]⟩=F at *
 generalize (bL (l.drop at_)).isSome=ok at *
 clear hio hrd
 have hne0:0≤(at_:Int):=by omega
 have hne1:(at_:Int).toNat=at_:=by omega
 have hcap2:at_≤cap:=by omega
 refine jf (fd.flo 0 (.flo 1 (.flo 2 (.flo 3 (.flo 4 (.flo 5 (.flo 6 (.flo 7 (.flo 8 (.fork 9 (.flo 10 (.flo 11 (.flo 12 (.ev 13 (.ev 14 (.flo 15 .nil)))))) 13 (.ev 9 (.flo 10 (.flo 11 (.flo 12 (.ev 14 (.flo 15 .nil)))))))))))))))) (fun W=>W.cell? ⟨g,0,none⟩=some (.slice p l.length cap)∧W.cell? ⟨g,1,none⟩=some (.int .i64 at_)) (by kernel_rfl) (by kernel_rfl) rfl (by kernel_rfl) ?_
 intro ops' hops
 have HBD:=aa9 (show Below wc.heap.size wc wc.drew from (Below.refl _ _).drew)
 have HSZ:=aa9 (show wc.heap.size=wc.drew.heap.size from rfl)
 generalize wc.drew=W1 at *
 have g0:=br hops 0
 have g1:=br hops 1
 have g2:=br hops 2
 have g3:=br hops 3
 have g4:=br hops 4
 have g5:=br hops 5
 have g6:=br hops 6
 have g7:=br hops 7
 have g8:=br hops 8
 have g9:=br hops 9
 have g10:=br hops 10
 have g11:=br hops 11
 have g12:=br hops 12
 have g13:=br hops 13
 have g14:=br hops 14
 have g15:=br hops 15
 clear hops
 refine aB _ g0 ?_ (fun _ _ _ h=>h) rfl ?_ ⟨t0,t1⟩ ?_;rotate_left;focus (intro W hS;obtain ⟨y0,y1⟩:=hS;go_simp;rfl)
 refine aB _ g1 ?_ (fun _ _ _ h=>h) rfl ?_ ⟨t0,t1⟩ ?_;rotate_left;focus (intro W hS;obtain ⟨y0,y1⟩:=hS;go_simp;rfl)
 refine aB _ g2 ?_ (fun _ _ _ h=>h) rfl ?_ ⟨t0,t1⟩ ?_;rotate_left;focus (intro W hS;obtain ⟨y0,y1⟩:=hS;go_simp;rfl)
 refine aB _ g3 ?_ (fun _ _ _ h=>h) rfl ?_ ⟨t0,t1⟩ ?_;rotate_left;focus (intro W hS;obtain ⟨y0,y1⟩:=hS;go_simp;rfl)
 refine aB _ g4 ?_ (fun _ _ _ h=>h) rfl ?_ ⟨t0,t1⟩ ?_;rotate_left;focus (intro W hS;obtain ⟨y0,y1⟩:=hS;go_simp;rfl)
 refine aB _ g5 ?_ (fun _ _ _ h=>h) rfl ?_ ⟨t0,t1⟩ ?_;rotate_left;focus (intro W hS;obtain ⟨y0,y1⟩:=hS;go_simp;rfl)
 refine aB _ g6 ?_ (fun _ _ _ h=>h) rfl ?_ ⟨t0,t1⟩ ?_;rotate_left;focus (intro W hS;obtain ⟨y0,y1⟩:=hS;go_simp;rfl)
 refine aB _ g7 ?_ (fun _ _ _ h=>h) rfl ?_ ⟨t0,t1⟩ ?_;rotate_left;focus (intro W hS;obtain ⟨y0,y1⟩:=hS;go_simp;rfl)
 refine aB _ g8 (.slice (if cap=at_ then p else Option.map (fun x=>x.add (at_ * 2)) p) (l.length - at_) (cap - at_)) (fun _ _ _ h=>h) rfl ?_ ⟨t0,t1⟩ ?_
 · intro W hS
   go_simp
   try (intro h;omega)
 generalize (Value.slice (if cap=at_ then p else Option.map (fun x=>x.add (at_ * 2)) p) (l.length - at_) (cap - at_))=vs at *
 clear t0 t1
 refine ia _ _ g9 g13 rfl rfl ?wa ?wb
 case' wa=>
  go_simp
  refine (C.out _ HBD.out).mono ?_
  rintro e w4 ⟨v2,fp,rfl,hT,b4⟩
  obtain ⟨q2,c2,rfl⟩:=au.slice hT.is
  have K4:=aa9 (KD.out.call b4)
  refine ⟨⟨K4.out.r0,K4.out.r1⟩,?_⟩
  refine aB _ g10 ?_ (fun _ _ _ h=>h) rfl ?_ ⟨K4.out.r0,K4.out.r1⟩ ?_;rotate_left;focus (intro W hS;obtain ⟨y0,y1⟩:=hS;go_simp;rfl)
  refine aB _ g11 ?_ (fun _ _ _ h=>h) rfl ?_ ⟨K4.out.r0,K4.out.r1⟩ ?_;rotate_left;focus (intro W hS;obtain ⟨y0,y1⟩:=hS;go_simp;rfl)
  refine aB _ g12 ?_ (fun _ _ _ h=>h) rfl ?_ ⟨K4.out.r0,K4.out.r1⟩ ?_;rotate_left;focus (intro W hS;obtain ⟨y0,y1⟩:=hS;go_simp;rfl)
  refine cP _ g13 rfl ?_
  go_simp
  have K5:=aa9 (K4.out.call ((Below.refl _ _).alloc (Nat.le_refl _) (.cells #[.bool false,.slice none 0 0] 27)))
  refine ⟨⟨K5.out.r0,K5.out.r1⟩,?_⟩
  refine cP _ g14 rfl ?_
  go_simp
  have hb6:Below w4.heap.size w4 (w4.alloc (.cells #[.bool F.on,.slice q2 F.scopes.length c2] 27)):=(Below.refl _ _).alloc (Nat.le_refl _) _
  have K6:=aa9 (K4.out.call hb6)
  refine ⟨⟨K6.out.r0,K6.out.r1⟩,?_⟩
  refine aB _ g15 ?_ (fun _ _ _ h=>h) rfl ?_ ⟨K6.out.r0,K6.out.r1⟩ ?_;rotate_left;focus (intro W hS;obtain ⟨y0,y1⟩:=hS;go_simp;rfl)
  refine d8 ?_
  have TF:=aa9 (show cx _ W1.heap.size _ _ _ from hT.below hb6)
  have e0:(w4.alloc (.cells #[.bool F.on,.slice q2 F.scopes.length c2] 27)).cell? ⟨w4.heap.size,0,none⟩=some (.bool F.on):=by simp
  have e1:(w4.alloc (.cells #[.bool F.on,.slice q2 F.scopes.length c2] 27)).cell? ⟨w4.heap.size,1,none⟩=some (.slice q2 F.scopes.length c2):=by simp
  have hfb:b < w4.heap.size:=(Array.getElem?_eq_some_iff.1 K4.out.blk).1
  clear K4 K5 hb6 b4 hT
  generalize (w4.alloc (.cells #[.bool F.on,.slice q2 F.scopes.length c2] 27))=X6 at *
  generalize w4.heap.size=fb at *
 case' wb=>
  go_simp
  have hb3:Below W1.heap.size W1 (W1.alloc (.cells #[.bool false,.slice none 0 0] 27)):=(Below.refl _ _).alloc (Nat.le_refl _) _
  have K3:=aa9 (KD.out.call hb3)
  refine ⟨⟨K3.out.r0,K3.out.r1⟩,?_⟩
  refine cP _ g9 rfl ?_
  go_simp
  refine (C.out _ (HBD.out.trans (hb3.mono (by rw [HSZ.out];exact Nat.le_refl _)))).mono ?_
  rintro e w4 ⟨v2,fp,rfl,hT,b4⟩
  obtain ⟨q2,c2,rfl⟩:=au.slice hT.is
  have K4:=aa9 (K3.out.call b4)
  have hs4:=(b4.block W1.heap.size (by simp)).trans (heap_alloc_new W1 (.cells #[.bool false,.slice none 0 0] 27))
  have hz4:W1.heap.size < w4.heap.size:=(Array.getElem?_eq_some_iff.1 hs4).1
  have hT2:cx w4 (W1.heap.size+1) (aj F.scopes) (.slice q2 F.scopes.length c2) fp:=by simpa using hT
  obtain ⟨m0,m1,n0,n1,_,_⟩:=cI hs4
  refine ⟨⟨K4.out.r0,K4.out.r1⟩,?_⟩
  refine aB _ g10 ?_ (fun _ _ _ h=>h) rfl ?_ ⟨K4.out.r0,K4.out.r1⟩ ?_;rotate_left;focus (intro W hS;obtain ⟨y0,y1⟩:=hS;go_simp;rfl)
  refine aB _ g11 ?_ (fun _ _ _ h=>h) rfl ?_ ⟨K4.out.r0,K4.out.r1⟩ ?_;rotate_left;focus (intro W hS;obtain ⟨y0,y1⟩:=hS;go_simp;rfl)
  refine aB _ g12 ?_ (fun _ _ _ h=>h) rfl ?_ ⟨K4.out.r0,K4.out.r1⟩ ?_;rotate_left;focus (intro W hS;obtain ⟨y0,y1⟩:=hS;go_simp;rfl)
  have hb6:Below W1.heap.size w4 ((w4.setCell ⟨W1.heap.size,0,none⟩ (.bool F.on)).setCell ⟨W1.heap.size,1,none⟩ (.slice q2 F.scopes.length c2)):=((Below.refl _ _).setCell (p:=⟨W1.heap.size,0,none⟩) (Nat.le_refl _) _).setCell (p:=⟨W1.heap.size,1,none⟩) (Nat.le_refl _) _
  have hfb:b < W1.heap.size:=(Array.getElem?_eq_some_iff.1 KD.out.blk).1
  have K6:=aa9 (KD.out.call ((hb3.trans (b4.mono (by simp))).trans hb6))
  refine cP _ g14 rfl ?_
  go_simp
  refine ⟨⟨by first | exact K4.out.r0 | exact K6.out.r0,by first | exact K4.out.r1 | exact K6.out.r1⟩,?_⟩
  refine aB _ g15 ?_ (fun _ _ _ h=>h) rfl ?_ ⟨by first | exact K4.out.r0 | exact K6.out.r0,by first | exact K4.out.r1 | exact K6.out.r1⟩ ?_;rotate_left;focus (intro W hS;obtain ⟨y0,y1⟩:=hS;go_simp;rfl)
  refine d8 ?_
  have TF:=aa9 (show cx _ W1.heap.size _ _ _ from ((((hT2.apart (ac.set (g:=W1.heap.size) (i:=0) (u:= .bool F.on) (List.mem_singleton.2 rfl)) (fun k hk=>by have:=hT2.low k hk;simp;omega)).apart (ac.set (g:=W1.heap.size) (i:=1) (u:= .slice q2 F.scopes.length c2) (List.mem_singleton.2 rfl)) (fun k hk=>by have:=hT2.low k hk;simp;omega))) |> fun t=>⟨t.is,t.nodup,fun k hk=>by have:=t.low k hk;omega⟩))
  have e0:((w4.setCell ⟨W1.heap.size,0,none⟩ (.bool F.on)).setCell ⟨W1.heap.size,1,none⟩ (.slice q2 F.scopes.length c2)).cell? ⟨W1.heap.size,0,none⟩=some (.bool F.on):=(World.cell?_setCell_other _ _ _ _ (by intro e;injection e with _ e;cases e)).trans (World.cell?_setCell_same _ _ _ m0)
  have e1:((w4.setCell ⟨W1.heap.size,0,none⟩ (.bool F.on)).setCell ⟨W1.heap.size,1,none⟩ (.slice q2 F.scopes.length c2)).cell? ⟨W1.heap.size,1,none⟩=some (.slice q2 F.scopes.length c2):=World.cell?_setCell_same _ _ _ (u:= .slice none 0 0) ((World.cell?_setCell_other _ _ _ _ (by intro e;injection e with _ e;cases e)).trans m1)
  clear K3 K4 hb3 hb6 b4 hT hT2 hs4 hz4 m0 m1 n0 n1
  generalize hX6:((w4.setCell ⟨W1.heap.size,0,none⟩ (.bool F.on)).setCell ⟨W1.heap.size,1,none⟩ (.slice q2 F.scopes.length c2))=X6 at *
  clear hX6
  have TF0:=TF.out
  clear TF
  have TF:=aa9 TF0
  clear TF0
  obtain ⟨fb,hfbe⟩: ∃ fb,fb=W1.heap.size:=⟨_,rfl⟩
  rw [←hfbe] at e0 e1 hfb
  rw [←hfbe]
  clear hfbe
 all_goals
  have hnd:(([]:List Nat)++fp).Nodup:=by
   rw [List.nodup_append]
   refine ⟨K6.out.t5.nodup,TF.out.nodup,fun x hx y hy e=> ?_⟩
   subst e
   have h1:=KD.out.t5.lt x hx
   have h2:=TF.out.low x hy
   omega
  have K7:=aa9 (K6.out.setF 9 (.bool F.on) (q':= { c0 with filter:=⟨F.on,c0.filter.scopes⟩ }) (a5':= .slice none 0 0) (a10':= .slice none 0 0) rfl K6.out.t5 K6.out.t10 K6.out.nd)
  have hg6:ac X6 (X6.setCell ⟨b,9,none⟩ (.bool F.on)) [b]:=ac.set (List.mem_singleton.2 rfl)
  have hW1b:b+2≤W1.heap.size:=by have:=(Array.getElem?_eq_some_iff.1 KD.out.res).1;omega
  have TF7:=aa9 (show cx (X6.setCell ⟨b,9,none⟩ (.bool F.on)) (b+2) (aj F.scopes) (.slice q2 F.scopes.length c2) fp from (TF.out.apart hg6 (fun k hk=>by have:=TF.out.low k hk;simp;omega)) |> fun t=>⟨t.is,t.nodup,fun k hk=>by have:=t.low k hk;omega⟩)
  have K8:=aa9 (K7.out.setF 10 (.slice q2 F.scopes.length c2) (q':= { c0 with filter:=F }) (a5':= .slice none 0 0) (a10':= .slice q2 F.scopes.length c2) (f10':=fp) rfl K7.out.t5 TF7.out hnd)
  have K9:=aa9 (K8.out.setAt l.length)
  have K10:=aa9 (K9.out.setBad (!ok))
  have c9:=K6.out.cell 9 (.bool c0.filter.on) rfl
  have z9:=K6.out.free 9
  have c10:=K7.out.cell 10 (.slice none 0 0) rfl
  have z10:=K7.out.free 10
  have c11:=K8.out.r0
  have c12:=K8.out.r1
  have z12:=K8.out.rf 1
  have c13:=K9.out.r2
  have z13:=K9.out.rf 2
  clear g0 g1 g2 g3 g4 g5 g6 g7 g8 g9 g10 g11 g12 g13 g14 g15 C HBD HRD HSZ TF TF7 K6 K7 K8 K9 KD hg6 hnd
  have SB:=aa9 (show aK (fun r=>sI c0 r) l at_ false _ _ _ from aK.bind (P:=fun r=>lO c0 r) (Q:=fun c r=>bf (c,r)) SS.out ST.out)
  clear SS
  have SS:=SB
  clear SB
  go_upto_region 25 with fail
  refine aw ?_
  intro wf hwf
  have K:=aa9 (show SpC W0 wf g b p l cap l.length (!ok) { c0 with filter:=F } (.slice none 0 0) (.slice q2 F.scopes.length c2) [] fp from by rw [hwf];exact K10.out)
  clear hwf K10
  have g0:=K.out.cell 0 (sv c0.tag) rfl
  have g1:=K.out.cell 1 (.int .i64 c0.kind) rfl
  have g2:=K.out.cell 2 (sv c0.box) rfl
  have g3:=K.out.cell 3 (sv c0.dst) rfl
  have g4:=K.out.cell 4 (.bool c0.uid) rfl
  have g5:=K.out.cell 5 (.slice none 0 0) rfl
  have g6:=K.out.cell 6 (.int .i64 c0.op) rfl
  have g7:=K.out.cell 7 (.int .i64 c0.flags) rfl
  have g8:=K.out.cell 8 (sv c0.text) rfl
  have g9:=K.out.cell 9 (.bool F.on) rfl
  have g10:=K.out.cell 10 (.slice q2 F.scopes.length c2) rfl
  have hres:=K.out.res
  obtain ⟨Z,hZ⟩: ∃ Z,Z=wf.setRow (b+1) #[sv c0.tag,.int .i64 c0.kind,sv c0.box,sv c0.dst,.bool c0.uid,.slice none 0 0,.int .i64 c0.op,.int .i64 c0.flags,sv c0.text,.bool F.on,.slice q2 F.scopes.length c2]:=⟨_,rfl⟩
  have hzr:Z.heap[b+1]? =some (.cells #[sv c0.tag,.int .i64 c0.kind,sv c0.box,sv c0.dst,.bool c0.uid,.slice none 0 0,.int .i64 c0.op,.int .i64 c0.flags,sv c0.text,.bool F.on,.slice q2 F.scopes.length c2] 29 (0,0)):=by rw [hZ];exact setRow_heap _ _ _ _ _ _ hres
  have hgz:ac wf Z [b+1]:=by rw [hZ];exact ⟨rfl,rfl,rfl,by simp [World.setRow],fun k _ hk=>setRow_other _ _ _ _ (by simpa using hk)⟩
  have HIZ:=aa9 (show In6 Z g p l cap l.length (!ok) from K.out.in6.keep (fun k hk=>by rw [hZ];exact setRow_other _ _ _ _ (by have:=K.out.gb;omega)))
  have HT5:=aa9 (show cx Z W0.heap.size _ _ _ from (K.out.t5.apart hgz (fun k hk=>by have:=K.out.t5.low k hk;simp;omega)) |> fun t=>⟨t.is,t.nodup,fun k hk=>by have:=t.low k hk;have:=K.out.base;omega⟩)
  have HT10:=aa9 (show cx Z W0.heap.size _ _ _ from (K.out.t10.apart hgz (fun k hk=>by have:=K.out.t10.low k hk;simp;omega)) |> fun t=>⟨t.is,t.nodup,fun k hk=>by have:=t.low k hk;have:=K.out.base;omega⟩)
  have HGZ:=aa9 (show ac W0 Z [g] from ⟨hgz.os.trans K.out.grow.os,hgz.tape.trans K.out.grow.tape,hgz.output.trans K.out.grow.output,Nat.le_trans K.out.grow.size hgz.size,fun k hk hn=>(hgz.block k (Nat.lt_of_lt_of_le hk K.out.grow.size) (by have:=K.out.base;simp;omega)).trans (K.out.grow.block k hk hn)⟩)
  have HND:=aa9 K.out.nd
  have HSS:=aa9 (SS.out.of_eq (fun r=>cN c0 r))
  obtain ⟨qq0,qq1,qq2,qq3,qq4,qq5,qq6,qq7,qq8,qq9,qq10⟩:=cC11 hzr
  clear hgz hzr K SS
  go_wp2_with (refine ak rfl _ _ _ rfl (b+1) #[sv c0.tag,.int .i64 c0.kind,sv c0.box,sv c0.dst,.bool c0.uid,.slice none 0 0,.int .i64 c0.op,.int .i64 c0.flags,sv c0.text,.bool F.on,.slice q2 F.scopes.length c2] (by rfl) (by rfl) _ _ hres (by kernel_rfl) rfl (by simp [Value.oneCell',sv]) ?_)
  rw [←hZ]
  refine bodyPost_ret (v:= .agg #[sv c0.tag,.int .i64 c0.kind,sv c0.box,sv c0.dst,.bool c0.uid,.slice none 0 0,.int .i64 c0.op,.int .i64 c0.flags,sv c0.text,.bool F.on,.slice q2 F.scopes.length c2]) (by simp [results,Tryz.results62,go_sem,qq0,qq1,qq2,qq3,qq4,qq5,qq6,qq7,qq8,qq9,qq10]) rfl ?_
  exact ⟨{ c0 with filter:=F },_,_,_,_,l.length,(!ok),rfl,HIZ.out,HGZ.out,HSS.out,HT5.out,HT10.out,HND.out⟩
theorem sC (c0:ap) (W0:World) (g cap at_:Nat) (p:Option Addr) (l:List Tok) (h:In6 W0 g p l cap at_ false) (hcap:l.length≤cap) (hl:l.length≤1048576) (hx: ∀ t∈l,t.text.length≤1048576) (ha:at_≤l.length) (hs:c0.sset=[]) (hf:c0.filter.scopes=[]) (hk15:1≤c0.kind∧c0.kind≤15):
 Calls Tryz.prog 62 #[.pointer (some ⟨g,0,none⟩),bQ c0 (.slice none 0 0) (.slice none 0 0)] W0 (dY c0 W0 g cap at_ p l):=by
 have hgrp:(c0.kind=1∨c0.kind=3∨c0.kind=4∨c0.kind=5∨c0.kind=9∨c0.kind=15)∨(c0.kind=2∨c0.kind=12∨c0.kind=13)∨(c0.kind=14)∨(c0.kind=11)∨(c0.kind=7)∨(c0.kind=10)∨(c0.kind=8)∨(c0.kind=6):=by omega
 rcases hgrp with hk | hk | hk | hk | hk | hk | hk | hk
 · exact aan c0 W0 g cap at_ p l h hcap hl hx ha hs hf hk
 · exact aao c0 W0 g cap at_ p l h hcap hl hx ha hs hf hk
 · exact aap c0 W0 g cap at_ p l h hcap hl hx ha hs hf hk
 · exact aaq c0 W0 g cap at_ p l h hcap hl hx ha hs hf hk
 · exact aar c0 W0 g cap at_ p l h hcap hl hx ha hs hf hk
 · exact aas c0 W0 g cap at_ p l h hcap hl hx ha hs hf hk
 · exact aat c0 W0 g cap at_ p l h hcap hl hx ha hs hf hk
 · exact aau c0 W0 g cap at_ p l h hcap hl hx ha hs hf hk
end Go.Proofs.YtmlgkoeacbeopaaGreatDoor
