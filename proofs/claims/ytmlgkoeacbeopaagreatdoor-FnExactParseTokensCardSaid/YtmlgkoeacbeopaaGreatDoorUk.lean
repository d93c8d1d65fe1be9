/- Uk -/
import Derived.Test.YtmlgkoeacbeopaaGreatDoorUj
set_option maxHeartbeats 6400000
namespace Go.Proofs.YtmlgkoeacbeopaaGreatDoor
open Go.RowKit
theorem cC11 {W : World} {b : Nat} {x0 x1 x2 x3 x4 x5 x6 x7 x8 x9 x10 : Value} {e : TypeId} (h : W.heap[b]? = some (.cells #[x0, x1, x2, x3, x4, x5, x6, x7, x8, x9, x10] e (0, 0))) : W.cell? ⟨b, 0, none⟩ = some x0 ∧ W.cell? ⟨b, 1, none⟩ = some x1 ∧ W.cell? ⟨b, 2, none⟩ = some x2 ∧ W.cell? ⟨b, 3, none⟩ = some x3 ∧ W.cell? ⟨b, 4, none⟩ = some x4 ∧ W.cell? ⟨b, 5, none⟩ = some x5 ∧ W.cell? ⟨b, 6, none⟩ = some x6 ∧ W.cell? ⟨b, 7, none⟩ = some x7 ∧ W.cell? ⟨b, 8, none⟩ = some x8 ∧ W.cell? ⟨b, 9, none⟩ = some x9 ∧ W.cell? ⟨b, 10, none⟩ = some x10 := ⟨(Lib.cell_of_heap h 0).trans rfl, (Lib.cell_of_heap h 1).trans rfl, (Lib.cell_of_heap h 2).trans rfl, (Lib.cell_of_heap h 3).trans rfl, (Lib.cell_of_heap h 4).trans rfl, (Lib.cell_of_heap h 5).trans rfl, (Lib.cell_of_heap h 6).trans rfl, (Lib.cell_of_heap h 7).trans rfl, (Lib.cell_of_heap h 8).trans rfl, (Lib.cell_of_heap h 9).trans rfl, (Lib.cell_of_heap h 10).trans rfl⟩
def oL5 : List (Nat × Bool) := [(0, true), (1, true), (2, true), (3, false), (4, false), (5, true)]
theorem cTrue {a b : Int} (h : a = b) : (a == b) = true := beq_iff_eq.2 h
set_option maxRecDepth 20000 in
theorem zX (x:ap) (p q:Option Addr) (c d:Nat) (w:World) (hk:x.kind=1) (_ha:az w (am x.sset) (.slice p x.sset.length c)) (_ha2:az w (aj x.filter.scopes) (.slice q x.filter.scopes.length d)) (hs:bg x.lf≤1048576) (hbd:bs x.lf):
 Calls Tryz.prog 39 #[bQ x (.slice p x.sset.length c) (.slice q x.filter.scopes.length d)] w fun e w'=>e= .returned (.tuple #[.agg #[sv x.tag,.int .i64 x.kind,sv [],sv [],.bool false,.slice none 0 0,.int .i64 0,.int .i64 0,sv [],.bool false,.slice none 0 0],.bool (true)])∧Below w.heap.size w w':=by
 obtain ⟨_,z2,z3,z5,z8,z9,z10⟩:=ap.small hs
 obtain ⟨_,i6,i7,i5,i10⟩:=ap.bndO hbd
 clear _ha _ha2 z2 z3 z5 z8 z9 z10 i6 i7 i5 i10 hs hbd
 have t1:(x.kind==1)=true:=cTrue (by omega)
 clear hk
 go_enter Tryz.func39,Tryz.ntmps39
 go_wp2
 go_returns
 exact ⟨rfl,(((Below.refl _ _).alloc (Nat.le_refl _) _).alloc (by simp) _).alloc (by simp;omega) _⟩
set_option maxRecDepth 20000 in
theorem zY (x:ap) (p q:Option Addr) (c d:Nat) (w:World) (hk:x.kind=3) (_ha:az w (am x.sset) (.slice p x.sset.length c)) (_ha2:az w (aj x.filter.scopes) (.slice q x.filter.scopes.length d)) (hs:bg x.lf≤1048576) (hbd:bs x.lf):
 Calls Tryz.prog 39 #[bQ x (.slice p x.sset.length c) (.slice q x.filter.scopes.length d)] w fun e w'=>e= .returned (.tuple #[.agg #[sv x.tag,.int .i64 x.kind,sv [],sv [],.bool false,.slice none 0 0,.int .i64 0,.int .i64 0,sv [],.bool false,.slice none 0 0],.bool (true)])∧Below w.heap.size w w':=by
 obtain ⟨_,z2,z3,z5,z8,z9,z10⟩:=ap.small hs
 obtain ⟨_,i6,i7,i5,i10⟩:=ap.bndO hbd
 clear _ha _ha2 z2 z3 z5 z8 z9 z10 i6 i7 i5 i10 hs hbd
 have t1:(x.kind==1)=false:=cFalse (by omega)
 have t3:(x.kind==3)=true:=cTrue (by omega)
 clear hk
 go_enter Tryz.func39,Tryz.ntmps39
 go_wp2
 go_returns
 exact ⟨rfl,(((Below.refl _ _).alloc (Nat.le_refl _) _).alloc (by simp) _).alloc (by simp;omega) _⟩
set_option maxRecDepth 20000 in
theorem zZ (x:ap) (p q:Option Addr) (c d:Nat) (w:World) (hk:x.kind=4) (_ha:az w (am x.sset) (.slice p x.sset.length c)) (_ha2:az w (aj x.filter.scopes) (.slice q x.filter.scopes.length d)) (hs:bg x.lf≤1048576) (hbd:bs x.lf):
 Calls Tryz.prog 39 #[bQ x (.slice p x.sset.length c) (.slice q x.filter.scopes.length d)] w fun e w'=>e= .returned (.tuple #[.agg #[sv x.tag,.int .i64 x.kind,sv [],sv [],.bool false,.slice none 0 0,.int .i64 0,.int .i64 0,sv [],.bool false,.slice none 0 0],.bool (true)])∧Below w.heap.size w w':=by
 obtain ⟨_,z2,z3,z5,z8,z9,z10⟩:=ap.small hs
 obtain ⟨_,i6,i7,i5,i10⟩:=ap.bndO hbd
 clear _ha _ha2 z2 z3 z5 z8 z9 z10 i6 i7 i5 i10 hs hbd
 have t1:(x.kind==1)=false:=cFalse (by omega)
 have t3:(x.kind==3)=false:=cFalse (by omega)
 have t4:(x.kind==4)=true:=cTrue (by omega)
 clear hk
 go_enter Tryz.func39,Tryz.ntmps39
 go_wp2
 go_returns
 exact ⟨rfl,(((Below.refl _ _).alloc (Nat.le_refl _) _).alloc (by simp) _).alloc (by simp;omega) _⟩
set_option maxRecDepth 20000 in
theorem aaa (x:ap) (p q:Option Addr) (c d:Nat) (w:World) (hk:x.kind=5) (_ha:az w (am x.sset) (.slice p x.sset.length c)) (_ha2:az w (aj x.filter.scopes) (.slice q x.filter.scopes.length d)) (hs:bg x.lf≤1048576) (hbd:bs x.lf):
 Calls Tryz.prog 39 #[bQ x (.slice p x.sset.length c) (.slice q x.filter.scopes.length d)] w fun e w'=>e= .returned (.tuple #[.agg #[sv x.tag,.int .i64 x.kind,sv [],sv [],.bool false,.slice none 0 0,.int .i64 0,.int .i64 0,sv [],.bool false,.slice none 0 0],.bool (true)])∧Below w.heap.size w w':=by
 obtain ⟨_,z2,z3,z5,z8,z9,z10⟩:=ap.small hs
 obtain ⟨_,i6,i7,i5,i10⟩:=ap.bndO hbd
 clear _ha _ha2 z2 z3 z5 z8 z9 z10 i6 i7 i5 i10 hs hbd
 have t1:(x.kind==1)=false:=cFalse (by omega)
 have t3:(x.kind==3)=false:=cFalse (by omega)
 have t4:(x.kind==4)=false:=cFalse (by omega)
 have t5:(x.kind==5)=true:=cTrue (by omega)
 clear hk
 go_enter Tryz.func39,Tryz.ntmps39
 go_wp2
 go_returns
 exact ⟨rfl,(((Below.refl _ _).alloc (Nat.le_refl _) _).alloc (by simp) _).alloc (by simp;omega) _⟩
set_option maxRecDepth 20000 in
theorem aab (x:ap) (p q:Option Addr) (c d:Nat) (w:World) (hk:x.kind=9) (_ha:az w (am x.sset) (.slice p x.sset.length c)) (_ha2:az w (aj x.filter.scopes) (.slice q x.filter.scopes.length d)) (hs:bg x.lf≤1048576) (hbd:bs x.lf):
 Calls Tryz.prog 39 #[bQ x (.slice p x.sset.length c) (.slice q x.filter.scopes.length d)] w fun e w'=>e= .returned (.tuple #[.agg #[sv x.tag,.int .i64 x.kind,sv [],sv [],.bool false,.slice none 0 0,.int .i64 0,.int .i64 0,sv [],.bool false,.slice none 0 0],.bool (true)])∧Below w.heap.size w w':=by
 obtain ⟨_,z2,z3,z5,z8,z9,z10⟩:=ap.small hs
 obtain ⟨_,i6,i7,i5,i10⟩:=ap.bndO hbd
 clear _ha _ha2 z2 z3 z5 z8 z9 z10 i6 i7 i5 i10 hs hbd
 have t1:(x.kind==1)=false:=cFalse (by omega)
 have t3:(x.kind==3)=false:=cFalse (by omega)
 have t4:(x.kind==4)=false:=cFalse (by omega)
 have t5:(x.kind==5)=false:=cFalse (by omega)
 have t9:(x.kind==9)=true:=cTrue (by omega)
 clear hk
 go_enter Tryz.func39,Tryz.ntmps39
 go_wp2
 go_returns
 exact ⟨rfl,(((Below.refl _ _).alloc (Nat.le_refl _) _).alloc (by simp) _).alloc (by simp;omega) _⟩
set_option maxRecDepth 20000 in
theorem yI (x:ap) (p q:Option Addr) (c d:Nat) (w:World) (hk:x.kind=15) (_ha:az w (am x.sset) (.slice p x.sset.length c)) (_ha2:az w (aj x.filter.scopes) (.slice q x.filter.scopes.length d)) (hs:bg x.lf≤1048576) (hbd:bs x.lf):
 Calls Tryz.prog 39 #[bQ x (.slice p x.sset.length c) (.slice q x.filter.scopes.length d)] w fun e w'=>e= .returned (.tuple #[.agg #[sv x.tag,.int .i64 x.kind,sv [],sv [],.bool false,.slice none 0 0,.int .i64 0,.int .i64 0,sv [],.bool false,.slice none 0 0],.bool (true)])∧Below w.heap.size w w':=by
 obtain ⟨_,z2,z3,z5,z8,z9,z10⟩:=ap.small hs
 obtain ⟨_,i6,i7,i5,i10⟩:=ap.bndO hbd
 clear _ha _ha2 z2 z3 z5 z8 z9 z10 i6 i7 i5 i10 hs hbd
 have t1:(x.kind==1)=false:=cFalse (by omega)
 have t3:(x.kind==3)=false:=cFalse (by omega)
 have t4:(x.kind==4)=false:=cFalse (by omega)
 have t5:(x.kind==5)=false:=cFalse (by omega)
 have t9:(x.kind==9)=false:=cFalse (by omega)
 have t15:(x.kind==15)=true:=cTrue (by omega)
 clear hk
 go_enter Tryz.func39,Tryz.ntmps39
 go_wp2
 go_returns
 exact ⟨rfl,(((Below.refl _ _).alloc (Nat.le_refl _) _).alloc (by simp) _).alloc (by simp;omega) _⟩
set_option maxRecDepth 20000 in
theorem aac (x:ap) (p q:Option Addr) (c d:Nat) (w:World) (hk:x.kind=2) (_ha:az w (am x.sset) (.slice p x.sset.length c)) (_ha2:az w (aj x.filter.scopes) (.slice q x.filter.scopes.length d)) (hs:bg x.lf≤1048576) (hbd:bs x.lf):
 Calls Tryz.prog 39 #[bQ x (.slice p x.sset.length c) (.slice q x.filter.scopes.length d)] w fun e w'=>e= .returned (.tuple #[.agg #[sv x.tag,.int .i64 x.kind,sv x.box,sv [],.bool false,.slice none 0 0,.int .i64 0,.int .i64 0,sv [],.bool false,.slice none 0 0],.bool (aH x.box)])∧Below w.heap.size w w':=by
 obtain ⟨_,z2,z3,z5,z8,z9,z10⟩:=ap.small hs
 obtain ⟨_,i6,i7,i5,i10⟩:=ap.bndO hbd
 have cname2:=fun W=>bP ⟨x.box.toArray⟩ W (by unfold maxLen;show x.box.toArray.size≤_;simp;omega)
 clear _ha _ha2 z2 z3 z5 z8 z9 z10 i6 i7 i5 i10 hs hbd
 have t1:(x.kind==1)=false:=cFalse (by omega)
 have t3:(x.kind==3)=false:=cFalse (by omega)
 have t4:(x.kind==4)=false:=cFalse (by omega)
 have t5:(x.kind==5)=false:=cFalse (by omega)
 have t9:(x.kind==9)=false:=cFalse (by omega)
 have t15:(x.kind==15)=false:=cFalse (by omega)
 have t2:(x.kind==2)=true:=cTrue (by omega)
 clear hk
 have Cname2:=aa9 cname2
 clear cname2
 go_enter Tryz.func39,Tryz.ntmps39
 go_wp2
 refine aw ?_
 intro X hX
 have H0:=aa9 (ct.of hX)
 clear hX
 have K0:=aa9 H0.out
 clear H0
 have HS:=aa9 (fun (W:World) (R:Array Value) (H:ct 29 w W #[sv x.tag,.int .i64 x.kind,sv x.box,sv x.dst,.bool x.uid,.slice p x.sset.length c,.int .i64 x.op,.int .i64 x.flags,sv x.text,.bool x.filter.on,.slice q x.filter.scopes.length d] R #[sv x.tag,.int .i64 x.kind,sv x.box,sv [],.bool false,.slice none 0 0,.int .i64 0,.int .i64 0,sv [],.bool false,.slice none 0 0])=>(⟨(aa8 H.a 2).trans rfl,(aa8 H.o 0).trans rfl,(aa8 H.o 1).trans rfl,(aa8 H.o 2).trans rfl,(aa8 H.o 3).trans rfl,(aa8 H.o 4).trans rfl,(aa8 H.o 5).trans rfl,(aa8 H.o 6).trans rfl,(aa8 H.o 7).trans rfl,(aa8 H.o 8).trans rfl,(aa8 H.o 9).trans rfl,(aa8 H.o 10).trans rfl⟩:W.cell? ⟨w.heap.size,2,none⟩=some (sv x.box)∧W.cell? ⟨w.heap.size+1+1,0,none⟩=some (sv x.tag)∧W.cell? ⟨w.heap.size+1+1,1,none⟩=some (.int .i64 x.kind)∧W.cell? ⟨w.heap.size+1+1,2,none⟩=some (sv x.box)∧W.cell? ⟨w.heap.size+1+1,3,none⟩=some (sv [])∧W.cell? ⟨w.heap.size+1+1,4,none⟩=some (.bool false)∧W.cell? ⟨w.heap.size+1+1,5,none⟩=some (.slice none 0 0)∧W.cell? ⟨w.heap.size+1+1,6,none⟩=some (.int .i64 0)∧W.cell? ⟨w.heap.size+1+1,7,none⟩=some (.int .i64 0)∧W.cell? ⟨w.heap.size+1+1,8,none⟩=some (sv [])∧W.cell? ⟨w.heap.size+1+1,9,none⟩=some (.bool false)∧W.cell? ⟨w.heap.size+1+1,10,none⟩=some (.slice none 0 0)))
 have hs0:=HS.out X.drew _ K0.out.drew
 cases e0:(aH x.box) with
 | true=>
   rw [show aH (ByteArray.mk x.box.toArray).data.toList=true from e0] at Cname2
   refine ah oL5 (fun W=>W.cell? ⟨w.heap.size,2,none⟩=some (sv x.box)∧W.cell? ⟨w.heap.size+1+1,0,none⟩=some (sv x.tag)∧W.cell? ⟨w.heap.size+1+1,1,none⟩=some (.int .i64 x.kind)∧W.cell? ⟨w.heap.size+1+1,2,none⟩=some (sv x.box)∧W.cell? ⟨w.heap.size+1+1,3,none⟩=some (sv [])∧W.cell? ⟨w.heap.size+1+1,4,none⟩=some (.bool false)∧W.cell? ⟨w.heap.size+1+1,5,none⟩=some (.slice none 0 0)∧W.cell? ⟨w.heap.size+1+1,6,none⟩=some (.int .i64 0)∧W.cell? ⟨w.heap.size+1+1,7,none⟩=some (.int .i64 0)∧W.cell? ⟨w.heap.size+1+1,8,none⟩=some (sv [])∧W.cell? ⟨w.heap.size+1+1,9,none⟩=some (.bool false)∧W.cell? ⟨w.heap.size+1+1,10,none⟩=some (.slice none 0 0)) (by kernel_rfl) (by kernel_rfl) rfl (by kernel_rfl) ?_
   intro ops' hops
   simp only [oL5,List.map_cons,List.map_nil,ae,ag]
   iterate 3 (refine aa ?_ (fun _ _ _ h=>h) rfl ?_ hs0 ?_;rotate_left;focus (intro W hS;obtain ⟨s0,s1,s2,s3,s4,s5,s6,s7,s8,s9,s10,s11⟩:=hS;go_simp;rfl))
   try go_frame
   refine al rfl ?_
   go_simp
   refine (Cname2.out _).mono ?_
   rintro e w1 ⟨rfl,b1⟩
   have K1:=aa9 ((K0.out.drew).call b1)
   clear b1
   have hs1:=HS.out _ _ K1.out
   refine ⟨hs1,?_⟩
   try go_frame
   refine al rfl ?_
   refine ax _ _ _ rfl (w.heap.size+1) #[sv x.tag,.int .i64 x.kind,sv x.box,sv [],.bool false,.slice none 0 0,.int .i64 0,.int .i64 0,sv [],.bool false,.slice none 0 0] (by rfl) (by rfl) _ _ (K1.out).r (by kernel_rfl) rfl (by simp [Value.oneCell',sv]) ?_
   intro Z hZ
   have KF:=aa9 (show ct _ w Z _ _ _ from by rw [hZ];exact (K1.out).setR #[sv x.tag,.int .i64 x.kind,sv x.box,sv [],.bool false,.slice none 0 0,.int .i64 0,.int .i64 0,sv [],.bool false,.slice none 0 0])
   clear hZ
   refine ⟨HS.out _ _ KF.out,?_⟩
   have hsf:=HS.out _ _ KF.out
   iterate 1 (refine aa ?_ (fun _ _ _ h=>h) rfl ?_ hsf ?_;rotate_left;focus (intro W hS;obtain ⟨s0,s1,s2,s3,s4,s5,s6,s7,s8,s9,s10,s11⟩:=hS;go_simp;rfl))
   refine ai ?_
   go_simp
   clear HS hsf hs0 hs1
   obtain ⟨g0,g1,g2,g3,g4,g5,g6,g7,g8,g9,g10⟩:=cC11 KF.out.r
   have HB:=aa9 KF.out.b
   clear KF
   go_wp2
   exact bodyPost_ret (v:= .tuple #[.agg #[sv x.tag,.int .i64 x.kind,sv x.box,sv [],.bool false,.slice none 0 0,.int .i64 0,.int .i64 0,sv [],.bool false,.slice none 0 0],.bool true]) (by simp [results,Tryz.results39,go_sem,g0,g1,g2,g3,g4,g5,g6,g7,g8,g9,g10]) rfl ⟨kg (by first | rfl | (rw [e0] <;> rfl)),HB.out⟩
 | false=>
   rw [show aH (ByteArray.mk x.box.toArray).data.toList=false from e0] at Cname2
   refine ah oL5 (fun W=>W.cell? ⟨w.heap.size,2,none⟩=some (sv x.box)∧W.cell? ⟨w.heap.size+1+1,0,none⟩=some (sv x.tag)∧W.cell? ⟨w.heap.size+1+1,1,none⟩=some (.int .i64 x.kind)∧W.cell? ⟨w.heap.size+1+1,2,none⟩=some (sv x.box)∧W.cell? ⟨w.heap.size+1+1,3,none⟩=some (sv [])∧W.cell? ⟨w.heap.size+1+1,4,none⟩=some (.bool false)∧W.cell? ⟨w.heap.size+1+1,5,none⟩=some (.slice none 0 0)∧W.cell? ⟨w.heap.size+1+1,6,none⟩=some (.int .i64 0)∧W.cell? ⟨w.heap.size+1+1,7,none⟩=some (.int .i64 0)∧W.cell? ⟨w.heap.size+1+1,8,none⟩=some (sv [])∧W.cell? ⟨w.heap.size+1+1,9,none⟩=some (.bool false)∧W.cell? ⟨w.heap.size+1+1,10,none⟩=some (.slice none 0 0)) (by kernel_rfl) (by kernel_rfl) rfl (by kernel_rfl) ?_
   intro ops' hops
   simp only [oL5,List.map_cons,List.map_nil,ae,ag]
   iterate 3 (refine aa ?_ (fun _ _ _ h=>h) rfl ?_ hs0 ?_;rotate_left;focus (intro W hS;obtain ⟨s0,s1,s2,s3,s4,s5,s6,s7,s8,s9,s10,s11⟩:=hS;go_simp;rfl))
   try go_frame
   refine al rfl ?_
   go_simp
   refine (Cname2.out _).mono ?_
   rintro e w1 ⟨rfl,b1⟩
   have K1:=aa9 ((K0.out.drew).call b1)
   clear b1
   have hs1:=HS.out _ _ K1.out
   refine ⟨hs1,?_⟩
   try go_frame
   refine al rfl ?_
   refine ax _ _ _ rfl (w.heap.size+1) #[sv x.tag,.int .i64 x.kind,sv x.box,sv [],.bool false,.slice none 0 0,.int .i64 0,.int .i64 0,sv [],.bool false,.slice none 0 0] (by rfl) (by rfl) _ _ (K1.out).r (by kernel_rfl) rfl (by simp [Value.oneCell',sv]) ?_
   intro Z hZ
   have KF:=aa9 (show ct _ w Z _ _ _ from by rw [hZ];exact (K1.out).setR #[sv x.tag,.int .i64 x.kind,sv x.box,sv [],.bool false,.slice none 0 0,.int .i64 0,.int .i64 0,sv [],.bool false,.slice none 0 0])
   clear hZ
   refine ⟨HS.out _ _ KF.out,?_⟩
   have hsf:=HS.out _ _ KF.out
   iterate 1 (refine aa ?_ (fun _ _ _ h=>h) rfl ?_ hsf ?_;rotate_left;focus (intro W hS;obtain ⟨s0,s1,s2,s3,s4,s5,s6,s7,s8,s9,s10,s11⟩:=hS;go_simp;rfl))
   refine ai ?_
   go_simp
   clear HS hsf hs0 hs1
   obtain ⟨g0,g1,g2,g3,g4,g5,g6,g7,g8,g9,g10⟩:=cC11 KF.out.r
   have HB:=aa9 KF.out.b
   clear KF
   go_wp2
   exact bodyPost_ret (v:= .tuple #[.agg #[sv x.tag,.int .i64 x.kind,sv x.box,sv [],.bool false,.slice none 0 0,.int .i64 0,.int .i64 0,sv [],.bool false,.slice none 0 0],.bool false]) (by simp [results,Tryz.results39,go_sem,g0,g1,g2,g3,g4,g5,g6,g7,g8,g9,g10]) rfl ⟨kg (by first | rfl | (rw [e0] <;> rfl)),HB.out⟩
set_option maxRecDepth 20000 in
theorem yJ (x:ap) (p q:Option Addr) (c d:Nat) (w:World) (hk:x.kind=12) (_ha:az w (am x.sset) (.slice p x.sset.length c)) (_ha2:az w (aj x.filter.scopes) (.slice q x.filter.scopes.length d)) (hs:bg x.lf≤1048576) (hbd:bs x.lf):
 Calls Tryz.prog 39 #[bQ x (.slice p x.sset.length c) (.slice q x.filter.scopes.length d)] w fun e w'=>e= .returned (.tuple #[.agg #[sv x.tag,.int .i64 x.kind,sv x.box,sv [],.bool false,.slice none 0 0,.int .i64 0,.int .i64 0,sv [],.bool false,.slice none 0 0],.bool (aH x.box)])∧Below w.heap.size w w':=by
 obtain ⟨_,z2,z3,z5,z8,z9,z10⟩:=ap.small hs
 obtain ⟨_,i6,i7,i5,i10⟩:=ap.bndO hbd
 have cname2:=fun W=>bP ⟨x.box.toArray⟩ W (by unfold maxLen;show x.box.toArray.size≤_;simp;omega)
 clear _ha _ha2 z2 z3 z5 z8 z9 z10 i6 i7 i5 i10 hs hbd
 have t1:(x.kind==1)=false:=cFalse (by omega)
 have t3:(x.kind==3)=false:=cFalse (by omega)
 have t4:(x.kind==4)=false:=cFalse (by omega)
 have t5:(x.kind==5)=false:=cFalse (by omega)
 have t9:(x.kind==9)=false:=cFalse (by omega)
 have t15:(x.kind==15)=false:=cFalse (by omega)
 have t2:(x.kind==2)=false:=cFalse (by omega)
 have t12:(x.kind==12)=true:=cTrue (by omega)
 clear hk
 have Cname2:=aa9 cname2
 clear cname2
 go_enter Tryz.func39,Tryz.ntmps39
 go_wp2
 refine aw ?_
 intro X hX
 have H0:=aa9 (ct.of hX)
 clear hX
 have K0:=aa9 H0.out
 clear H0
 have HS:=aa9 (fun (W:World) (R:Array Value) (H:ct 29 w W #[sv x.tag,.int .i64 x.kind,sv x.box,sv x.dst,.bool x.uid,.slice p x.sset.length c,.int .i64 x.op,.int .i64 x.flags,sv x.text,.bool x.filter.on,.slice q x.filter.scopes.length d] R #[sv x.tag,.int .i64 x.kind,sv x.box,sv [],.bool false,.slice none 0 0,.int .i64 0,.int .i64 0,sv [],.bool false,.slice none 0 0])=>(⟨(aa8 H.a 2).trans rfl,(aa8 H.o 0).trans rfl,(aa8 H.o 1).trans rfl,(aa8 H.o 2).trans rfl,(aa8 H.o 3).trans rfl,(aa8 H.o 4).trans rfl,(aa8 H.o 5).trans rfl,(aa8 H.o 6).trans rfl,(aa8 H.o 7).trans rfl,(aa8 H.o 8).trans rfl,(aa8 H.o 9).trans rfl,(aa8 H.o 10).trans rfl⟩:W.cell? ⟨w.heap.size,2,none⟩=some (sv x.box)∧W.cell? ⟨w.heap.size+1+1,0,none⟩=some (sv x.tag)∧W.cell? ⟨w.heap.size+1+1,1,none⟩=some (.int .i64 x.kind)∧W.cell? ⟨w.heap.size+1+1,2,none⟩=some (sv x.box)∧W.cell? ⟨w.heap.size+1+1,3,none⟩=some (sv [])∧W.cell? ⟨w.heap.size+1+1,4,none⟩=some (.bool false)∧W.cell? ⟨w.heap.size+1+1,5,none⟩=some (.slice none 0 0)∧W.cell? ⟨w.heap.size+1+1,6,none⟩=some (.int .i64 0)∧W.cell? ⟨w.heap.size+1+1,7,none⟩=some (.int .i64 0)∧W.cell? ⟨w.heap.size+1+1,8,none⟩=some (sv [])∧W.cell? ⟨w.heap.size+1+1,9,none⟩=some (.bool false)∧W.cell? ⟨w.heap.size+1+1,10,none⟩=some (.slice none 0 0)))
 have hs0:=HS.out X.drew _ K0.out.drew
 cases e0:(aH x.box) with
 | true=>
   rw [show aH (ByteArray.mk x.box.toArray).data.toList=true from e0] at Cname2
   refine ah oL5 (fun W=>W.cell? ⟨w.heap.size,2,none⟩=some (sv x.box)∧W.cell? ⟨w.heap.size+1+1,0,none⟩=some (sv x.tag)∧W.cell? ⟨w.heap.size+1+1,1,none⟩=some (.int .i64 x.kind)∧W.cell? ⟨w.heap.size+1+1,2,none⟩=some (sv x.box)∧W.cell? ⟨w.heap.size+1+1,3,none⟩=some (sv [])∧W.cell? ⟨w.heap.size+1+1,4,none⟩=some (.bool false)∧W.cell? ⟨w.heap.size+1+1,5,none⟩=some (.slice none 0 0)∧W.cell? ⟨w.heap.size+1+1,6,none⟩=some (.int .i64 0)∧W.cell? ⟨w.heap.size+1+1,7,none⟩=some (.int .i64 0)∧W.cell? ⟨w.heap.size+1+1,8,none⟩=some (sv [])∧W.cell? ⟨w.heap.size+1+1,9,none⟩=some (.bool false)∧W.cell? ⟨w.heap.size+1+1,10,none⟩=some (.slice none 0 0)) (by kernel_rfl) (by kernel_rfl) rfl (by kernel_rfl) ?_
   intro ops' hops
   simp only [oL5,List.map_cons,List.map_nil,ae,ag]
   iterate 3 (refine aa ?_ (fun _ _ _ h=>h) rfl ?_ hs0 ?_;rotate_left;focus (intro W hS;obtain ⟨s0,s1,s2,s3,s4,s5,s6,s7,s8,s9,s10,s11⟩:=hS;go_simp;rfl))
   try go_frame
   refine al rfl ?_
   go_simp
   refine (Cname2.out _).mono ?_
   rintro e w1 ⟨rfl,b1⟩
   have K1:=aa9 ((K0.out.drew).call b1)
   clear b1
   have hs1:=HS.out _ _ K1.out
   refine ⟨hs1,?_⟩
   try go_frame
   refine al rfl ?_
   refine ax _ _ _ rfl (w.heap.size+1) #[sv x.tag,.int .i64 x.kind,sv x.box,sv [],.bool false,.slice none 0 0,.int .i64 0,.int .i64 0,sv [],.bool false,.slice none 0 0] (by rfl) (by rfl) _ _ (K1.out).r (by kernel_rfl) rfl (by simp [Value.oneCell',sv]) ?_
   intro Z hZ
   have KF:=aa9 (show ct _ w Z _ _ _ from by rw [hZ];exact (K1.out).setR #[sv x.tag,.int .i64 x.kind,sv x.box,sv [],.bool false,.slice none 0 0,.int .i64 0,.int .i64 0,sv [],.bool false,.slice none 0 0])
   clear hZ
   refine ⟨HS.out _ _ KF.out,?_⟩
   have hsf:=HS.out _ _ KF.out
   iterate 1 (refine aa ?_ (fun _ _ _ h=>h) rfl ?_ hsf ?_;rotate_left;focus (intro W hS;obtain ⟨s0,s1,s2,s3,s4,s5,s6,s7,s8,s9,s10,s11⟩:=hS;go_simp;rfl))
   refine ai ?_
   go_simp
   clear HS hsf hs0 hs1
   obtain ⟨g0,g1,g2,g3,g4,g5,g6,g7,g8,g9,g10⟩:=cC11 KF.out.r
   have HB:=aa9 KF.out.b
   clear KF
   go_wp2
   exact bodyPost_ret (v:= .tuple #[.agg #[sv x.tag,.int .i64 x.kind,sv x.box,sv [],.bool false,.slice none 0 0,.int .i64 0,.int .i64 0,sv [],.bool false,.slice none 0 0],.bool true]) (by simp [results,Tryz.results39,go_sem,g0,g1,g2,g3,g4,g5,g6,g7,g8,g9,g10]) rfl ⟨kg (by first | rfl | (rw [e0] <;> rfl)),HB.out⟩
 | false=>
   rw [show aH (ByteArray.mk x.box.toArray).data.toList=false from e0] at Cname2
   refine ah oL5 (fun W=>W.cell? ⟨w.heap.size,2,none⟩=some (sv x.box)∧W.cell? ⟨w.heap.size+1+1,0,none⟩=some (sv x.tag)∧W.cell? ⟨w.heap.size+1+1,1,none⟩=some (.int .i64 x.kind)∧W.cell? ⟨w.heap.size+1+1,2,none⟩=some (sv x.box)∧W.cell? ⟨w.heap.size+1+1,3,none⟩=some (sv [])∧W.cell? ⟨w.heap.size+1+1,4,none⟩=some (.bool false)∧W.cell? ⟨w.heap.size+1+1,5,none⟩=some (.slice none 0 0)∧W.cell? ⟨w.heap.size+1+1,6,none⟩=some (.int .i64 0)∧W.cell? ⟨w.heap.size+1+1,7,none⟩=some (.int .i64 0)∧W.cell? ⟨w.heap.size+1+1,8,none⟩=some (sv [])∧W.cell? ⟨w.heap.size+1+1,9,none⟩=some (.bool false)∧W.cell? ⟨w.heap.size+1+1,10,none⟩=some (.slice none 0 0)) (by kernel_rfl) (by kernel_rfl) rfl (by kernel_rfl) ?_
   intro ops' hops
   simp only [oL5,List.map_cons,List.map_nil,ae,ag]
   iterate 3 (refine aa ?_ (fun _ _ _ h=>h) rfl ?_ hs0 ?_;rotate_left;focus (intro W hS;obtain ⟨s0,s1,s2,s3,s4,s5,s6,s7,s8,s9,s10,s11⟩:=hS;go_simp;rfl))
   try go_frame
   refine al rfl ?_
   go_simp
   refine (Cname2.out _).mono ?_
   rintro e w1 ⟨rfl,b1⟩
   have K1:=aa9 ((K0.out.drew).call b1)
   clear b1
   have hs1:=HS.out _ _ K1.out
   refine ⟨hs1,?_⟩
   try go_frame
   refine al rfl ?_
   refine ax _ _ _ rfl (w.heap.size+1) #[sv x.tag,.int .i64 x.kind,sv x.box,sv [],.bool false,.slice none 0 0,.int .i64 0,.int .i64 0,sv [],.bool false,.slice none 0 0] (by rfl) (by rfl) _ _ (K1.out).r (by kernel_rfl) rfl (by simp [Value.oneCell',sv]) ?_
   intro Z hZ
   have KF:=aa9 (show ct _ w Z _ _ _ from by rw [hZ];exact (K1.out).setR #[sv x.tag,.int .i64 x.kind,sv x.box,sv [],.bool false,.slice none 0 0,.int .i64 0,.int .i64 0,sv [],.bool false,.slice none 0 0])
   clear hZ
   refine ⟨HS.out _ _ KF.out,?_⟩
   have hsf:=HS.out _ _ KF.out
   iterate 1 (refine aa ?_ (fun _ _ _ h=>h) rfl ?_ hsf ?_;rotate_left;focus (intro W hS;obtain ⟨s0,s1,s2,s3,s4,s5,s6,s7,s8,s9,s10,s11⟩:=hS;go_simp;rfl))
   refine ai ?_
   go_simp
   clear HS hsf hs0 hs1
   obtain ⟨g0,g1,g2,g3,g4,g5,g6,g7,g8,g9,g10⟩:=cC11 KF.out.r
   have HB:=aa9 KF.out.b
   clear KF
   go_wp2
   exact bodyPost_ret (v:= .tuple #[.agg #[sv x.tag,.int .i64 x.kind,sv x.box,sv [],.bool false,.slice none 0 0,.int .i64 0,.int .i64 0,sv [],.bool false,.slice none 0 0],.bool false]) (by simp [results,Tryz.results39,go_sem,g0,g1,g2,g3,g4,g5,g6,g7,g8,g9,g10]) rfl ⟨kg (by first | rfl | (rw [e0] <;> rfl)),HB.out⟩
set_option maxRecDepth 20000 in
theorem yK (x:ap) (p q:Option Addr) (c d:Nat) (w:World) (hk:x.kind=13) (_ha:az w (am x.sset) (.slice p x.sset.length c)) (_ha2:az w (aj x.filter.scopes) (.slice q x.filter.scopes.length d)) (hs:bg x.lf≤1048576) (hbd:bs x.lf):
 Calls Tryz.prog 39 #[bQ x (.slice p x.sset.length c) (.slice q x.filter.scopes.length d)] w fun e w'=>e= .returned (.tuple #[.agg #[sv x.tag,.int .i64 x.kind,sv x.box,sv [],.bool false,.slice none 0 0,.int .i64 0,.int .i64 0,sv [],.bool false,.slice none 0 0],.bool (aH x.box)])∧Below w.heap.size w w':=by
 obtain ⟨_,z2,z3,z5,z8,z9,z10⟩:=ap.small hs
 obtain ⟨_,i6,i7,i5,i10⟩:=ap.bndO hbd
 have cname2:=fun W=>bP ⟨x.box.toArray⟩ W (by unfold maxLen;show x.box.toArray.size≤_;simp;omega)
 clear _ha _ha2 z2 z3 z5 z8 z9 z10 i6 i7 i5 i10 hs hbd
 have t1:(x.kind==1)=false:=cFalse (by omega)
 have t3:(x.kind==3)=false:=cFalse (by omega)
 have t4:(x.kind==4)=false:=cFalse (by omega)
 have t5:(x.kind==5)=false:=cFalse (by omega)
 have t9:(x.kind==9)=false:=cFalse (by omega)
 have t15:(x.kind==15)=false:=cFalse (by omega)
 have t2:(x.kind==2)=false:=cFalse (by omega)
 have t12:(x.kind==12)=false:=cFalse (by omega)
 have t13:(x.kind==13)=true:=cTrue (by omega)
 clear hk
 have Cname2:=aa9 cname2
 clear cname2
 go_enter Tryz.func39,Tryz.ntmps39
 go_wp2
 refine aw ?_
 intro X hX
 have H0:=aa9 (ct.of hX)
 clear hX
 have K0:=aa9 H0.out
 clear H0
 have HS:=aa9 (fun (W:World) (R:Array Value) (H:ct 29 w W #[sv x.tag,.int .i64 x.kind,sv x.box,sv x.dst,.bool x.uid,.slice p x.sset.length c,.int .i64 x.op,.int .i64 x.flags,sv x.text,.bool x.filter.on,.slice q x.filter.scopes.length d] R #[sv x.tag,.int .i64 x.kind,sv x.box,sv [],.bool false,.slice none 0 0,.int .i64 0,.int .i64 0,sv [],.bool false,.slice none 0 0])=>(⟨(aa8 H.a 2).trans rfl,(aa8 H.o 0).trans rfl,(aa8 H.o 1).trans rfl,(aa8 H.o 2).trans rfl,(aa8 H.o 3).trans rfl,(aa8 H.o 4).trans rfl,(aa8 H.o 5).trans rfl,(aa8 H.o 6).trans rfl,(aa8 H.o 7).trans rfl,(aa8 H.o 8).trans rfl,(aa8 H.o 9).trans rfl,(aa8 H.o 10).trans rfl⟩:W.cell? ⟨w.heap.size,2,none⟩=some (sv x.box)∧W.cell? ⟨w.heap.size+1+1,0,none⟩=some (sv x.tag)∧W.cell? ⟨w.heap.size+1+1,1,none⟩=some (.int .i64 x.kind)∧W.cell? ⟨w.heap.size+1+1,2,none⟩=some (sv x.box)∧W.cell? ⟨w.heap.size+1+1,3,none⟩=some (sv [])∧W.cell? ⟨w.heap.size+1+1,4,none⟩=some (.bool false)∧W.cell? ⟨w.heap.size+1+1,5,none⟩=some (.slice none 0 0)∧W.cell? ⟨w.heap.size+1+1,6,none⟩=some (.int .i64 0)∧W.cell? ⟨w.heap.size+1+1,7,none⟩=some (.int .i64 0)∧W.cell? ⟨w.heap.size+1+1,8,none⟩=some (sv [])∧W.cell? ⟨w.heap.size+1+1,9,none⟩=some (.bool false)∧W.cell? ⟨w.heap.size+1+1,10,none⟩=some (.slice none 0 0)))
 have hs0:=HS.out X.drew _ K0.out.drew
 cases e0:(aH x.box) with
 | true=>
   rw [show aH (ByteArray.mk x.box.toArray).data.toList=true from e0] at Cname2
   refine ah oL5 (fun W=>W.cell? ⟨w.heap.size,2,none⟩=some (sv x.box)∧W.cell? ⟨w.heap.size+1+1,0,none⟩=some (sv x.tag)∧W.cell? ⟨w.heap.size+1+1,1,none⟩=some (.int .i64 x.kind)∧W.cell? ⟨w.heap.size+1+1,2,none⟩=some (sv x.box)∧W.cell? ⟨w.heap.size+1+1,3,none⟩=some (sv [])∧W.cell? ⟨w.heap.size+1+1,4,none⟩=some (.bool false)∧W.cell? ⟨w.heap.size+1+1,5,none⟩=some (.slice none 0 0)∧W.cell? ⟨w.heap.size+1+1,6,none⟩=some (.int .i64 0)∧W.cell? ⟨w.heap.size+1+1,7,none⟩=some (.int .i64 0)∧W.cell? ⟨w.heap.size+1+1,8,none⟩=some (sv [])∧W.cell? ⟨w.heap.size+1+1,9,none⟩=some (.bool false)∧W.cell? ⟨w.heap.size+1+1,10,none⟩=some (.slice none 0 0)) (by kernel_rfl) (by kernel_rfl) rfl (by kernel_rfl) ?_
   intro ops' hops
   simp only [oL5,List.map_cons,List.map_nil,ae,ag]
   iterate 3 (refine aa ?_ (fun _ _ _ h=>h) rfl ?_ hs0 ?_;rotate_left;focus (intro W hS;obtain ⟨s0,s1,s2,s3,s4,s5,s6,s7,s8,s9,s10,s11⟩:=hS;go_simp;rfl))
   try go_frame
   refine al rfl ?_
   go_simp
   refine (Cname2.out _).mono ?_
   rintro e w1 ⟨rfl,b1⟩
   have K1:=aa9 ((K0.out.drew).call b1)
   clear b1
   have hs1:=HS.out _ _ K1.out
   refine ⟨hs1,?_⟩
   try go_frame
   refine al rfl ?_
   refine ax _ _ _ rfl (w.heap.size+1) #[sv x.tag,.int .i64 x.kind,sv x.box,sv [],.bool false,.slice none 0 0,.int .i64 0,.int .i64 0,sv [],.bool false,.slice none 0 0] (by rfl) (by rfl) _ _ (K1.out).r (by kernel_rfl) rfl (by simp [Value.oneCell',sv]) ?_
   intro Z hZ
   have KF:=aa9 (show ct _ w Z _ _ _ from by rw [hZ];exact (K1.out).setR #[sv x.tag,.int .i64 x.kind,sv x.box,sv [],.bool false,.slice none 0 0,.int .i64 0,.int .i64 0,sv [],.bool false,.slice none 0 0])
   clear hZ
   refine ⟨HS.out _ _ KF.out,?_⟩
   have hsf:=HS.out _ _ KF.out
   iterate 1 (refine aa ?_ (fun _ _ _ h=>h) rfl ?_ hsf ?_;rotate_left;focus (intro W hS;obtain ⟨s0,s1,s2,s3,s4,s5,s6,s7,s8,s9,s10,s11⟩:=hS;go_simp;rfl))
   refine ai ?_
   go_simp
   clear HS hsf hs0 hs1
   obtain ⟨g0,g1,g2,g3,g4,g5,g6,g7,g8,g9,g10⟩:=cC11 KF.out.r
   have HB:=aa9 KF.out.b
   clear KF
   go_wp2
   exact bodyPost_ret (v:= .tuple #[.agg #[sv x.tag,.int .i64 x.kind,sv x.box,sv [],.bool false,.slice none 0 0,.int .i64 0,.int .i64 0,sv [],.bool false,.slice none 0 0],.bool true]) (by simp [results,Tryz.results39,go_sem,g0,g1,g2,g3,g4,g5,g6,g7,g8,g9,g10]) rfl ⟨kg (by first | rfl | (rw [e0] <;> rfl)),HB.out⟩
 | false=>
   rw [show aH (ByteArray.mk x.box.toArray).data.toList=false from e0] at Cname2
   refine ah oL5 (fun W=>W.cell? ⟨w.heap.size,2,none⟩=some (sv x.box)∧W.cell? ⟨w.heap.size+1+1,0,none⟩=some (sv x.tag)∧W.cell? ⟨w.heap.size+1+1,1,none⟩=some (.int .i64 x.kind)∧W.cell? ⟨w.heap.size+1+1,2,none⟩=some (sv x.box)∧W.cell? ⟨w.heap.size+1+1,3,none⟩=some (sv [])∧W.cell? ⟨w.heap.size+1+1,4,none⟩=some (.bool false)∧W.cell? ⟨w.heap.size+1+1,5,none⟩=some (.slice none 0 0)∧W.cell? ⟨w.heap.size+1+1,6,none⟩=some (.int .i64 0)∧W.cell? ⟨w.heap.size+1+1,7,none⟩=some (.int .i64 0)∧W.cell? ⟨w.heap.size+1+1,8,none⟩=some (sv [])∧W.cell? ⟨w.heap.size+1+1,9,none⟩=some (.bool false)∧W.cell? ⟨w.heap.size+1+1,10,none⟩=some (.slice none 0 0)) (by kernel_rfl) (by kernel_rfl) rfl (by kernel_rfl) ?_
   intro ops' hops
   simp only [oL5,List.map_cons,List.map_nil,ae,ag]
   iterate 3 (refine aa ?_ (fun _ _ _ h=>h) rfl ?_ hs0 ?_;rotate_left;focus (intro W hS;obtain ⟨s0,s1,s2,s3,s4,s5,s6,s7,s8,s9,s10,s11⟩:=hS;go_simp;rfl))
   try go_frame
   refine al rfl ?_
   go_simp
   refine (Cname2.out _).mono ?_
   rintro e w1 ⟨rfl,b1⟩
   have K1:=aa9 ((K0.out.drew).call b1)
   clear b1
   have hs1:=HS.out _ _ K1.out
   refine ⟨hs1,?_⟩
   try go_frame
   refine al rfl ?_
   refine ax _ _ _ rfl (w.heap.size+1) #[sv x.tag,.int .i64 x.kind,sv x.box,sv [],.bool false,.slice none 0 0,.int .i64 0,.int .i64 0,sv [],.bool false,.slice none 0 0] (by rfl) (by rfl) _ _ (K1.out).r (by kernel_rfl) rfl (by simp [Value.oneCell',sv]) ?_
   intro Z hZ
   have KF:=aa9 (show ct _ w Z _ _ _ from by rw [hZ];exact (K1.out).setR #[sv x.tag,.int .i64 x.kind,sv x.box,sv [],.bool false,.slice none 0 0,.int .i64 0,.int .i64 0,sv [],.bool false,.slice none 0 0])
   clear hZ
   refine ⟨HS.out _ _ KF.out,?_⟩
   have hsf:=HS.out _ _ KF.out
   iterate 1 (refine aa ?_ (fun _ _ _ h=>h) rfl ?_ hsf ?_;rotate_left;focus (intro W hS;obtain ⟨s0,s1,s2,s3,s4,s5,s6,s7,s8,s9,s10,s11⟩:=hS;go_simp;rfl))
   refine ai ?_
   go_simp
   clear HS hsf hs0 hs1
   obtain ⟨g0,g1,g2,g3,g4,g5,g6,g7,g8,g9,g10⟩:=cC11 KF.out.r
   have HB:=aa9 KF.out.b
   clear KF
   go_wp2
   exact bodyPost_ret (v:= .tuple #[.agg #[sv x.tag,.int .i64 x.kind,sv x.box,sv [],.bool false,.slice none 0 0,.int .i64 0,.int .i64 0,sv [],.bool false,.slice none 0 0],.bool false]) (by simp [results,Tryz.results39,go_sem,g0,g1,g2,g3,g4,g5,g6,g7,g8,g9,g10]) rfl ⟨kg (by first | rfl | (rw [e0] <;> rfl)),HB.out⟩
end Go.Proofs.YtmlgkoeacbeopaaGreatDoor
