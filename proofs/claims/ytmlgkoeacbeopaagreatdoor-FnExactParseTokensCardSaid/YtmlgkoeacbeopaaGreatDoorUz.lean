/- Uz -/
import Derived.LaidEql
import Derived.Stop.Asserts
import Derived.RowKitTokens
import Derived.Maps.RangeWalk
import Derived.Test.YtmlgkoeacbeopaaGreatDoorUf
import Derived.Test.YtmlgkoeacbeopaaGreatDoorUw
import Derived.Test.YtmlgkoeacbeopaaGreatDoorUy
set_option maxHeartbeats 4000000
namespace Go.Proofs.YtmlgkoeacbeopaaGreatDoor
open Go.RowKit Go.Extern.Stop Go.Stop Go.Extern
abbrev hdl (t:Nat):Value:= .pointer (some ⟨10,t,none⟩)
theorem rlm (z:Sem Value) (f:TypeId→Addr→Nat→Nat→Sem Value) (v:Value):
 ReflectliteValue.method z f #[v]=(do match ←ReflectliteValue.parts v with | none=>z | some (t,a,fl)=>f t a fl (fl % 32)):=rfl
theorem rls (v x:Value):ReflectliteValue.set #[v,x]=(do
 let (some (dst,a,fl),some (src,b,_)):=(←ReflectliteValue.parts v,←ReflectliteValue.parts x)
  | unsupported (.noEntry "extern/(internal/reflectlite.Value).Set.zeroValue")
 if fl / ReflectliteValue.flagAddr % 2==0 then unsupported (.noEntry "extern/(internal/reflectlite.Value).Set.unaddressable")
 let val ←loadVar src b
 if ←Rtype.directlyAssignable dst src then storeVar dst a val
 else if ←Rtype.implements dst src then
  if (←Rtype.kind src)==20 then
   match val with
   | .nilIface=>unsupported (.noEntry "extern/reflectlite: a nil value of one interface type handed on as a value of another")
   | _=>storeVar dst a val
  else storeVar dst a (.iface src val)
 else panicString ("reflectlite.Set: value of type " ++(←Rtype.spelt src)++ " is not assignable to type " ++(←Rtype.spelt dst))
 pure (.tuple #[])):=rfl
theorem As.valueOfP (t:Addr) (w:World):(ReflectliteValue.unpack (.iface 88 (.pointer (some t)))).run Tryz.prog w
 = .ok (.agg #[hdl 88,.pointer (some ⟨w.heap.size,0,none⟩),.int .u64 150]) (w.alloc (.cells #[.pointer (some t)] 88)):=by kernel_rfl
theorem As.typeP (a:Addr) (w:World):(ReflectliteValue.methodAny (ReflectliteValue.valueError "reflectlite.Value.Type" 0) (fun t _ _ _=>ReflectliteType.toType t) #[.agg #[hdl 88,.pointer (some a),.int .u64 150]]).run Tryz.prog w
 = .ok (.iface 177 (.agg #[hdl 88])) w:=by kernel_rfl
theorem As.methodKind (h:Value) (w:World):(Go.method 386 177 (.agg #[h]) "Kind").run Tryz.prog w= .ok (263,h) w:=by kernel_rfl
theorem As.kindP (w:World):((ReflectliteType.abiMethod fun t=>(fun a:Nat=>Value.int IntKind.u8 (a:Int)) <$> Rtype.kind t) #[hdl 88]).run Tryz.prog w= .ok (.int .u8 22) w:=by kernel_rfl
theorem As.kindE (w:World):((ReflectliteType.abiMethod fun t=>(fun a:Nat=>Value.int IntKind.u8 (a:Int)) <$> Rtype.kind t) #[hdl 86]).run Tryz.prog w= .ok (.int .u8 25) w:=by kernel_rfl
theorem As.partsP (a:Addr) (w:World):(ReflectliteValue.parts (.agg #[hdl 88,.pointer (some a),.int .u64 150])).run Tryz.prog w= .ok (some (88,a,150)) w:=by kernel_rfl
theorem As.isNilP (a p:Addr) (W:World) (ha:W.cell? a=some (.pointer (some p))):
 (ReflectliteValue.method (ReflectliteValue.valueError "reflectlite.Value.IsNil" 0) ReflectliteValue.isNil #[.agg #[hdl 88,.pointer (some a),.int .u64 150]]).run Tryz.prog W= .ok (.bool false) W:=by
 rw [rlm]
 simp only [Sem.run_bind,As.partsP,Result.andThen]
 simp [ReflectliteValue.isNil,loadVar,isAgg,underlying,Tryz.underlying88,ha,Result.andThen]
theorem As.methodElem (h:Value) (w:World):(Go.method 386 177 (.agg #[h]) "Elem").run Tryz.prog w= .ok (274,.agg #[h]) w:=by kernel_rfl
theorem As.methodImplements (h:Value) (w:World):(Go.method 386 177 (.agg #[h]) "Implements").run Tryz.prog w= .ok (275,.agg #[h]) w:=by kernel_rfl
theorem As.methodAssignableTo (h:Value) (w:World):(Go.method 386 177 (.agg #[h]) "AssignableTo").run Tryz.prog w= .ok (272,.agg #[h]) w:=by kernel_rfl
theorem As.elemP (w:World):(ReflectliteType.method ReflectliteType.elem #[.agg #[hdl 88]]).run Tryz.prog w= .ok (.iface 177 (.agg #[hdl 86])) w:=by kernel_rfl
theorem As.implementsE (w:World):(ReflectliteType.relation "Implements" ReflectliteType.implements_ #[.agg #[hdl 86],.iface 177 (.agg #[hdl 83])]).run Tryz.prog w= .ok (.bool true) w:=by kernel_rfl
theorem As.typeOfE (v:Value) (w:World):(ReflectliteType.typeOf #[.iface 86 v]).run Tryz.prog w= .ok (.iface 177 (.agg #[hdl 86])) w:=by kernel_rfl
theorem As.assignableE (w:World):(ReflectliteType.relation "AssignableTo" ReflectliteType.assignableTo #[.agg #[hdl 86],.iface 177 (.agg #[hdl 86])]).run Tryz.prog w= .ok (.bool true) w:=by kernel_rfl
theorem As.valueOfE (s:ByteArray) (w:World):(ReflectliteValue.unpack (.iface 86 (.agg #[.string s]))).run Tryz.prog w
 = .ok (.agg #[hdl 86,.pointer (some ⟨w.heap.size,0,none⟩),.int .u64 153]) (w.alloc (.cells #[.string s] 86)):=by kernel_rfl
theorem As.elemOfP (w:World):(Rtype.elem? 88).run Tryz.prog w= .ok (some 86) w:=by kernel_rfl
theorem As.mkE (p:Addr) (w:World):(ReflectliteValue.mk 86 p ReflectliteValue.flagAddr).run Tryz.prog w= .ok (.agg #[hdl 86,.pointer (some p),.int .u64 409]) w:=by kernel_rfl
theorem As.elemV (a p:Addr) (W:World) (ha:W.cell? a=some (.pointer (some p))):
 (ReflectliteValue.method (ReflectliteValue.valueError "reflectlite.Value.Elem" 0) ReflectliteValue.elem #[.agg #[hdl 88,.pointer (some a),.int .u64 150]]).run Tryz.prog W
  = .ok (.agg #[hdl 86,.pointer (some p),.int .u64 409]) W:=by
 rw [rlm]
 simp only [Sem.run_bind,As.partsP,Result.andThen]
 simp [ReflectliteValue.elem,loadVar,isAgg,underlying,Tryz.underlying88,ha,Result.andThen,As.elemOfP,As.mkE]
theorem As.partsEa (a:Addr) (w:World):(ReflectliteValue.parts (.agg #[hdl 86,.pointer (some a),.int .u64 409])).run Tryz.prog w= .ok (some (86,a,409)) w:=by kernel_rfl
theorem As.partsE (a:Addr) (w:World):(ReflectliteValue.parts (.agg #[hdl 86,.pointer (some a),.int .u64 153])).run Tryz.prog w= .ok (some (86,a,153)) w:=by kernel_rfl
theorem As.directE (w:World):(Rtype.directlyAssignable 86 86).run Tryz.prog w= .ok true w:=by kernel_rfl
theorem As.setE (ta b:Addr) (s:ByteArray) (old:Value) (W:World) (hb:W.cell? b=some (.string s)) (ht:W.cell? ta=some old) (hf:W.frozen? ta=false):
 (ReflectliteValue.set #[.agg #[hdl 86,.pointer (some ta),.int .u64 409],.agg #[hdl 86,.pointer (some b),.int .u64 153]]).run Tryz.prog W
  = .ok (.tuple #[]) (W.setCell ta (.string s)):=by
 rw [rls]
 simp only [Sem.run_bind,As.partsEa,As.partsE,Result.andThen]
 have hl:(loadCells b 1).run Tryz.prog W= .ok #[.string s] W:=by
  have:=run_loadCells_list (P:=Tryz.prog) (w:=W) b [.string s] (fun j v hj=>by
   match j,hj with
   | 0,hj=>simp only [List.getElem?_cons_zero,Option.some.injEq] at hj;subst hj;simpa [Addr.add] using hb)
  simpa using this
 simp [ReflectliteValue.flagAddr,loadVar,isAgg,underlying,Tryz.underlying86,hl,Result.andThen,As.directE,storeVar,Value.cells,storeCells,Addr.add]
 rw [run_store Tryz.prog W ta _ _ (by rfl)]
 simp [ht,hf]
theorem zc (s:ByteArray) (t:Addr) (old:Value) (w:World) (hg:w.cell? ⟨0,0,none⟩=some (.iface 177 (.agg #[hdl 83]))) (ht0:w.cell? t=some old) (hf0:w.frozen? t=false):
 Calls Tryz.prog 65 #[.iface 86 (.agg #[.string s]),.iface 88 (.pointer (some t))] w fun ev w'=>ev= .returned (.bool true)∧w'=((((w.alloc (.cells #[.pointer (some t)] 88)).alloc (.cells #[hdl 88,.pointer (some ⟨w.heap.size,0,none⟩),.int .u64 150] 140)).alloc (.cells #[hdl 88,.pointer (some ⟨w.heap.size,0,none⟩),.int .u64 150] 140)).alloc (.cells #[.string s] 86)).setCell t (.string s):=by
 have h6:= @run_callFunc_extern Tryz.prog 120 _ (fun args=>ReflectliteValue.unpack (args.getD 0 (.tuple #[]))) Tryz.func120 (by kernel_rfl) (by kernel_rfl) (by kernel_rfl) (by kernel_rfl)
 have h7:= @run_callFunc_extern Tryz.prog 121 _ (ReflectliteValue.methodAny (ReflectliteValue.valueError "reflectlite.Value.Type" 0) (fun t _ _ _=>ReflectliteType.toType t)) Tryz.func121 (by kernel_rfl) (by kernel_rfl) (by kernel_rfl) (by kernel_rfl)
 have h8:= @run_callFunc_extern Tryz.prog 122 _ (ReflectliteValue.method (ReflectliteValue.valueError "reflectlite.Value.IsNil" 0) ReflectliteValue.isNil) Tryz.func122 (by kernel_rfl) (by kernel_rfl) (by kernel_rfl) (by kernel_rfl)
 have h27:= @run_callFunc_extern Tryz.prog 263 _ (ReflectliteType.abiMethod fun t=>do pure (.int .u8 (←Rtype.kind t))) Tryz.func263 (by kernel_rfl) (by kernel_rfl) (by kernel_rfl) (by kernel_rfl)
 have h37:= @run_callFunc_extern Tryz.prog 274 _ (ReflectliteType.method ReflectliteType.elem) Tryz.func274 (by kernel_rfl) (by kernel_rfl) (by kernel_rfl) (by kernel_rfl)
 have h38:= @run_callFunc_extern Tryz.prog 275 _ (ReflectliteType.relation "Implements" ReflectliteType.implements_) Tryz.func275 (by kernel_rfl) (by kernel_rfl) (by kernel_rfl) (by kernel_rfl)
 have h10:= @run_callFunc_extern Tryz.prog 176 _ ReflectliteType.typeOf Tryz.func176 (by kernel_rfl) (by kernel_rfl) (by kernel_rfl) (by kernel_rfl)
 have h35:= @run_callFunc_extern Tryz.prog 272 _ (ReflectliteType.relation "AssignableTo" ReflectliteType.assignableTo) Tryz.func272 (by kernel_rfl) (by kernel_rfl) (by kernel_rfl) (by kernel_rfl)
 have h11:= @run_callFunc_extern Tryz.prog 177 _ (ReflectliteValue.method (ReflectliteValue.valueError "reflectlite.Value.Elem" 0) ReflectliteValue.elem) Tryz.func177 (by kernel_rfl) (by kernel_rfl) (by kernel_rfl) (by kernel_rfl)
 have h12:= @run_callFunc_extern Tryz.prog 178 _ ReflectliteValue.set Tryz.func178 (by kernel_rfl) (by kernel_rfl) (by kernel_rfl) (by kernel_rfl)
 have tO:=As.typeOfE
 have mA:=As.methodAssignableTo
 have a25:=As.assignableE
 have v25:=As.valueOfE
 have f6:=As.valueOfP
 have f7:=As.typeP
 have mK:=As.methodKind
 have mE:=As.methodElem
 have mI:=As.methodImplements
 have k27:=As.kindP
 have k25:=As.kindE
 have e27:=As.elemP
 have i25:=As.implementsE
 have n8:=As.isNilP ⟨w.heap.size,0,none⟩ t ((w.alloc (.cells #[.pointer (some t)] 88)).alloc (.cells #[hdl 88,.pointer (some ⟨w.heap.size,0,none⟩),.int .u64 150] 140)) (by simp)
 have hlt:0 < w.heap.size:=by
  rcases Nat.lt_or_ge 0 w.heap.size with h | h
  · exact h
  · simp [World.cell?,Array.getElem?_eq_none h] at hg
 have hg2:((w.alloc (.cells #[.pointer (some t)] 88)).alloc (.cells #[hdl 88,.pointer (some ⟨w.heap.size,0,none⟩),.int .u64 150] 140)).cell? ⟨0,0,none⟩=some (.iface 177 (.agg #[hdl 83])):=by
  rw [World.cell?_alloc_lt _ _ ⟨0,0,none⟩ (by first | (simp;done) | (simp;omega)),World.cell?_alloc_lt _ _ ⟨0,0,none⟩ hlt];exact hg
 have htl:t.block < w.heap.size:=by
  rcases Nat.lt_or_ge t.block w.heap.size with h | h
  · exact h
  · simp [World.cell?,Array.getElem?_eq_none h] at ht0
 have el:=As.elemV ⟨w.heap.size,0,none⟩ t (((w.alloc (.cells #[.pointer (some t)] 88)).alloc (.cells #[hdl 88,.pointer (some ⟨w.heap.size,0,none⟩),.int .u64 150] 140)).alloc (.cells #[hdl 88,.pointer (some ⟨w.heap.size,0,none⟩),.int .u64 150] 140)) (by rw [World.cell?_alloc_lt _ _ ⟨w.heap.size,0,none⟩ (by simp;omega)];simp)
 have st:=As.setE t ⟨w.heap.size+1+1+1,0,none⟩ s old ((((w.alloc (.cells #[.pointer (some t)] 88)).alloc (.cells #[hdl 88,.pointer (some ⟨w.heap.size,0,none⟩),.int .u64 150] 140)).alloc (.cells #[hdl 88,.pointer (some ⟨w.heap.size,0,none⟩),.int .u64 150] 140)).alloc (.cells #[.string s] 86))
  (by rw [World.cell?_alloc_at _ _ _ _ (by simp)];rfl)
  (by rw [World.cell?_alloc_lt _ _ t (by simp;omega),World.cell?_alloc_lt _ _ t (by simp;omega),World.cell?_alloc_lt _ _ t (by simp;omega),World.cell?_alloc_lt _ _ t htl];exact ht0)
  (by rw [World.frozen?_alloc_old _ _ t (by simp;omega),World.frozen?_alloc_old _ _ t (by simp;omega),World.frozen?_alloc_old _ _ t (by simp;omega),World.frozen?_alloc_old _ _ t (Nat.ne_of_lt htl)];exact hf0)
 go_enter Tryz.func65,Tryz.ntmps65
 go_wp2
 refine wp_loop_rounds 1 ?_
 rw [rounds_succ]
 go_wp2
 go_ret
 exact ⟨rfl,rfl⟩
end Go.Proofs.YtmlgkoeacbeopaaGreatDoor
namespace Go.Proofs.YtmlgkoeacbeopaaGreatDoor
open Go.RowKit
def wX (s:ByteArray):Value:= .iface 86 (.agg #[.string s])
structure Rdr (w0 W:World) (g:Nat) (l:List Tok):Prop where
 lo:w0.heap.size≤g
 bel:Below w0.heap.size w0 W
 blk: ∃ p c,W.heap[g]? =some (.cells #[.slice p l.length c] 90 (0,0))∧Rd 2 dh w0 (.slice p l.length c) l∧l.length≤c
 len:l.length≤1048576
 txt: ∀ t∈l,t.text.length≤1048576
theorem Rdr.lt {w0 W:World} {g:Nat} {l:List Tok} (h:Rdr w0 W g l):g < W.heap.size:=by
 obtain ⟨p,c,hb,_⟩:=h.blk
 exact (Array.getElem?_eq_some_iff.1 hb).1
theorem Rdr.below {w0 W W':World} {g:Nat} {l:List Tok} (h:Rdr w0 W g l) (hb:Below W.heap.size W W'):Rdr w0 W' g l:=by
 obtain ⟨p,c,h1,h2,h3⟩:=h.blk
 exact ⟨h.lo,h.bel.trans (hb.mono h.bel.size),⟨p,c,(hb.block g h.lt).trans h1,h2,h3⟩,h.len,h.txt⟩
theorem Rdr.drew {w0 W:World} {g:Nat} {l:List Tok} (h:Rdr w0 W g l):Rdr w0 W.drew g l:=h.below (Below.refl _ _).drew
theorem Rdr.set {w0 W:World} {g:Nat} {l r:List Tok} {p:Option Addr} {c:Nat} (h:Rdr w0 W g l) (hr:Rd 2 dh w0 (.slice p r.length c) r) (hc:r.length≤c) (hl:r.length≤l.length) (ht: ∀ t∈r,t∈l):Rdr w0 (W.setCell ⟨g,0,none⟩ (.slice p r.length c)) g r:=by
 obtain ⟨p0,c0,h1,_,_⟩:=h.blk
 refine ⟨h.lo,h.bel.setCell h.lo _,⟨p,c,?_,hr,hc⟩,Nat.le_trans hl h.len,fun t htm=>h.txt t (ht t htm)⟩
 rw [bz h1]
 rfl
theorem ac.setN {W W1:World} {fp:List Nat} (h:ac W W1 fp) {b j:Nat} {v:Value} (hb:W.heap.size≤b):ac W (W1.setCell ⟨b,j,none⟩ v) fp:=
 ⟨h.os,h.tape,h.output,by have:=h.size;simpa [World.setCell] using this,fun k hk hn=>(aD (by omega)).trans (h.block k hk hn)⟩
theorem Rdr.other {w0 W:World} {g b j:Nat} {l:List Tok} {v:Value} (h:Rdr w0 W g l) (hb:w0.heap.size≤b) (hne:b ≠ g):Rdr w0 (W.setCell ⟨b,j,none⟩ v) g l:=by
 obtain ⟨p,c,h1,h2,h3⟩:=h.blk
 exact ⟨h.lo,h.bel.setCell hb _,⟨p,c,(aD (by omega)).trans h1,h2,h3⟩,h.len,h.txt⟩
def RP {α:Type} (U:Option (α×List Tok)) (V:α→Value→World→Prop) (w0 W:World) (g:Nat) (e:Ending) (w':World):Prop:=
 match U with
 | some (x,r)=> ∃ v,e= .returned v∧V x v w'∧Rdr w0 w' g r∧ac W w' [g]
 | none=>(∃ s,e= .panicked [{ v:=wX s,recovered:=false }])∧ac W w' [g]
theorem RP.some_ {α:Type} {x:α} {r:List Tok} {V:α→Value→World→Prop} {w0 W:World} {g:Nat} {e:Ending} {w':World} (h: ∃ v,e= .returned v∧V x v w'∧Rdr w0 w' g r∧ac W w' [g]):RP (some (x,r)) V w0 W g e w':=h
theorem RP.none_ {α:Type} {V:α→Value→World→Prop} {w0 W:World} {g:Nat} {e:Ending} {w':World} (h:(∃ s,e= .panicked [{ v:=wX s,recovered:=false }])∧ac W w' [g]):RP (none:Option (α×List Tok)) V w0 W g e w':=h
theorem aI (s:ByteArray) (w:World):
 Calls Tryz.prog 131 #[.bool true,.string s] w fun e w'=>e= .returned (.tuple #[])∧w=w':=by
 go_enter Tryz.func131,Tryz.ntmps131
 go_wp2
 exact ⟨rfl,.tuple #[],by simp [results,Tryz.results131,go_sem],rfl,rfl⟩
theorem aP (s:ByteArray) (w:World):
 Calls Tryz.prog 131 #[.bool false,.string s] w fun e w'=>e= .panicked [{ v:=wX s,recovered:=false }]∧w=w':=by
 go_enter Tryz.func131,Tryz.ntmps131
 go_wp2
 exact ⟨rfl,rfl,rfl⟩
theorem eF {w:World} {b:Nat} {x:Value} {e:TypeId} (h:w.heap[b]? =some (.cells #[x] e (0,0))):w.cell? ⟨b,0,none⟩=some x∧w.frozen? ⟨b,0,none⟩=false:=by
 constructor
 · simp [World.cell?,h]
 · simp [World.frozen?,h]
theorem cL (w0 W:World) (g:Nat) (l:List Tok) (kind:Int) (h:Rdr w0 W g l):
 Calls Tryz.prog 124 #[.pointer (some ⟨g,0,none⟩),.int .i64 kind] W (fun e w'=>RP (dH kind l) (fun x v _=>v=sv x) w0 W g e w'):=by
 have H:=aa9 h
 obtain ⟨p,c,hb,hr,hc⟩:=h.blk
 obtain ⟨k0,f0⟩:=eF hb
 have hlen:=h.len
 have HR:=aa9 hr
 have hbel:=h.bel
 clear h hb
 obtain ⟨q,d,hv,hp⟩:=hr.ex
 injection hv with hq1 _ hq2
 subst hq1 hq2
 clear hr
 cases l with
 | nil=>
   replace k0:W.cell? ⟨g,0,none⟩=some (.slice p 0 c):=k0
   clear hp hc hbel
   go_enter Tryz.func124,Tryz.ntmps124
   go_wp2_with fail
   refine (aP _ _).mono ?_
   rintro e w1 ⟨rfl,rfl⟩
   exact ⟨rfl,RP.none_ ⟨⟨_,rfl⟩,ac.refl _ _⟩⟩
 | cons t r=>
   obtain ⟨b,off,rfl,hbw,hcell⟩:=hp.resolve_left (by simp)
   have a0:W.cell? ⟨b,off,none⟩=some (.int .i64 t.kind):=(hbel.cell (p:=⟨b,off,none⟩) hbw).trans (hcell 0 t rfl 0 _ rfl)
   have a1:W.cell? ⟨b,off+1,none⟩=some (sv t.text):=(hbel.cell (p:=⟨b,off+1,none⟩) hbw).trans (hcell 0 t rfl 1 _ rfl)
   replace k0:W.cell? ⟨g,0,none⟩=some (.slice (some ⟨b,off,none⟩) (r.length+1) c):=k0
   replace hlen:r.length+1≤1048576:=hlen
   replace hc:r.length+1≤c:=hc
   have HD:=aa9 (show Rd 2 dh w0 (.slice (if c=1 then some (⟨b,off,none⟩:Addr) else Option.map (fun x:Addr=>x.add (1 * 2)) (some (⟨b,off,none⟩:Addr))) r.length (c - 1)) r from (hD (l:=t::r) (k:=1) (show Rd 2 dh w0 (.slice (some ⟨b,off,none⟩) (t::r).length c) (t::r) from HR.out) hc (by show 1≤r.length+1;omega)).1)
   clear hp hcell hbel HR
   have hpos:(0:Int) < ((r.length+1:Nat):Int):=by omega
   cases hk:(t.kind==kind) with
   | false=>
     have HV:=aa9 (show dH kind (t::r)=none from if_neg (beq_eq_false_iff_ne.1 hk))
     rw [HV.out]
     go_enter Tryz.func124,Tryz.ntmps124
     go_wp2_with fail
     refine (aP _ _).mono ?_
     rintro e w1 ⟨rfl,rfl⟩
     exact ⟨rfl,RP.none_ ⟨⟨_,rfl⟩,ac.refl _ _⟩⟩
   | true=>
     have HV:=aa9 (show dH kind (t::r)=some (t.text,r) from if_pos (beq_iff_eq.1 hk))
     rw [HV.out]
     obtain rfl:t.kind=kind:=beq_iff_eq.1 hk
     clear hk
     have hcc:c=1∨ ¬c=1:=Classical.em _
     rcases hcc with hc1 | hc1
     · subst hc1
       obtain rfl:r=[]:=List.eq_nil_of_length_eq_zero (by omega)
       have HS:=aa9 (H.out.set HD.out (by simp) (by simp) (by simp))
       go_enter Tryz.func124,Tryz.ntmps124
       go_wp2_with fail
       refine (aI _ _).mono ?_
       rintro e w1 ⟨rfl,rfl⟩
       go_wp2
       go_ret
       exact RP.some_ ⟨_,rfl,rfl,HS.out,ac.set (by simp)⟩
     · have HS:=aa9 (H.out.set HD.out (by omega) (by simp) (fun t ht=>List.mem_cons_of_mem _ ht))
       go_enter Tryz.func124,Tryz.ntmps124
       go_wp2_with fail
       refine (aI _ _).mono ?_
       rintro e w1 ⟨rfl,rfl⟩
       go_wp2
       go_ret
       refine RP.some_ ⟨_,rfl,rfl,?_,ac.set (by simp)⟩
       have:=HS.out
       simpa [hc1,Addr.add] using this
def px (t:Tok) (wd:List UInt8):Bool:=t.kind==1 && an t.text==an wd
theorem mG (w0 W:World) (g:Nat) (t:Tok) (r:List Tok) (wd:List UInt8) (h:Rdr w0 W g (t::r)) (hk:px t wd=true) (hw:wd.length≤1048576):
 Calls Tryz.prog 125 #[.pointer (some ⟨g,0,none⟩),sv wd] W (fun e w'=>e= .returned (.bool true)∧Rdr w0 w' g r∧ac W w' [g]):=by
 have H:=aa9 h
 obtain ⟨p,c,hb,hr,hc⟩:=h.blk
 obtain ⟨k0,f0⟩:=eF hb
 have hlen:=h.len
 have HR:=aa9 hr
 have hbel:=h.bel
 have htx:=h.txt t (by simp)
 have hg:=h.lt
 clear h hb
 obtain ⟨q,d,hv,hp⟩:=hr.ex
 injection hv with hq1 _ hq2
 subst hq1 hq2
 clear hr
 obtain ⟨b,off,rfl,hbw,hcell⟩:=hp.resolve_left (by simp)
 have a0:W.cell? ⟨b,off,none⟩=some (.int .i64 t.kind):=(hbel.cell (p:=⟨b,off,none⟩) hbw).trans (hcell 0 t rfl 0 _ rfl)
 have a1:W.cell? ⟨b,off+1,none⟩=some (sv t.text):=(hbel.cell (p:=⟨b,off+1,none⟩) hbw).trans (hcell 0 t rfl 1 _ rfl)
 replace k0:W.cell? ⟨g,0,none⟩=some (.slice (some ⟨b,off,none⟩) (r.length+1) c):=k0
 replace hlen:r.length+1≤1048576:=hlen
 replace hc:r.length+1≤c:=hc
 have HD:=aa9 (show Rd 2 dh w0 (.slice (if c=1 then some (⟨b,off,none⟩:Addr) else Option.map (fun x:Addr=>x.add (1 * 2)) (some (⟨b,off,none⟩:Addr))) r.length (c - 1)) r from (hD (l:=t::r) (k:=1) (show Rd 2 dh w0 (.slice (some ⟨b,off,none⟩) (t::r).length c) (t::r) from HR.out) hc (by show 1≤r.length+1;omega)).1)
 clear hp hcell hbel HR hbw
 have hpos:(0:Int) < ((r.length+1:Nat):Int):=by omega
 have HK:=aa9 hk
 have C:=aa9 (fun W'=>df t wd W' htx hw)
 clear hk htx
 have hcc:c=1∨ ¬c=1:=Classical.em _
 rcases hcc with hc1 | hc1
 · subst hc1
   obtain rfl:r=[]:=List.eq_nil_of_length_eq_zero (by omega)
   go_enter Tryz.func125,Tryz.ntmps125
   go_wp2_with fail
   refine (C.out _).mono ?_
   rintro e w1 ⟨rfl,b1⟩
   have k1:w1.cell? ⟨g,0,none⟩=some (.slice (some ⟨b,off,none⟩) 1 1):=(b1.cell (p:=⟨g,0,none⟩) hg).trans k0
   have f1:w1.frozen? ⟨g,0,none⟩=false:=(b1.frozen (p:=⟨g,0,none⟩) hg).trans f0
   have HS:=aa9 ((H.out.below b1).set HD.out (by simp) (by simp) (by simp))
   have HG:=aa9 (ac.of_below (fp:=[g]) b1)
   have hkw:(t.kind==1 && an t.text==an wd)=true:=HK.out
   rw [hkw]
   clear k0 f0 a0 a1 b1 hkw
   go_wp2
   go_ret
   exact ⟨rfl,HS.out,HG.out.trans (ac.set (by simp))⟩
 · go_enter Tryz.func125,Tryz.ntmps125
   go_wp2_with fail
   refine (C.out _).mono ?_
   rintro e w1 ⟨rfl,b1⟩
   have k1:w1.cell? ⟨g,0,none⟩=some (.slice (some ⟨b,off,none⟩) (r.length+1) c):=(b1.cell (p:=⟨g,0,none⟩) hg).trans k0
   have f1:w1.frozen? ⟨g,0,none⟩=false:=(b1.frozen (p:=⟨g,0,none⟩) hg).trans f0
   have HS:=aa9 ((H.out.below b1).set HD.out (by omega) (by simp) (fun t ht=>List.mem_cons_of_mem _ ht))
   have HG:=aa9 (ac.of_below (fp:=[g]) b1)
   have hkw:(t.kind==1 && an t.text==an wd)=true:=HK.out
   rw [hkw]
   clear k0 f0 a0 a1 b1 hkw
   go_wp2
   go_ret
   refine ⟨rfl,?_,HG.out.trans (ac.set (by simp))⟩
   have:=HS.out
   simpa [hc1,Addr.add] using this
theorem py (w0 W:World) (g:Nat) (l:List Tok) (wd:List UInt8) (h:Rdr w0 W g l) (hk: ∀ t r,l=t::r→px t wd=false) (hw:wd.length≤1048576):
 Calls Tryz.prog 125 #[.pointer (some ⟨g,0,none⟩),sv wd] W (fun e w'=>e= .returned (.bool false)∧Below W.heap.size W w'):=by
 obtain ⟨p,c,hb,hr,hc⟩:=h.blk
 obtain ⟨k0,f0⟩:=eF hb
 have hlen:=h.len
 have hbel:=h.bel
 have htxt:=h.txt
 clear h hb
 obtain ⟨q,d,hv,hp⟩:=hr.ex
 injection hv with hq1 _ hq2
 subst hq1 hq2
 clear hr
 cases l with
 | nil=>
   replace k0:W.cell? ⟨g,0,none⟩=some (.slice p 0 c):=k0
   clear hp hc hbel
   go_enter Tryz.func125,Tryz.ntmps125
   go_wp2
   go_ret
   exact ⟨rfl,Below.refl _ _⟩
 | cons t r=>
   obtain ⟨b,off,rfl,hbw,hcell⟩:=hp.resolve_left (by simp)
   have a0:W.cell? ⟨b,off,none⟩=some (.int .i64 t.kind):=(hbel.cell (p:=⟨b,off,none⟩) hbw).trans (hcell 0 t rfl 0 _ rfl)
   have a1:W.cell? ⟨b,off+1,none⟩=some (sv t.text):=(hbel.cell (p:=⟨b,off+1,none⟩) hbw).trans (hcell 0 t rfl 1 _ rfl)
   replace k0:W.cell? ⟨g,0,none⟩=some (.slice (some ⟨b,off,none⟩) (r.length+1) c):=k0
   have hpos:(0:Int) < ((r.length+1:Nat):Int):=by omega
   have HK:=aa9 (hk t r rfl)
   have C:=aa9 (fun W'=>df t wd W' (htxt t (by simp)) hw)
   clear hp hcell hbel hbw hk htxt
   go_enter Tryz.func125,Tryz.ntmps125
   go_wp2_with fail
   refine (C.out _).mono ?_
   rintro e w1 ⟨rfl,b1⟩
   have hkw:(t.kind==1 && an t.text==an wd)=false:=HK.out
   rw [hkw]
   clear k0 f0 a0 a1 hkw
   go_wp2
   go_ret
   exact ⟨rfl,b1⟩
theorem lC {k:Int} :(kdW k).length≤1048576:=by
 unfold kdW
 split
 · next h=>
   have hc:k=1∨k=2∨k=3∨k=4∨k=5∨k=6∨k=7∨k=8∨k=9∨k=10∨k=11∨k=12∨k=13∨k=14∨k=15:=by omega
   rcases hc with rfl | rfl | rfl | rfl | rfl | rfl | rfl | rfl | rfl | rfl | rfl | rfl | rfl | rfl | rfl <;> decide
 · decide
theorem zd: ∀ x∈ej.toList,1≤valOf x.val∧valOf x.val≤15:=by
 intro x hx
 have h:x∈[aF 0,aF 1,aF 2,aF 3,aF 4,aF 5,aF 6,aF 7,aF 8,aF 9,aF 10,aF 11,aF 12,aF 13,aF 14]:=hx
 simp only [List.mem_cons,List.not_mem_nil,or_false] at h
 rcases h with rfl | rfl | rfl | rfl | rfl | rfl | rfl | rfl | rfl | rfl | rfl | rfl | rfl | rfl | rfl <;> exact ⟨by decide,by decide⟩
theorem wC {k:Int} (h:1≤k∧k≤15): ∃ x∈ej.toList,valOf x.val=k:=by
 refine ⟨aF (k.toNat - 1),?_,?_⟩
 · have:ej.toList=(List.range 15).map aF:=rfl
   rw [this,List.mem_map]
   exact ⟨_,List.mem_range.2 (by omega),rfl⟩
 · show ((k.toNat - 1:Nat):Int)+1=k
   omega
theorem uK {t:Tok} {r:List Tok} {k:Int} (hk:1≤k∧k≤15) (h:px t (kdW k)=true):jJ (t::r)=some (k,r):=by
 unfold px at h
 simp only [Bool.and_eq_true,beq_iff_eq] at h
 unfold jJ
 have h1:aq 1 (t::r)=some (t.text,r):=by simp [aq,h.1]
 rw [h1,Option.bind_some,uq hk h.2.symm,if_neg (by omega)]
theorem wD {l:List Tok} (h: ∀ x∈ej.toList,∀ t r,l=t::r→px t (kdW (valOf x.val))=false):jJ l=none:=by
 cases l with
 | nil=>rfl
 | cons t r=>
   unfold jJ
   by_cases hk:t.kind=1
   · have h1:aq 1 (t::r)=some (t.text,r):=by simp [aq,hk]
     rw [h1,Option.bind_some]
     rcases gz (u:=an t.text) 15 with h2 | ⟨h2,h3,h4⟩
     · rw [if_pos h2]
     · exfalso
       obtain ⟨x,hx,hv⟩:=wC ⟨h2,by omega⟩
       have:=h x hx t r rfl
       rw [hv] at this
       unfold px at this
       rw [h4] at this
       simp [hk] at this
   · have h1:aq 1 (t::r)=none:=by simp [aq,hk]
     rw [h1]
     rfl
theorem sw (w0 W:World) (g:Nat) (l:List Tok) (h:Rdr w0 W g l):
 Calls Tryz.prog 126 #[.pointer (some ⟨g,0,none⟩)] W (fun e w'=>RP (jJ l) (fun k v _=>v= .int .i64 k) w0 W g e w'):=by
 have H:=aa9 h
 clear h
 go_enter Tryz.func126,Tryz.ntmps126
 go_wp2_with fail
 refine (j1 W).mono ?_
 rintro e w1 ⟨rfl,hw1⟩
 have hb:w1.heap[W.heap.size]? =some (.map ej 15):=by rw [hw1];exact heap_alloc_new W _
 have hz1:w1.heap.size=W.heap.size+1:=by rw [hw1];simp
 have hbl:Below W.heap.size W w1:=by rw [hw1];exact (Below.refl _ W).alloc (Nat.le_refl _) _
 clear hw1
 have hrg:=run_range_map (P:=Tryz.prog) w1 _ _ _ W.heap.size ej 15 Tryz.underlying191 hb
 have hk0:(w1.alloc (.mapIter (some W.heap.size) 15 #[] 15)).heap[w1.heap.size]? =some (.mapIter (some W.heap.size) 15 #[] 15):=heap_alloc_new w1 _
 have hb0:(w1.alloc (.mapIter (some W.heap.size) 15 #[] 15)).heap[W.heap.size]? =some (.map ej 15):=(Below.heap_alloc w1 _ _ (by omega)).trans hb
 have hbl0:Below W.heap.size W (w1.alloc (.mapIter (some W.heap.size) 15 #[] 15)):=hbl.alloc (by omega) _
 have HZ1:=aa9 hz1
 generalize (w1.alloc (.mapIter (some W.heap.size) 15 #[] 15))=W0 at *
 generalize w1.heap.size=r at *
 clear hz1 hb hbl
 go_wp2
 go_loopw [] (fun wr=> ∃ seen:Array Nat,wr.heap[r]? =some (.mapIter (some W.heap.size) 15 seen 15)∧wr.heap[W.heap.size]? =some (.map ej 15)∧Below W.heap.size W wr∧ ∀ x∈ej.toList,seen.contains x.born=true→ ∀ t r,l=t::r→px t (kdW (valOf x.val))=false)
  (fun wr=>(leftOf ej (wr.iterSeen r)).size)
 case atStart=>exact ⟨#[],hk0,hb0,hbl0,fun x _ h=>by simp at h⟩
 case round=>
  clear hk0 hb0 hbl0 hrg
  obtain ⟨seen,hr,hm,hbr,hno⟩:=hrel
  have Hno:=aa9 hno
  clear hno
  have hsn:wr.iterSeen r=seen:=by unfold World.iterSeen;rw [hr]
  have HSN:=aa9 hsn
  clear hsn
  rcases run_next_at (P:=Tryz.prog) wr 0 r W.heap.size 15 15 seen ej 15 hr hm (fun x hx=>by obtain ⟨_,_,_,h⟩:=wQ x hx;exact h) (Nat.le_refl _) with ⟨h0,hrun⟩ | ⟨e,he,w2,hal,hrun⟩
  · have hnx: ∀ ty,(Instr.next (.pointer (some ⟨r,0,none⟩)) false ty).run Tryz.prog wr=_:=fun _=>hrun
    have HV:=aa9 (wD (fun x hx=>Hno.out x hx (all_seen ej seen h0 x hx)))
    have HB:=aa9 hbr
    clear hrun h0 Hno HSN hbr
    go_wp2
    exact ⟨rfl,by rw [HV.out];exact RP.none_ ⟨⟨_,rfl⟩,ac.of_below HB.out⟩⟩
  · obtain ⟨v,hval,hkey,_⟩:=wQ e (mem_left he).1
    have hrv:=zd e (mem_left he).1
    have hr2:w2.heap[r]? =some (.mapIter (some W.heap.size) 15 seen 15):=by rcases hal with rfl | rfl <;> exact hr
    have hm2:w2.heap[W.heap.size]? =some (.map ej 15):=by rcases hal with rfl | rfl <;> exact hm
    have hbr2:Below W.heap.size W w2:=by
     rcases hal with rfl | rfl
     · exact hbr
     · exact hbr.drew
    have hset:=MapKept.heap_set (o':= .mapIter (some W.heap.size) 15 (seen.push e.born) 15) hr2
    have hm3:(Go.ChangeMaps.setBlock w2 r (.mapIter (some W.heap.size) 15 (seen.push e.born) 15)).heap[W.heap.size]? =some (.map ej 15):=(hset.2 W.heap.size (by have:=HZ1.out;omega)).trans hm2
    have hr3:(Go.ChangeMaps.setBlock w2 r (.mapIter (some W.heap.size) 15 (seen.push e.born) 15)).heap[r]? =some (.mapIter (some W.heap.size) 15 (seen.push e.born) 15):=hset.1
    have hbr3:Below W.heap.size W (Go.ChangeMaps.setBlock w2 r (.mapIter (some W.heap.size) 15 (seen.push e.born) 15)):=l0 hbr2 (by have:=HZ1.out;omega) _
    have hen:=run_entry_at (P:=Tryz.prog) _ r W.heap.size 15 seen ej 15 e hr3 hm3 (mem_left he).1 tD
    have hsn3:(Go.ChangeMaps.setBlock w2 r (.mapIter (some W.heap.size) 15 (seen.push e.born) 15)).iterSeen r=seen.push e.born:=by unfold World.iterSeen;rw [hr3]
    have HLT:=aa9 (left_shrinks ej seen e he)
    have HM3:=aa9 hm3
    have HR3:=aa9 hr3
    have HB3:=aa9 hbr3
    have HKEY:=aa9 hkey
    have HVAL:=aa9 hval
    have HIN:=aa9 (mem_left he)
    have HRV:=aa9 hrv
    clear hsn3 hm3 hr3 hbr3 hset hr2 hm2 hbr2 hal hr hm hbr hrv
    rw [hval] at hrun hen HRV
    rw [hkey] at hrun hen
    clear hkey hval he
    generalize Go.ChangeMaps.setBlock w2 r (.mapIter (some W.heap.size) 15 (seen.push e.born) 15)=W3 at *
    have hnx: ∀ ty,(Instr.next (.pointer (some ⟨r,0,none⟩)) false ty).run Tryz.prog wr=_:=fun _=>hrun
    clear hrun
    have HRD:=aa9 (H.out.below HB3.out)
    by_cases hq: ∃ t s,l=t::s∧px t (kdW v)=true
    · obtain ⟨t,s,rfl,hq2⟩:=hq
      have HV:=aa9 (uK (r:=s) (k:=v) HRV.out hq2)
      have C:=aa9 (mG w0 W3 g t s (kdW v) HRD.out hq2 lC)
      clear hq2
      go_wp2_with fail
      refine C.out.mono ?_
      rintro e2 w4 ⟨rfl,hd4,hg4⟩
      have HD4:=aa9 hd4
      have HG4:=aa9 (ac.trans (ac.of_below (fp:=[g]) HB3.out) hg4)
      clear hd4 hg4
      go_wp2
      go_ret
      rw [HV.out]
      exact RP.some_ ⟨_,rfl,rfl,HD4.out,HG4.out⟩
    · have hq1: ∀ t s,l=t::s→px t (kdW v)=false:=fun t s hl=>by
       cases hh:px t (kdW v) with
       | false=>rfl
       | true=>exact absurd ⟨t,s,hl,hh⟩ hq
      have HQ:=aa9 hq1
      have C:=aa9 (py w0 W3 g l (kdW v) HRD.out hq1 lC)
      clear hq hq1
      go_wp2_with fail
      refine C.out.mono ?_
      rintro e2 w4 ⟨rfl,b4⟩
      have hrs:r < W3.heap.size:=(Array.getElem?_eq_some_iff.1 HR3.out).1
      have HR4:=aa9 ((b4.block r hrs).trans HR3.out)
      have HM4:=aa9 ((b4.block W.heap.size (by have:=(Array.getElem?_eq_some_iff.1 HM3.out).1;omega)).trans HM3.out)
      have HB4:=aa9 (HB3.out.trans (b4.mono HB3.out.size))
      have HSN4:=aa9 (show w4.iterSeen r=seen.push e.born by unfold World.iterSeen;rw [HR4.out])
      clear b4 hrs
      go_wp2
      go_roundw
      case rel=>
       refine ⟨seen.push e.born,HR4.out,HM4.out,HB4.out,fun x hx hc=> ?_⟩
       rw [contains_push] at hc
       rcases Bool.or_eq_true _ _ ▸ hc with h1 | h1
       · exact Hno.out x hx h1
       · have:x=e:=born_inj tD hx HIN.out.1 (beq_iff_eq.1 h1)
         subst this
         rw [HVAL.out]
         exact HQ.out
      case measure=>
       rw [HSN4.out,HSN.out]
       exact HLT.out
theorem lD (w0 W:World) (g:Nat) (l:List Tok) (hG:TM w0) (h:Rdr w0 W g l):
 Calls Tryz.prog 128 #[.pointer (some ⟨g,0,none⟩)] W (fun e w'=>RP (setK l) (fun s v w'=>w'.ownsRow W.heap.size 62 2 v s.length (s.flatMap je)) w0 W g e w'):=by
 have C:=aa9 (cL w0 W g l 1 h)
 have HV:=aa9 (show setK l=(dH 1 l).bind fun z=>(bq z.1).map fun s=>(s,z.2) by rw [be];rfl)
 have HT:=aa9 (fun x (hx: ∃ t∈l,x=t.text)=>show x.length≤1048576 by obtain ⟨t,ht,rfl⟩:=hx;exact h.txt t ht)
 have HS:=aa9 (show W.heap.size ≥ 0 from Nat.zero_le _)
 clear h
 go_enter Tryz.func128,Tryz.ntmps128
 go_wp2_with fail
 refine C.out.mono ?_
 intro e w1 hp
 cases hU:dH 1 l with
 | none=>
   rw [hU] at hp
   obtain ⟨⟨s,rfl⟩,hg1⟩:=hp
   exact ⟨rfl,by rw [HV.out,hU];exact RP.none_ ⟨⟨_,rfl⟩,hg1⟩⟩
 | some z=>
   obtain ⟨x,r⟩:=z
   have HV1:=aa9 (show setK l=(bq x).map fun s=>(s,r) by rw [HV.out,hU];rfl)
   have hx:=HT.out x (ur hU)
   rw [hU] at hp
   obtain ⟨v,rfl,rfl,hd1,hg1⟩:=hp
   have C2:=aa9 (lr ⟨x.toArray⟩ w1 (TM.keeps _ _ hG hd1.bel) (by simpa [ByteArray.size] using hx))
   have HD:=aa9 hd1
   have HG1:=aa9 hg1
   clear hU hd1 hg1 hx hG C
   go_wp2_with fail
   refine C2.out.mono ?_
   rintro e w2 ⟨v2,rfl,o2,b2⟩
   have HG2:=aa9 (HG1.out.trans (ac.of_below (fp:=[g]) b2))
   have HD2:=aa9 (HD.out.below b2)
   have HO:=aa9 (eV o2 HG1.out.size)
   clear b2 o2
   cases hU2:bq x with
   | none=>
     have HV2:=aa9 (show setK l=none by rw [HV1.out,hU2];rfl)
     clear hU2 HV1 C2
     go_wp2_with fail
     refine (aP _ _).mono ?_
     rintro e w3 ⟨rfl,rfl⟩
     exact ⟨rfl,by rw [HV2.out];exact RP.none_ ⟨⟨_,rfl⟩,HG2.out⟩⟩
   | some s=>
     have HV2:=aa9 (show setK l=some (s,r) by rw [HV1.out,hU2];rfl)
     have HO2:=aa9 (show w2.ownsRow W.heap.size 62 2 v2 s.length (s.flatMap je) from by
      have h1:w2.ownsRow W.heap.size 62 2 v2 ((bq x).getD []).length (((bq x).getD []).flatMap je):=HO.out
      rw [hU2] at h1
      exact h1)
     clear hU2 HV1 C2 HO
     go_wp2_with fail
     refine (aI _ _).mono ?_
     rintro e w3 ⟨rfl,rfl⟩
     go_wp2
     go_ret
     rw [HV2.out]
     exact RP.some_ ⟨_,rfl,HO2.out,HD2.out,HG2.out⟩
theorem wE (w0 W:World) (g:Nat) (l:List Tok) (h:Rdr w0 W g l):
 Calls Tryz.prog 129 #[.pointer (some ⟨g,0,none⟩)] W (fun e w'=>RP (opK l) (fun n v _=>v= .int .i64 n) w0 W g e w'):=by
 have C:=aa9 (cL w0 W g l 1 h)
 have HV:=aa9 (show opK l=(dH 1 l).bind fun z=>(lN z.1).map fun n=>(n,z.2) by rw [be];rfl)
 clear h
 go_enter Tryz.func129,Tryz.ntmps129
 go_wp2_with fail
 refine C.out.mono ?_
 intro e w1 hp
 cases hU:dH 1 l with
 | none=>
   rw [hU] at hp
   obtain ⟨⟨s,rfl⟩,hg1⟩:=hp
   exact ⟨rfl,by rw [HV.out,hU];exact RP.none_ ⟨⟨_,rfl⟩,hg1⟩⟩
 | some z=>
   obtain ⟨x,r⟩:=z
   have HV1:=aa9 (show opK l=(lN x).map fun n=>(n,r) by rw [HV.out,hU];rfl)
   rw [hU] at hp
   obtain ⟨v,rfl,rfl,hd1,hg1⟩:=hp
   have C2:=aa9 (ni x w1)
   have HD:=aa9 hd1
   have HG1:=aa9 hg1
   clear hU hd1 hg1 C
   go_wp2_with fail
   refine C2.out.mono ?_
   rintro e w2 ⟨rfl,rfl⟩
   cases hU2:lN x with
   | none=>
     have HV2:=aa9 (show opK l=none by rw [HV1.out,hU2];rfl)
     clear hU2 HV1 C2
     unfold opV
     go_wp2_with fail
     refine (aP _ _).mono ?_
     rintro e w3 ⟨rfl,rfl⟩
     exact ⟨rfl,by rw [HV2.out];exact RP.none_ ⟨⟨_,rfl⟩,HG1.out⟩⟩
   | some s=>
     have HV2:=aa9 (show opK l=some (s,r) by rw [HV1.out,hU2];rfl)
     clear hU2 HV1 C2
     unfold opV
     go_wp2_with fail
     refine (aI _ _).mono ?_
     rintro e w3 ⟨rfl,rfl⟩
     go_wp2
     go_ret
     rw [HV2.out]
     exact RP.some_ ⟨_,rfl,rfl,HD.out,HG1.out⟩
theorem lF (w0 W:World) (g:Nat) (l:List Tok) (hF:Fw w0) (h:Rdr w0 W g l):
 Calls Tryz.prog 127 #[.pointer (some ⟨g,0,none⟩)] W (fun e w'=>RP (ch l) (fun n v _=>v= .int .i64 n) w0 W g e w'):=by
 have H:=aa9 h
 have HV:=aa9 (show ch l=(bc l).bind fun z=>(rdF 0 z.1).map fun n:Nat=>((n:Int),z.2) from rfl)
 have HX:=aa9 h.txt
 have HN:=aa9 h.len
 have hg:=h.lt
 obtain ⟨p,c,hb,hr,hc⟩:=h.blk
 obtain ⟨k0,f0⟩:=eF hb
 have C:=aa9 (dV _ l w0 W hr h.bel (fun p' n' c' hv=>by injection hv with _ h1 h2;omega) h.len)
 clear h hb hr
 go_enter Tryz.func127,Tryz.ntmps127
 go_wp2_with fail
 refine C.out.mono ?_
 intro e w1 hp
 cases hU:bc l with
 | none=>
   rw [hU] at hp
   obtain ⟨rfl,b1⟩:=hp
   have HG1:=aa9 (ac.of_below (fp:=[g]) b1)
   have HV2:=aa9 (show ch l=none by rw [HV.out,hU];rfl)
   clear hU b1 k0 f0
   go_wp2_with fail
   refine (aP _ _).mono ?_
   rintro e w3 ⟨rfl,rfl⟩
   exact ⟨rfl,by rw [HV2.out];exact RP.none_ ⟨⟨_,rfl⟩,HG1.out⟩⟩
 | some z=>
   obtain ⟨ws,r⟩:=z
   obtain ⟨m1,m2,m3,m4⟩:=my hU
   have HV1:=aa9 (show ch l=(rdF 0 ws).map fun n:Nat=>((n:Int),r) by rw [HV.out,hU];rfl)
   rw [hU] at hp
   obtain ⟨vn,vr,rfl,on,hrr,hcr,b1⟩:=hp
   have C2:=aa9 (j2 vn ws w1 (Fw.below (Fw.below hF (H.out.bel.mono (Nat.le_refl _))) b1) (Rd1.of_own (enc:=sv) on) (by have:=HN.out;omega) (fun x hx=>by obtain ⟨t,ht,rfl⟩:=m1 x hx;exact HX.out t ht))
   obtain ⟨pr,dr,hvr,_⟩:=hrr.ex
   subst hvr
   have hcr2:r.length≤dr:=hcr _ _ _ rfl
   have HRR:=aa9 hrr
   have B1:=aa9 b1
   have HM:=aa9 m3
   have H1:=aa9 (H.out.below b1)
   have k1:w1.cell? ⟨g,0,none⟩=some (.slice p l.length c):=(b1.cell (p:=⟨g,0,none⟩) hg).trans k0
   have f1:w1.frozen? ⟨g,0,none⟩=false:=(b1.frozen (p:=⟨g,0,none⟩) hg).trans f0
   have hg1:g < w1.heap.size:=H1.out.lt
   clear hU hrr hcr b1 k0 f0 m1 m2 m3 on C
   go_wp2_with fail
   refine (aI _ _).mono ?_
   rintro e w2 ⟨rfl,rfl⟩
   go_wp2_with fail
   refine C2.out.mono ?_
   rintro e w2 ⟨rfl,b2⟩
   have k2:w2.cell? ⟨g,0,none⟩=some (.slice p l.length c):=(b2.cell (p:=⟨g,0,none⟩) hg1).trans k1
   have f2:w2.frozen? ⟨g,0,none⟩=false:=(b2.frozen (p:=⟨g,0,none⟩) hg1).trans f1
   have HD2:=aa9 (H1.out.below b2)
   have HG2:=aa9 ((ac.of_below (fp:=[g]) B1.out).trans (ac.of_below (fp:=[g]) b2))
   clear b2 k1 f1
   cases hU2:rdF 0 ws with
   | none=>
     have HV2:=aa9 (show ch l=none by rw [HV1.out,hU2];rfl)
     clear hU2 HV1 C2
     unfold rdV
     go_wp2_with fail
     refine (aP _ _).mono ?_
     rintro e w3 ⟨rfl,rfl⟩
     exact ⟨rfl,by rw [HV2.out];exact RP.none_ ⟨⟨_,rfl⟩,HG2.out⟩⟩
   | some n=>
     have HV2:=aa9 (show ch l=some ((n:Int),r) by rw [HV1.out,hU2];rfl)
     have HS:=aa9 (HD2.out.set HRR.out hcr2 m4 HM.out)
     clear hU2 HV1 C2
     unfold rdV
     go_wp2_with fail
     refine (aI _ _).mono ?_
     rintro e w3 ⟨rfl,rfl⟩
     go_wp2
     go_ret
     rw [HV2.out]
     exact RP.some_ ⟨_,rfl,rfl,HS.out,HG2.out.trans (ac.set (by simp))⟩
theorem pz (w0 W:World) (g:Nat) (l:List Tok) (hE:Ew w0) (h:Rdr w0 W g l):
 Calls Tryz.prog 130 #[.pointer (some ⟨g,0,none⟩)] W (fun e w'=>RP (eC l) (fun f v w'=> ∃ v2 fp,v= .agg #[.bool f.on,v2]∧cx w' W.heap.size (aj f.scopes) v2 fp) w0 W g e w'):=by
 have H:=aa9 h
 have HV:=aa9 (show eC l=(bL l).map fun f=>(f,[]) from rfl)
 have hg:=h.lt
 obtain ⟨p,c,hb,hr,hc⟩:=h.blk
 obtain ⟨k0,f0⟩:=eF hb
 have hX:Below W.heap.size W (W.alloc (.cells #[.bool false,.slice none 0 0] 27)):=(Below.refl _ _).alloc (Nat.le_refl _) _
 have hbX:Below w0.heap.size w0 (W.alloc (.cells #[.bool false,.slice none 0 0] 27)):=h.bel.trans (hX.mono h.bel.size)
 have C:=aa9 (iY _ l _ (Ew.below hE hbX) (hr.below hbX) (fun p' n' c' hv=>by injection hv with _ h1 h2;omega) h.len h.txt)
 have HX:=aa9 hX
 clear h hb hr hc hX hbX
 go_enter Tryz.func130,Tryz.ntmps130
 go_wp2_with fail
 refine C.out.mono ?_
 rintro e w1 ⟨v2,fp,rfl,hT,b1⟩
 obtain ⟨q2,n2,c2,rfl⟩: ∃ q n c,v2= .slice q n c:=by
  obtain ⟨q,c,h⟩:=au.slice hT.is
  exact ⟨q,_,c,h⟩
 have hsz:W.heap.size+1≤w1.heap.size:=by have:=b1.size;simpa using this
 have B1:=aa9 (HX.out.trans (b1.mono (by simp)))
 have k1:w1.cell? ⟨g,0,none⟩=some (.slice p l.length c):=(B1.out.cell (p:=⟨g,0,none⟩) hg).trans k0
 have f1:w1.frozen? ⟨g,0,none⟩=false:=(B1.out.frozen (p:=⟨g,0,none⟩) hg).trans f0
 have hsz0:W.heap.size < (W.alloc (.cells #[.bool false,.slice none 0 0] 27)).heap.size:=by simp
 have r0:w1.cell? ⟨W.heap.size,0,none⟩=some (.bool false):=(b1.cell (p:=⟨W.heap.size,0,none⟩) hsz0).trans (by simp [go_sem])
 have r1:w1.cell? ⟨W.heap.size,1,none⟩=some (.slice none 0 0):=(b1.cell (p:=⟨W.heap.size,1,none⟩) hsz0).trans (by simp [go_sem])
 have z0:w1.frozen? ⟨W.heap.size,0,none⟩=false:=(b1.frozen (p:=⟨W.heap.size,0,none⟩) hsz0).trans (by simp [go_sem])
 have z1:w1.frozen? ⟨W.heap.size,1,none⟩=false:=(b1.frozen (p:=⟨W.heap.size,1,none⟩) hsz0).trans (by simp [go_sem])
 clear k0 f0 b1 hsz0
 cases hU:bL l with
 | none=>
   have HV2:=aa9 (show eC l=none by rw [HV.out,hU];rfl)
   have HG:=aa9 (ac.trans (ac.of_below (fp:=[g]) B1.out) (ac.of_below (fp:=[g]) ((Below.refl w1.heap.size w1).alloc (Nat.le_refl _) (.cells #[.bool false,.slice q2 n2 c2] 27))))
   go_wp2_with fail
   refine (aP _ _).mono ?_
   rintro e w3 ⟨rfl,rfl⟩
   exact ⟨rfl,by rw [HV2.out];exact RP.none_ ⟨⟨_,rfl⟩,HG.out⟩⟩
 | some f=>
   have HV2:=aa9 (show eC l=some (f,[]) by rw [HV.out,hU];rfl)
   rw [hU] at hT
   have hT2:cx w1 (W.heap.size+1) (aj f.scopes) (.slice q2 n2 c2) fp:=by simpa using hT
   have HT:=aa9 hT2
   clear hU hT hT2
   have hgw:g < w1.heap.size:=by omega
   have hrw:W.heap.size < w1.heap.size:=by omega
   obtain ⟨X,hX⟩: ∃ X,X=w1.alloc (.cells #[.bool f.on,.slice q2 n2 c2] 27):=⟨_,rfl⟩
   have k2:X.cell? ⟨g,0,none⟩=some (.slice p l.length c):=by rw [hX,World.cell?_alloc_lt _ _ ⟨g,0,none⟩ hgw];exact k1
   have f2:X.frozen? ⟨g,0,none⟩=false:=by rw [hX,World.frozen?_alloc_old _ _ ⟨g,0,none⟩ (Nat.ne_of_lt hgw)];exact f1
   have hcs: ∀ (b j:Nat) (v:Value),b ≠ g→X.cell? ⟨b,j,none⟩=some v→(X.setCell ⟨g,0,none⟩ (.slice none 0 0)).cell? ⟨b,j,none⟩=some v:=fun b j v hb hc=>(World.cell?_setCell_other X _ _ _ (by intro e;injection e with e _;exact hb e.symm)).trans hc
   have y0:=hcs w1.heap.size 0 (.bool f.on) (by omega) (by rw [hX];simp)
   have y1:=hcs w1.heap.size 1 (.slice q2 n2 c2) (by omega) (by rw [hX];simp)
   have y2:=hcs W.heap.size 0 (.bool false) (by omega) (by rw [hX,World.cell?_alloc_lt _ _ ⟨W.heap.size,0,none⟩ hrw];exact r0)
   have y3:=hcs W.heap.size 1 (.slice none 0 0) (by omega) (by rw [hX,World.cell?_alloc_lt _ _ ⟨W.heap.size,1,none⟩ hrw];exact r1)
   have y4:(X.setCell ⟨g,0,none⟩ (.slice none 0 0)).frozen? ⟨W.heap.size,0,none⟩=false:=by rw [World.frozen?_setCell,hX,World.frozen?_alloc_old _ _ ⟨W.heap.size,0,none⟩ (Nat.ne_of_lt hrw)];exact z0
   have y5:(X.setCell ⟨g,0,none⟩ (.slice none 0 0)).frozen? ⟨W.heap.size,1,none⟩=false:=by rw [World.frozen?_setCell,hX,World.frozen?_alloc_old _ _ ⟨W.heap.size,1,none⟩ (Nat.ne_of_lt hrw)];exact z1
   have HBX:=aa9 (show Below w1.heap.size w1 X by rw [hX];exact (Below.refl _ _).alloc (Nat.le_refl _) _)
   have HD:=aa9 ((H.out.below (B1.out.trans (HBX.out.mono (by omega)))).set (p:=none) (r:=[]) (c:=0) ⟨none,0,rfl,.inl rfl⟩ (by simp) (by simp) (by simp))
   have HG:=aa9 (((ac.of_below (fp:=[g]) (B1.out.trans (HBX.out.mono (by omega)))).trans (ac.set (g:=g) (i:=0) (u:= .slice none 0 0) (by simp))))
   clear hcs r0 r1 z0 z1 k1 f1
   go_wp2_with fail
   rw [←hX]
   refine (aI _ _).mono ?_
   rintro e w3 ⟨rfl,rfl⟩
   have HX2:=aa9 hX
   clear hX
   have hw0:=H.out.bel.size
   have HD2:=aa9 ((HD.out.other (b:=W.heap.size) (j:=0) (v:= .bool f.on) hw0 (by omega)).other (b:=W.heap.size) (j:=1) (v:= .slice q2 n2 c2) hw0 (by omega))
   have HG2:=aa9 ((HG.out.setN (b:=W.heap.size) (j:=0) (v:= .bool f.on) (Nat.le_refl _)).setN (b:=W.heap.size) (j:=1) (v:= .slice q2 n2 c2) (Nat.le_refl _))
   have HT2:=aa9 ((((HT.out.below HBX.out).apart (ac.set (g:=g) (i:=0) (u:= .slice none 0 0) (List.mem_singleton.2 rfl)) (fun k hk=>by have:=HT.out.low k hk;simp;omega)).apart (ac.set (g:=W.heap.size) (i:=0) (u:= .bool f.on) (List.mem_singleton.2 rfl)) (fun k hk=>by have:=HT.out.low k hk;simp;omega)).apart (ac.set (g:=W.heap.size) (i:=1) (u:= .slice q2 n2 c2) (List.mem_singleton.2 rfl)) (fun k hk=>by have:=HT.out.low k hk;simp;omega))
   have zc0:((X.setCell ⟨g,0,none⟩ (.slice none 0 0)).setCell ⟨W.heap.size,0,none⟩ (.bool f.on)).cell? ⟨W.heap.size,0,none⟩=some (.bool f.on):=World.cell?_setCell_same _ _ _ y2
   have zc1:(((X.setCell ⟨g,0,none⟩ (.slice none 0 0)).setCell ⟨W.heap.size,0,none⟩ (.bool f.on)).setCell ⟨W.heap.size,1,none⟩ (.slice q2 n2 c2)).cell? ⟨W.heap.size,1,none⟩=some (.slice q2 n2 c2):=World.cell?_setCell_same _ _ _ (u:= .slice none 0 0) ((World.cell?_setCell_other _ _ _ _ (by intro e;injection e with _ e;cases e)).trans y3)
   go_wp2
   refine bodyPost_ret (v:= .agg #[.bool f.on,.slice q2 n2 c2]) (by simp [results,Tryz.results130,go_sem,zc0,zc1]) rfl ?_
   rw [HV2.out]
   exact RP.some_ ⟨_,rfl,⟨_,fp,rfl,⟨HT2.out.is,HT2.out.nodup,fun k hk=>by have:=HT2.out.low k hk;omega⟩⟩,HD2.out,HG2.out⟩
end Go.Proofs.YtmlgkoeacbeopaaGreatDoor
