/- Uj -/
import Derived.Maps.RangeWalk
import Derived.Deep.LoopGhost
import Derived.Laws.CopyOwn
import Derived.Test.YtmlgkoeacbeopaaGreatDoorUg
namespace Go.Proofs.YtmlgkoeacbeopaaGreatDoor
open Go.RowKit
theorem aw {P:Program} {Q:Exit→Act→World→Prop} {c:Code} {a:Act} {w:World} (h: ∀ X,X=w→c.wp P Q a X):c.wp P Q a w:=h w rfl
structure ct (T:TypeId) (w X:World) (A R O:Array Value):Prop where
 a:X.heap[w.heap.size]? =some (.cells A T (0,0))
 r:X.heap[w.heap.size+1]? =some (.cells R T (0,0))
 o:X.heap[w.heap.size+1+1]? =some (.cells O T (0,0))
 b:Below w.heap.size w X
 z:w.heap.size+3≤X.heap.size
theorem ct.of {T:TypeId} {w X:World} {A R O:Array Value} (h:X=((w.alloc (.cells A T)).alloc (.cells R T)).alloc (.cells O T)):ct T w X A R O:=by
 subst h
 refine ⟨?_,?_,?_,(((Below.refl _ _).alloc (Nat.le_refl _) _).alloc (by simp) _).alloc (by simp;omega) _,by simp⟩
 · exact ((Below.heap_alloc _ _ _ (by simp;omega)).trans (Below.heap_alloc _ _ _ (by simp))).trans (heap_alloc_new w _)
 · have h1:=heap_alloc_new (w.alloc (.cells A T)) (.cells R T)
   rw [World.size_alloc] at h1
   exact (Below.heap_alloc _ _ _ (by simp)).trans h1
 · have h1:=heap_alloc_new ((w.alloc (.cells A T)).alloc (.cells R T)) (.cells O T)
   rw [World.size_alloc,World.size_alloc] at h1
   exact h1
theorem ct.drew {T:TypeId} {w X:World} {A R O:Array Value} (h:ct T w X A R O):ct T w X.drew A R O:=⟨h.a,h.r,h.o,h.b.drew,h.z⟩
theorem ct.call {T:TypeId} {w X X':World} {A R O:Array Value} (h:ct T w X A R O) (b:Below X.heap.size X X'):ct T w X' A R O:=by
 have:=h.z
 exact ⟨(b.block _ (by omega)).trans h.a,(b.block _ (by omega)).trans h.r,(b.block _ (by omega)).trans h.o,h.b.trans (b.mono (by omega)),Nat.le_trans h.z b.size⟩
theorem ct.setO {T:TypeId} {w X:World} {A R O:Array Value} (h:ct T w X A R O) (j:Nat) (u:Value):ct T w (X.setCell ⟨w.heap.size+1+1,j,none⟩ u) A R (O.setIfInBounds j u):=
 ⟨(aD (by omega)).trans h.a,(aD (by omega)).trans h.r,bz h.o,⟨h.b.os,h.b.tape,h.b.output,by have:=h.b.size;simpa [World.setCell] using this,fun k hk=>(aD (by omega)).trans (h.b.block k hk)⟩,by have:=h.z;simpa [World.setCell] using this⟩
theorem ct.setR {T:TypeId} {w X:World} {A R O:Array Value} (h:ct T w X A R O) (V:Array Value):ct T w (X.setRow (w.heap.size+1) V) A V O:=
 ⟨(setRow_other _ _ _ _ (by omega)).trans h.a,setRow_heap _ _ _ _ _ _ h.r,(setRow_other _ _ _ _ (by omega)).trans h.o,⟨h.b.os,h.b.tape,h.b.output,by have:=h.b.size;simpa [World.setRow] using this,fun k hk=>(setRow_other _ _ _ _ (by omega)).trans (h.b.block k hk)⟩,by have:=h.z;simpa [World.setRow] using this⟩
theorem aY {P:Program} {o:Oper} {a:Act} {w:World} {K:Act→World→Prop} {Q:Exit→Act→World→Prop} (ty:TypeId) (x y:Operand) (ho:o.op= .store ty x y)
 (g j:Nat) (v:Value) (hx:a.eval x= .pointer (some ⟨g,j,none⟩)) (hy:a.eval y=v) (cs:Array Value) (T:TypeId) (hg:w.heap[g]? =some (.cells cs T (0,0))) (hj:j < cs.size)
 (hi:(P.info? ty).map (·.size)=some 1) (hv:v.cells= #[v]) (h1:v.oneCell'=true) (h: ∀ X,X=w.setCell ⟨g,j,none⟩ v→K (a.put o.dst undef) X):o.wp P a w K Q:=by
 have hs:(storeVar ty ⟨g,j,none⟩ v).run P w= .ok () (w.setCell ⟨g,j,none⟩ v):=by
  have hc:w.cell? ⟨g,j,none⟩=some cs[j]:=(aa8 hg j).trans (by simp [hj])
  have hf:=Lib.frozen_of_heap hg j
  cases hq:P.info? ty with
  | none=>simp [hq] at hi
  | some i=>
    have hsz:i.size=1:=by simpa [hq] using hi
    simp [storeVar,sizeOf,typeInfo,hq,hv,hsz,storeCells,Addr.add,run_store _ _ _ _ _ h1,hc,hf,Result.andThen]
 unfold Oper.wp execOp
 simp only [ho,hx,hy,Instr.storeAt,Instr.sureAddr,Sem.run_bind,Sem.run_pure,Result.andThen_ok,hs]
 exact h _ rfl
theorem ap.bndO {x:ap} (h:bs x.lf):bW x.kind∧bW x.op∧bW x.flags∧(∀ t∈x.sset,rgS t)∧ ∀ s∈x.filter.scopes,bW s.kind∧bW s.events:=by
 obtain ⟨_,h1,_,_,_,h5,h6,h7,_,_,h10,_⟩:=h
 refine ⟨h1,h6,h7,fun t ht=> ?_,fun s hs=> ?_⟩
 · obtain ⟨a,b,_⟩:=bs.flat h5.2 t ht
   exact ⟨a,b⟩
 · obtain ⟨a,_,b,_⟩:=bs.flat h10.2 s hs
   exact ⟨a,b⟩
theorem np {W:World} {l:List Spn} {v:Value} (h:az W (am l) v):Rd 2 je W v l:=by
 obtain ⟨p,c,rfl,h2⟩:=Spn.at h
 refine ⟨p,c,rfl,h2.imp id ?_⟩
 rintro ⟨b,off,rfl,hb,hc⟩
 refine ⟨b,off,rfl,hb,fun i x hx j u hu=> ?_⟩
 obtain ⟨h0,h1⟩:=hc i x hx
 match j,hu with
 | 0,hu=>cases hu;exact h0
 | 1,hu=>cases hu;exact h1
theorem ax {P:Program} {o:Oper} {a:Act} {w:World} {K:Act→World→Prop} {Q:Exit→Act→World→Prop} (ty:TypeId) (x y:Operand) (ho:o.op= .store ty x y)
 (g:Nat) (cells:Array Value) (hx:a.eval x= .pointer (some ⟨g,0,none⟩)) (hy:a.eval y= .agg cells)
 (t:TypeId) (old:Array Value) (hg:w.heap[g]? =some (.cells old t (0,0))) (hi:(P.info? ty).map (·.size)=some cells.size)
 (hold:old.size=cells.size) (h1:cells.all (·.oneCell')=true)
 (h: ∀ X,X=w.setRow g cells→K (a.put o.dst undef) X):o.wp P a w K Q:=wp_store_row ty x y ho g cells hx hy t old hg hi hold h1 (h _ rfl)
theorem kg {v:Value} {b c:Bool} (h:b=c):(Ending.returned (.tuple #[v,.bool b]):Ending)= .returned (.tuple #[v,.bool c]):=by rw [h]
def opB (n:Int):Bool:=decide (1≤n) && decide (n≤3)
theorem nq (n:Int):(opT n != [])=opB n:=by
 unfold opT opB
 by_cases h1:n=1
 · subst h1;rfl
 · by_cases h2:n=2
   · subst h2;rfl
   · by_cases h3:n=3
     · subst h3;rfl
     · rw [if_neg h1,if_neg h2,if_neg h3]
       by_cases h4:1≤n
       · rw [decide_eq_true h4,decide_eq_false (show ¬n≤3 by omega)];rfl
       · rw [decide_eq_false h4];rfl
def bO (x:ap):Bool:=
 if x.kind=14 then aH x.box && aH x.dst
 else if x.kind=11 then aH x.box && flB x.flags && decide ((x.text.length:Int)≤40)
 else if x.kind=7 then setB x.sset
 else if x.kind=10 then setB x.sset && aH x.box
 else if x.kind=8 then setB x.sset && opB x.op && flB x.flags
 else if x.kind=6 then aN x.filter
 else if ar x.kind=true then aH x.box
 else true
end Go.Proofs.YtmlgkoeacbeopaaGreatDoor
