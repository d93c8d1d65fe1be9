/- Ub -/
import Derived.Test.YtmlgkoeacbeopaaGreatDoorRows
import Derived.WalkKit
import Derived.WalkSpells
import Derived.WalkLawsBesides
import Derived.Laws.IdiomStrings
import Derived.Lib.Hide
import Derived.Deep.AppendLies
import Derived.OrdersHeld
import Derived.Lib.ItoaNum
import Derived.Lib.ItoaMem
import Derived.Lib.AppendStr
import Derived.Lib.ItoaLen
import Derived.Lib.Strings
import Derived.Lib.Bytealg
import Derived.Lib.OthersKept
import Derived.Laws.RangeAny
import Derived.Test.YtmlgkoeacbeopaaGreatDoorUa
set_option maxHeartbeats 3200000
namespace Go.Proofs.YtmlgkoeacbeopaaGreatDoor
open Go.RowKit
def oL1 : List (Nat × Bool) := [(0, true), (1, true), (2, true), (3, true), (4, true), (5, false), (6, true)]
def oL0 : List (Nat × Bool) := [(0, true), (1, true), (2, true), (3, true), (4, true), (5, true), (6, true), (7, true), (8, true)]
theorem aa9 {p : Prop} (h : p) : RowKit.Hid p := h
abbrev bv (b:UInt8):Value:= .int .u8 (b.toNat:Int)
structure Row (w:World) (g:Nat) (xs:List Value):Prop where
 cell: ∀ j,j < xs.length→w.cell? ⟨g,j,none⟩=xs[j]?
 free: ∀ j,j < xs.length→w.frozen? ⟨g,j,none⟩=false
theorem Row.drew {w:World} {g:Nat} {xs:List Value} (h:Row w g xs):Row w.drew g xs:=⟨h.cell,h.free⟩
theorem Row.lt {w:World} {g:Nat} {xs:List Value} (h:Row w g xs) (hne:0 < xs.length):g < w.heap.size:=by
 have h1:=h.cell 0 hne
 rw [List.getElem?_eq_getElem hne] at h1
 exact World.block_lt_of_cell? w _ h1
theorem Row.set {w:World} {g:Nat} {xs:List Value} (h:Row w g xs) (k:Nat) (hk:k < xs.length) (v:Value):Row (w.setCell ⟨g,k,none⟩ v) g (xs.set k v):=by
 have hc:=h.cell k hk
 rw [List.getElem?_eq_getElem hk] at hc
 constructor
 · intro j hj
   rw [List.length_set] at hj
   by_cases e:j=k
   · subst e
     rw [World.cell?_setCell_same w _ _ hc]
     simp [hk]
   · rw [World.cell?_setCell_other w _ _ _ (by intro hh;injection hh with _ h2;exact e h2.symm)]
     rw [h.cell j hj,List.getElem?_set_ne (Ne.symm e)]
 · intro j hj
   rw [List.length_set] at hj
   have:=h.free j hj
   simpa using this
theorem mb (l:List UInt8) (j:Nat) (hj:j < l.length):(l.map bv)[j]? =some (.int .u8 (l[j].toNat:Int)):=by simp [bv,hj]
theorem mc {P:Program} (w:World) (src dst e:TypeId) (s:ByteArray) (hs:P.underlying src=some .string) (hd:P.underlying dst=some (.slice e)) (he:P.underlying e=some (.int .u8)):
 ∃ cap w1,(convert src dst (.string s)).run P w= .ok (.slice (some ⟨w.heap.size,0,none⟩) s.size cap) w1∧Row w1 w.heap.size (s.data.toList.map bv)∧w1.heap.size=w.heap.size+1∧Below w.heap.size w w1:=by
 refine ⟨_,_,run_bytes_of_string w src dst e s hs hd he,?_,?_,?_⟩
 · generalize grownCap w s.size 0 e=cap
   have hsz:s.data.size≤(bytesRow s cap).size:=by unfold bytesRow;rw [Array.size_append,Array.size_map];omega
   constructor
   · intro j hj
     have hj':j < s.data.size:=by simpa using hj
     have hc:=World.cell?_alloc_mark w.drew (bytesRow s cap) e ((bytesRow s cap).size,(bytesRow s cap).size+1) j
     refine hc.trans ?_
     unfold bytesRow
     rw [Array.getElem?_append_left (by rw [Array.size_map];exact hj'),←Array.toList_map,Array.getElem?_toList]
   · intro j hj
     have hj':j < s.data.size:=by simpa using hj
     refine (World.frozen?_alloc_mark w.drew _ _ _ _ j).trans ?_
     have: ¬(bytesRow s cap).size≤j:=by omega
     simp only [this,decide_false,Bool.false_and]
 · simp [World.alloc]
 · exact ((Below.refl _ _).drew).alloc (Nat.le_refl _) _
structure aax (w:World) (g:Nat) (l:List UInt8):Prop where
 cell: ∀ j,j < l.length→w.cell? ⟨g,j,none⟩=(l.map bv)[j]?
theorem pO {P:Program} {w:World} {g:Nat} {l:List UInt8} (h:aax w g l) (src dst e:TypeId) (n cap:Nat) (hn:l.length=n) (hs:P.underlying src=some (.slice e)) (he:P.underlying e=some (.int .u8)) (hd:P.underlying dst=some .string):
 (convert src dst (.slice (some ⟨g,0,none⟩) n cap)).run P w= .ok (.string ⟨l.toArray⟩) w:=by
 subst hn
 refine run_convert_bytes_back w src dst e ⟨g,0,none⟩ cap l hs he hd (fun j hj=> ?_)
 have:=h.cell j hj
 rw [mb _ _ hj] at this
 rw [Addr.add_lit]
 simpa using this
theorem km {P:Program} {w:World} {g:Nat} {l:List UInt8} (h:Row w g (l.map bv)) (src dst e:TypeId) (n cap:Nat) (hn:l.length=n) (hs:P.underlying src=some (.slice e)) (he:P.underlying e=some (.int .u8)) (hd:P.underlying dst=some .string):
 (convert src dst (.slice (some ⟨g,0,none⟩) n cap)).run P w= .ok (.string ⟨l.toArray⟩) w:=by
 subst hn
 refine run_convert_bytes_back w src dst e ⟨g,0,none⟩ cap l hs he hd (fun j hj=> ?_)
 have hj':j < (l.map bv).length:=by simpa using hj
 have:=h.cell j hj'
 rw [mb _ _ hj] at this
 rw [Addr.add_lit]
 simpa using this
theorem gf {P:Program} (src dst e:TypeId) (hs:P.underlying src=some (.slice e)) (he:P.underlying e=some (.int .u8)) (hd:P.underlying dst=some .string) (n:Int) (h0:0≤n) (h1:n < 256) (cap:Nat)
 (w:World) (g:Nat) (hc:w.cell? ⟨g,0,none⟩=some (.int .u8 n)):
 (convert src dst (.slice (some ⟨g,0,none⟩) 1 cap)).run P w= .ok (.string ⟨#[UInt8.ofNat n.toNat]⟩) w:=by
 have ev:((UInt8.ofNat n.toNat).toNat:Int)=n:=by rw [UInt8.toNat_ofNat_of_lt' (by show n.toNat < 256;omega)];omega
 have hr:aax w g [UInt8.ofNat n.toNat]:=⟨fun j hj=>by
  have:j=0:=by simp at hj;omega
  subst this
  rw [hc]
  simp only [List.map_cons,List.getElem?_cons_zero]
  show some (Value.int .u8 n)=some (Value.int .u8 ((UInt8.ofNat n.toNat).toNat:Int))
  rw [ev]⟩
 exact pO hr src dst e 1 cap rfl hs he hd
theorem hI (s:ByteArray) (k:Nat) (h:k < s.size):s.data.toList.take (k+1)=s.data.toList.take k++[s[k]]:=by
 rw [List.take_succ_eq_append_getElem (by simpa using h)];rfl
theorem cj (s:ByteArray):s.data.toList.take s.size=s.data.toList:=List.take_of_length_le (by simp)
def mid {α:Type} (f:α→α) (l:List α) (k:Nat):List α:=l.mapIdx fun i x=>if i < k then f x else x
theorem kn {α:Type} (f:α→α) (l:List α) (k j:Nat):(mid f l k)[j]? =l[j]?.map fun x=>if j < k then f x else x:=by simp [mid,List.getElem?_mapIdx]
theorem qK {α:Type} (f:α→α) (l:List α):mid f l 0=l:=by
 apply List.ext_getElem?;intro j;rw [kn];cases l[j]? <;> simp
theorem sJ {α:Type} (f:α→α) (l:List α) (k:Nat) (h:l.length≤k):mid f l k=l.map f:=by
 apply List.ext_getElem?;intro j;rw [kn,List.getElem?_map]
 by_cases hj:j < l.length
 · rw [List.getElem?_eq_getElem hj];simp;omega
 · rw [List.getElem?_eq_none (by omega)];rfl
theorem eI {α:Type} (f:α→α) (l:List α) (k:Nat):(mid f l k).length=l.length:=by simp [mid]
theorem sK {α:Type} (f:α→α) (l:List α) (k:Nat) (h:k < l.length):(mid f l k)[k]? =some l[k]:=by
 rw [kn,List.getElem?_eq_getElem h];simp
theorem sL {α:Type} (f:α→α) (l:List α) (k:Nat) (h:k < l.length) (v:α) (hv:v=f l[k]):(mid f l k).set k v=mid f l (k+1):=by
 subst hv
 apply List.ext_getElem?;intro j
 rw [List.getElem?_set,kn,kn,eI]
 by_cases e:k=j
 · subst e;simp [h]
 · rw [if_neg e]
   have:(j < k)=(j < k+1):=by rw [eq_iff_iff];omega
   simp only [this]
theorem qL {α:Type} (f:α→α) (l:List α) (k:Nat) (h:k < l.length) (hv:f l[k]=l[k]):mid f l (k+1)=mid f l k:=by
 apply List.ext_getElem?;intro j
 rw [kn,kn]
 by_cases e:j=k
 · subst e;rw [List.getElem?_eq_getElem h];simp [hv]
 · have:(j < k)=(j < k+1):=by rw [eq_iff_iff];omega
   simp only [this]
structure lP (P:Program) (t e:TypeId) (size bytes:Nat):Prop where
 under:P.underlying t=some (.slice e)
 info: ∃ i z,P.info? e=some i∧i.zero=some z∧i.size=size∧i.bytes=bytes∧z.cells.size=size
 pos:0 < size
theorem lP.mk' {P:Program} {t e:TypeId} {size bytes:Nat} {z:Value} (h:P.underlying t=some (.slice e)) (hi:(P.info? e).map (fun i=>(i.zero,i.size,i.bytes))=some (some z,size,bytes)) (hz:z.cells.size=size) (hp:0 < size):
 lP P t e size bytes:=by
 obtain ⟨i,h1,h2,h3,h4⟩:=info_parts hi
 exact ⟨h,⟨i,z,h1,h2,h3,h4,hz⟩,hp⟩
section
variable {P:Program} {w:World} {ops:Array Oper} {rest:List Oper} {o:Oper} {a:Act} {t e:TypeId} {size bytes B:Nat}
theorem yi {K:Act→World→Prop} {Q:Exit→Act→World→Prop} (E:lP P t e size bytes) (s x:Operand) (ho:o.op= .call { callee:= .builtin .append,args:= #[s,x],argTypes:= #[t,t] })
 (W:World) (v:Value) (n:Nat) (xs:List Value) (hs:a.eval s=v) (hown:w.ownsRow B e size v n xs) (hb:Below B W w) (hB:B≤w.heap.size)
 (ad:Addr) (m c:Nat) (news:List Value) (hx:a.eval x= .slice (some ad) m c) (hl:news.length=m * size) (hnews: ∀ j u,news[j]? =some u→w.cell? (ad.add j)=some u) (h1: ∀ u∈news,u.oneCell'=true)
 (hm:0 < m) (hbytes:(n+m) * bytes≤140737488355328) (h63:n+m≤140737488355328)
 (h: ∀ g cap w',w'.ownsRow B e size (.slice (some ⟨g,0,none⟩) (n+m) cap) (n+m) (xs++news)→Below B W w'→w.grownBy w' v.ownBlock→(v.ownBlock=some g∨g=w.heap.size)→g < w'.heap.size→
  K (a.put o.dst (.slice (some ⟨g,0,none⟩) (n+m) cap)) w'):o.wp P a w K Q:=by
 obtain ⟨ht,⟨i,z,hi,hz,h2,h3,h4⟩,hp⟩:=E
 refine wp_append_lies w s x t ho B e i z size bytes ht hi hz h2 h3 h4 hp v n xs hs hown ad m c news hx hl hnews h1 hm (by unfold maxLen;omega) hbytes hB _ rfl ?_
 intro g cap w' k1 k2 k3 k4
 exact h g cap w' k1 (hb.grown k2 hB (fun k hk=>(hown.lt k hk).1)) k2 k3 k4
theorem sM {K:Act→World→Prop} {Q:Exit→Act→World→Prop} (E:lP P t e size bytes) (s x:Operand) (ho:o.op= .call { callee:= .builtin .append,args:= #[s,x],argTypes:= #[t,t] })
 (W w0:World) (v:Value) (n:Nat) (xs:List Value) (hs:a.eval s=v) (hown:w0.ownsRow B e size v n xs) (hb:Below B W w0) (hB:B≤w0.heap.size)
 (cs:Array Value) (hw:w=(w0.alloc (.cells cs e)).drew∨w=w0.alloc (.cells cs e)) (m c:Nat) (hx:a.eval x= .slice (some ⟨w0.heap.size,0,none⟩) m c) (hl:cs.size=m * size) (h1:cs.all (·.oneCell')=true)
 (hm:0 < m) (hbytes:(n+m) * bytes≤140737488355328) (h63:n+m≤140737488355328)
 (h: ∀ g cap w',w'.ownsRow B e size (.slice (some ⟨g,0,none⟩) (n+m) cap) (n+m) (xs++cs.toList)→Below B W w'→w0.grownBy w' v.ownBlock→(v.ownBlock=some g∨w0.heap.size≤g)→g < w'.heap.size→
  K (a.put o.dst (.slice (some ⟨g,0,none⟩) (n+m) cap)) w'):o.wp P a w K Q:=by
 have hsz:w.heap.size=w0.heap.size+1:=by rcases hw with rfl | rfl <;> simp
 have hblk:w.heap[w0.heap.size]? =some (.cells cs e (0,0)):=by
  rcases hw with rfl | rfl <;> exact heap_alloc_new w0 _
 have hb':Below B W w:=by
  rcases hw with rfl | rfl
  · exact (hb.alloc hB _).drew
  · exact hb.alloc hB _
 have hown':w.ownsRow B e size v n xs:=by
  rcases hw with rfl | rfl
  · exact (hown.alloc _).drew
  · exact hown.alloc _
 have hold: ∀ k,k < w0.heap.size→w.heap[k]? =w0.heap[k]? :=by
  intro k hk
  rcases hw with rfl | rfl
  · exact Below.heap_alloc w0 _ k hk
  · exact Below.heap_alloc w0 _ k hk
 have hgen:w.os=w0.os∧w.tape=w0.tape∧w.output=w0.output:=by rcases hw with rfl | rfl <;> exact ⟨rfl,rfl,rfl⟩
 refine yi E s x ho W v n xs hs hown' hb' (by omega) ⟨w0.heap.size,0,none⟩ m c cs.toList hx (by simpa using hl) (World.news_of_block hblk) (fun u hu=>by
  simp only [Array.all_eq_true'] at h1
  exact h1 u (by simpa using hu)) hm hbytes h63 ?_
 intro g cap w' k1 k2 k3 k4 k5
 refine h g cap w' k1 k2 ⟨k3.os.trans hgen.1,k3.tape.trans hgen.2.1,k3.output.trans hgen.2.2,by have:=k3.size;omega,fun k hk hne=>(k3.block k (by omega) hne).trans (hold k hk)⟩ ?_ k5
 rcases k4 with k4 | k4
 · exact .inl k4
 · exact .inr (by omega)
theorem aE {Q:Exit→Act→World→Prop} (E:lP P t e size bytes) (hgd:o.guard=none) (s x:Operand) (ho:o.op= .call { callee:= .builtin .append,args:= #[s,x],argTypes:= #[t,t] })
 (W w0:World) (v:Value) (n:Nat) (xs:List Value) (hs:a.eval s=v) (hown:w0.ownsRow B e size v n xs) (hb:Below B W w0) (hB:B≤w0.heap.size)
 (cs:Array Value) (hw:w=(w0.alloc (.cells cs e)).drew∨w=w0.alloc (.cells cs e)) (m c:Nat) (hx:a.eval x= .slice (some ⟨w0.heap.size,0,none⟩) m c) (hl:cs.size=m * size) (h1:cs.all (·.oneCell')=true)
 (hm:0 < m) (hbytes:(n+m) * bytes≤140737488355328) (h63:n+m≤140737488355328)
 (h: ∀ g cap w',w'.ownsRow B e size (.slice (some ⟨g,0,none⟩) (n+m) cap) (n+m) (xs++cs.toList)→Below B W w'→w0.grownBy w' v.ownBlock→(v.ownBlock=some g∨w0.heap.size≤g)→g < w'.heap.size→
  wpList P ops Q rest (a.put o.dst (.slice (some ⟨g,0,none⟩) (n+m) cap)) w'):wpList P ops Q (o::rest) a w:=
 wpList_plain hgd fun _ hK=>sM E s x ho W w0 v n xs hs hown hb hB cs hw m c hx hl h1 hm hbytes h63 fun g cap w' k1 k2 k3 k4 k5=>hK _ _ (h g cap w' k1 k2 k3 k4 k5)
end
theorem fc {P:Program} (w:World) (src dst e:TypeId) (hs:P.underlying src=some (.slice e)) (he:P.underlying e=some (.int .u8)) (hd:P.underlying dst=some .string):
 (convert src dst (.slice none 0 0)).run P w= .ok (.string ⟨#[]⟩) w:=by
 rw [run_convert_bytes_string w src dst e none 0 0 hs he hd]
 rfl
theorem mM {P:Program} {w:World} {B n:Nat} {v:Value} {l:List UInt8} (src dst e:TypeId) (h:w.ownsRow B e 1 v n (l.map bv)) (hn:l.length=n) (hs:P.underlying src=some (.slice e)) (he:P.underlying e=some (.int .u8)) (hd:P.underlying dst=some .string):
 (convert src dst v).run P w= .ok (.string ⟨l.toArray⟩) w:=by
 rcases h.2 with ⟨rfl,h0⟩ | ⟨g,cap,cur,hv,hb,hg,hnc,hcm,hsz,htk⟩
 · subst h0
   obtain rfl:=List.eq_nil_of_length_eq_zero hn
   exact fc w src dst e hs he hd
 · subst hv
   exact km (w:=w) (g:=g) (l:=l) ⟨fun j hj=>h.cellAt j (by rw [List.length_map] at hj;omega),fun j _=>h.frozenAt j⟩ src dst e n cap hn hs he hd
theorem Tryz.el_u8:lP Tryz.prog 22 5 1 1:=lP.mk' (z:= .int .u8 0) Tryz.underlying22 (by kernel_rfl) rfl (by omega)
theorem Tryz.el_string:lP Tryz.prog 100 9 1 16:=lP.mk' (z:= .string ⟨#[]⟩) Tryz.underlying100 (by kernel_rfl) rfl (by omega)
def hP:List Oper→Nat→Oper
 | [],_=> { dst:=none,op:= .move (.tmp 0),type:=0,pos:= "",after:= #[],guard:=none }
 | o::_,0=>o
 | _::l,n+1=>hP l n
theorem ae (o:Oper) (l:List Oper):hP (o::l) 0=o:=rfl
theorem ag (o:Oper) (l:List Oper) (n:Nat):hP (o::l) (n+1)=hP l n:=rfl
theorem md: ∀ (l:List Oper) (n:Nat),n < l.length→l[n]? =some (hP l n)
 | o::l,0,_=>rfl
 | o::l,n+1,h=>by simpa [hP] using md l n (by simpa using h)
def vl (ops:Array Oper):List (Nat×Bool)→Array Bool→Bool
 | [],listed=>(Region.ready .any ops listed).isEmpty
 | (i,true)::r,listed=>decide (i < ops.size) && Region.free .any ops listed i && (Region.ready .any ops listed).contains i && vl ops r (listed.setIfInBounds i true)
 | (i,false)::r,listed=>decide (i < ops.size) && Region.ready .any ops listed==[i] && vl ops r (listed.setIfInBounds i true)
def ve (P:Program) (ops:Array Oper) (Q:Exit→Act→World→Prop) (S:World→Prop) (idx:List (Nat×Bool)) (os:List Oper) (a:Act) (w:World):Prop:=
 Region.noSelect ops=true→idx.map (fun x=>hP ops.toList x.1)=os→ ∀ listed,vl ops idx listed=true→wpAnyH P .any ops Q S idx.length listed a w
section
variable {P:Program} {ops:Array Oper} {Q:Exit→Act→World→Prop} {S:World→Prop} {a:Act} {w:World} {i:Nat} {r:List (Nat×Bool)} {o:Oper} {os:List Oper}
theorem ah {id:Nat} (idx:List (Nat×Bool)) (S:World→Prop) (hm:P.follows .mixedOrders=true) (hs:Region.noSelect ops=true) (hl:idx.length=ops.size)
 (hB:vl ops idx (Array.replicate ops.size false)=true)
 (h: ∀ ops',Hid (ops'=ops)→ve P ops' Q S idx (idx.map fun x=>hP ops.toList x.1) a w.drew):(Code.region id ops true).wp P Q a w:=
 wp_region_held hm (by have:=h ops rfl hs rfl _ hB;rw [hl] at this;exact this)
theorem qM (hi:i < ops.size) (ho:hP ops.toList i=o):ops[i]? =some o:=by
 have:=md ops.toList i (by simpa using hi)
 rw [ho] at this
 simpa using this
theorem aa (v:Value) (hQ: ∀ c a w,Q (.panic c) (a.put o.dst v) w→Q (.panic c) a w) (hw:Region.wanted o (yielded ops a.tmps)=true)
 (hy: ∀ w,S w→(execOp a.eval o).run P w= .ok (.value v) w) (hS:S w)
 (h:ve P ops Q S r os (a.put o.dst v) w):ve P ops Q S ((i,true)::r) (o::os) a w:=by
 intro hs ho listed hB
 simp only [List.map_cons,List.cons.injEq] at ho
 simp only [vl,Bool.and_eq_true,decide_eq_true_eq] at hB
 obtain ⟨⟨⟨h1,h2⟩,h3⟩,h4⟩:=hB
 exact wpAnyH_take (qM h1 ho.1) hs h2 h3 hQ (.inl ⟨hw,hy⟩) hS (h hs ho.2 _ h4)
theorem aJ (hQ: ∀ c a w,Q (.panic c) (a.put o.dst undef) w→Q (.panic c) a w) (hw:Region.wanted o (yielded ops a.tmps)=false) (hS:S w)
 (h:ve P ops Q S r os (a.put o.dst undef) w):ve P ops Q S ((i,true)::r) (o::os) a w:=by
 intro hs ho listed hB
 simp only [List.map_cons,List.cons.injEq] at ho
 simp only [vl,Bool.and_eq_true,decide_eq_true_eq] at hB
 obtain ⟨⟨⟨h1,h2⟩,h3⟩,h4⟩:=hB
 exact wpAnyH_take (qM h1 ho.1) hs h2 h3 hQ (.inr ⟨hw,rfl⟩) hS (h hs ho.2 _ h4)
theorem al (hw:Region.wanted o (yielded ops a.tmps)=true) (h:o.wp P a w (fun a' w'=>S w'∧ve P ops Q S r os a' w') Q):ve P ops Q S ((i,false)::r) (o::os) a w:=by
 intro hs ho listed hB
 simp only [List.map_cons,List.cons.injEq] at ho
 simp only [vl,Bool.and_eq_true,decide_eq_true_eq,beq_iff_eq] at hB
 obtain ⟨⟨h1,h2⟩,h4⟩:=hB
 refine wpAnyH_all h2 (by simp) (fun j hj=> ?_)
 simp only [List.mem_singleton] at hj
 subst hj
 unfold wpOp
 simp only [qM h1 ho.1,hw,if_true]
 exact .inl (Oper.wp_mono (fun a' w' hh=>⟨hh.1,hh.2 hs ho.2 _ h4⟩) h)
theorem bD (hS:S w) (hw:Region.wanted o (yielded ops a.tmps)=false) (h:ve P ops Q S r os (a.put o.dst undef) w):ve P ops Q S ((i,false)::r) (o::os) a w:=by
 intro hs ho listed hB
 simp only [List.map_cons,List.cons.injEq] at ho
 simp only [vl,Bool.and_eq_true,decide_eq_true_eq,beq_iff_eq] at hB
 obtain ⟨⟨h1,h2⟩,h4⟩:=hB
 refine wpAnyH_all h2 (by simp) (fun j hj=> ?_)
 simp only [List.mem_singleton] at hj
 subst hj
 unfold wpOp
 simp only [qM h1 ho.1,hw,Bool.false_eq_true,if_false]
 exact ⟨hS,h hs ho.2 _ h4⟩
theorem ai (h:Q .normal a w):ve P ops Q S [] [] a w:=by
 intro _ _ listed hB
 simp only [vl,List.isEmpty_iff] at hB
 exact wpAnyH_done hB h _
end
theorem br {ops' ops:Array Oper} (h:Hid (ops'=ops)) (i:Nat):ops'[i]? =ops[i]? :=by rw [h.out]
inductive fd where
 | nil:fd
 | flo:Nat→fd→fd
 | ev:Nat→fd→fd
 | fork:Nat→fd→Nat→fd→fd
def fd.len:fd→Nat
 | .nil=>0
 | .flo _ r=>r.len+1
 | .ev _ r=>r.len+1
 | .fork _ r _ _=>r.len+1
def vf (ops:Array Oper):fd→Array Bool→Bool
 | .nil,listed=>(Region.ready .any ops listed).isEmpty
 | .flo i r,listed=>Region.free .any ops listed i && (Region.ready .any ops listed).contains i && vf ops r (listed.setIfInBounds i true)
 | .ev i r,listed=>Region.ready .any ops listed==[i] && vf ops r (listed.setIfInBounds i true)
 | .fork i r j q,listed=>Region.ready .any ops listed==[i,j] && r.len==q.len && vf ops r (listed.setIfInBounds i true) && vf ops q (listed.setIfInBounds j true)
def sN (P:Program) (ops:Array Oper) (Q:Exit→Act→World→Prop) (S:World→Prop) (t:fd) (a:Act) (w:World):Prop:=
 Region.noSelect ops=true→ ∀ listed,vf ops t listed=true→wpAnyH P .any ops Q S t.len listed a w
section
variable {P:Program} {ops:Array Oper} {Q:Exit→Act→World→Prop} {S:World→Prop} {a:Act} {w:World} {i j:Nat} {r q:fd}
theorem jf {id:Nat} (t:fd) (S:World→Prop) (hm:P.follows .mixedOrders=true) (hs:Region.noSelect ops=true) (hl:t.len=ops.size)
 (hB:vf ops t (Array.replicate ops.size false)=true)
 (h: ∀ ops',Hid (ops'=ops)→sN P ops' Q S t a w.drew):(Code.region id ops true).wp P Q a w:=
 wp_region_held hm (by have:=h ops rfl hs _ hB;rw [hl] at this;exact this)
theorem aB (o:Oper) (hi:ops[i]? =some o) (v:Value) (hQ: ∀ c a w,Q (.panic c) (a.put o.dst v) w→Q (.panic c) a w) (hw:Region.wanted o (yielded ops a.tmps)=true)
 (hy: ∀ w,S w→(execOp a.eval o).run P w= .ok (.value v) w) (hS:S w) (h:sN P ops Q S r (a.put o.dst v) w):sN P ops Q S (.flo i r) a w:=by
 intro hs listed hB
 simp only [vf,Bool.and_eq_true] at hB
 obtain ⟨⟨h2,h3⟩,h4⟩:=hB
 exact wpAnyH_take hi hs h2 h3 hQ (.inl ⟨hw,hy⟩) hS (h hs _ h4)
theorem cP (o:Oper) (hi:ops[i]? =some o) (hw:Region.wanted o (yielded ops a.tmps)=true) (h:o.wp P a w (fun a' w'=>S w'∧sN P ops Q S r a' w') Q):sN P ops Q S (.ev i r) a w:=by
 intro hs listed hB
 simp only [vf,Bool.and_eq_true,beq_iff_eq] at hB
 obtain ⟨h2,h4⟩:=hB
 refine wpAnyH_all h2 (by simp) (fun k hk=> ?_)
 simp only [List.mem_singleton] at hk
 subst hk
 unfold wpOp
 simp only [hi,hw,if_true]
 exact .inl (Oper.wp_mono (fun a' w' hh=>⟨hh.1,hh.2 hs _ h4⟩) h)
theorem ia (o o2:Oper) (hi:ops[i]? =some o) (hj:ops[j]? =some o2) (hw:Region.wanted o (yielded ops a.tmps)=true) (hw2:Region.wanted o2 (yielded ops a.tmps)=true)
 (h:o.wp P a w (fun a' w'=>S w'∧sN P ops Q S r a' w') Q) (h2:o2.wp P a w (fun a' w'=>S w'∧sN P ops Q S q a' w') Q):sN P ops Q S (.fork i r j q) a w:=by
 intro hs listed hB
 simp only [vf,Bool.and_eq_true,beq_iff_eq] at hB
 obtain ⟨⟨⟨h3,h6⟩,h4⟩,h5⟩:=hB
 refine wpAnyH_all h3 (by simp) (fun k hk=> ?_)
 simp only [List.mem_cons,List.not_mem_nil,or_false] at hk
 rcases hk with rfl | rfl
 · unfold wpOp
   simp only [hi,hw,if_true]
   exact .inl (Oper.wp_mono (fun a' w' hh=>⟨hh.1,hh.2 hs _ h4⟩) h)
 · unfold wpOp
   simp only [hj,hw2,if_true]
   refine .inl (Oper.wp_mono (fun a' w' hh=>⟨hh.1,?_⟩) h2)
   have:=hh.2 hs _ h5
   rwa [←h6] at this
theorem d8 (h:Q .normal a w):sN P ops Q S .nil a w:=by
 intro _ listed hB
 simp only [vf,List.isEmpty_iff] at hB
 exact wpAnyH_done hB h _
end
section
variable {P:Program} {ops:Array Oper} {Q:Exit→Act→World→Prop} {S:World→Prop} {a:Act} {w:World} {i j k:Nat} {r:fd}
def yk (P:Program) (ops:Array Oper) (Q:Exit→Act→World→Prop) (S T:World→Prop) (ok:Oper) (r:fd) (a1:Act) (w1:World):Prop:=
 Region.wanted ok (yielded ops a1.tmps)=true∧ok.wp P a1 w1 (fun a2 w2=>(T w2∧S w2)∧sN P ops Q S r a2 w2) Q
theorem yk.of {ok:Oper} {T:World→Prop} {a1:Act} {w1:World} (h1:Region.wanted ok (yielded ops a1.tmps)=true) (h2:ok.wp P a1 w1 (fun a2 w2=>(T w2∧S w2)∧sN P ops Q S r a2 w2) Q):yk P ops Q S T ok r a1 w1:=⟨h1,h2⟩
end
abbrev sv (l:List UInt8):Value:= .string ⟨l.toArray⟩
theorem mN (s:ByteArray):sv s.data.toList= .string s:=by cases s;simp [sv]
structure Rd1 {α:Type} (enc:α→Value) (w:World) (v:Value) (l:List α):Prop where
 ex: ∃ p cap,v= .slice p l.length cap∧(l=[]∨ ∃ b off,p=some ⟨b,off,none⟩∧b < w.heap.size∧ ∀ i x,l[i]? =some x→w.cell? ⟨b,off+i,none⟩=some (enc x))
theorem Rd1.below {α:Type} {enc:α→Value} {w w':World} {v:Value} {l:List α} (h:Rd1 enc w v l) (hb:Below w.heap.size w w'):Rd1 enc w' v l:=by
 obtain ⟨p,cap,hv,h | ⟨b,off,hp,hlt,hc⟩⟩:=h.ex
 · exact ⟨p,cap,hv,.inl h⟩
 · exact ⟨p,cap,hv,.inr ⟨b,off,hp,Nat.lt_of_lt_of_le hlt hb.size,fun i x hx=>(hb.cell (p:=⟨b,off+i,none⟩) hlt).trans (hc i x hx)⟩⟩
theorem ao {w w':World} {B n size:Nat} {e:TypeId} {v:Value} {xs:List Value} (h:w.ownsRow B e size v n xs) (hb:Below w.heap.size w w'):w'.ownsRow B e size v n xs:=by
 refine ⟨h.1,?_⟩
 rcases h.2 with h0 | ⟨g,cap,cur,hv,h1,h2,h3⟩
 · exact .inl h0
 · exact .inr ⟨g,cap,cur,hv,h1,(hb.block g (Array.getElem?_eq_some_iff.1 h2).1).trans h2,h3⟩
theorem Rd1.of_own {α:Type} {enc:α→Value} {w:World} {B n:Nat} {e:TypeId} {v:Value} {l:List α} (h:w.ownsRow B e 1 v n (l.map enc)):Rd1 enc w v l:=by
 have hn:l.length=n:=by have:=h.1;simpa using this
 rcases h.2 with ⟨hv,h0⟩ | ⟨g,cap,cur,hv,h1,h2,h3⟩
 · subst h0
   have:l=[]:=List.eq_nil_of_length_eq_zero hn
   subst this
   exact ⟨none,0,by rw [hv];rfl,.inl rfl⟩
 · subst hn
   subst hv
   refine ⟨_,cap,rfl,.inr ⟨g,0,rfl,(Array.getElem?_eq_some_iff.1 h2).1,fun i x hx=> ?_⟩⟩
   have hi:i < l.length:=(List.getElem?_eq_some_iff.1 hx).1
   rw [Nat.zero_add,h.cellAt i (by omega),List.getElem?_map,hx]
   rfl
theorem Rd1.nil {α:Type} {enc:α→Value} {w:World} :Rd1 enc w (.slice none 0 0) ([]:List α):=⟨none,0,rfl,.inl rfl⟩
theorem pP {w w1 w2:World} {row:Option Nat} (h:w.grownBy w1 row) (hb:Below w1.heap.size w1 w2):w.grownBy w2 row:=
 ⟨hb.os.trans h.os,hb.tape.trans h.tape,hb.output.trans h.output,Nat.le_trans h.size hb.size,fun k hk hne=>(hb.block k (Nat.lt_of_lt_of_le hk h.size)).trans (h.block k hk hne)⟩
theorem d9 {w w1 w2:World} {row:Option Nat} (h:w.grownBy w1 row) (hg:w1.grownBy w2 row):w.grownBy w2 row:=
 ⟨hg.os.trans h.os,hg.tape.trans h.tape,hg.output.trans h.output,Nat.le_trans h.size hg.size,fun k hk hne=>(hg.block k (Nat.lt_of_lt_of_le hk h.size) hne).trans (h.block k hk hne)⟩
theorem wZ {w w1 w2:World} {row:Option Nat} {B:Nat} (h:Below B w w1) (hg:w1.grownBy w2 row) (hB:B≤w1.heap.size) (hr: ∀ k,row=some k→B≤k):Below B w w2:=h.grown hg hB hr
def mO (G:World→Prop):Prop:= ∀ w w':World,G w→Below w.heap.size w w'→G w'
theorem xY:mO (fun _=>True):=fun _ _ _ _=>trivial
theorem mO.and {G K:World→Prop} (hG:mO G) (hK:mO K):mO (fun W=>G W∧K W):=fun w w' h hb=>⟨hG w w' h.1 hb,hK w w' h.2 hb⟩
end Go.Proofs.YtmlgkoeacbeopaaGreatDoor
namespace Go.Proofs.YtmlgkoeacbeopaaGreatDoor
open Go.RowKit
open Go.Lib (decDigits itoa)
theorem ko {α:Type} {P:List α→Prop} (nil:P []) (snoc: ∀ (l:List α) (b:α),P l→P (l++[b])) (l:List α):P l:=by
 have h: ∀ r:List α,P r.reverse:=by
  intro r
  induction r with
  | nil=>exact nil
  | cons b r ih=>rw [List.reverse_cons];exact snoc _ _ ih
 have:=h l.reverse
 rwa [List.reverse_reverse] at this
def isd (b:UInt8):Bool:=decide (48≤b.toNat) && decide (b.toNat≤57)
def dv (l:List UInt8):Nat:=l.foldl (fun n b=>10 * n+(b.toNat - 48)) 0
def jg (l:List UInt8):Bool:=l.all isd && !l.isEmpty && (decide (l.length=1) || l.head? != some 48)
def eJ (l:List UInt8):Option Nat:=if jg l=true∧dv l≤999999999 then some (dv l) else none
theorem wJ:dv []=0:=rfl
theorem jh (l:List UInt8) (b:UInt8):dv (l++[b])=10 * dv l+(b.toNat - 48):=by simp [dv]
theorem me (b:UInt8) (h:isd b=true):UInt8.ofNat (48+(b.toNat - 48))=b:=by
 simp only [isd,Bool.and_eq_true,decide_eq_true_eq] at h
 rw [show 48+(b.toNat - 48)=b.toNat from by omega]
 simp
theorem j8 (b:UInt8) (h:isd b=true):b.toNat - 48 < 10:=by
 simp only [isd,Bool.and_eq_true,decide_eq_true_eq] at h;omega
theorem nU (k:Nat) (h:k < 10):isd (UInt8.ofNat (48+k))=true∧(UInt8.ofNat (48+k)).toNat=48+k:=by
 have e:(UInt8.ofNat (48+k)).toNat=48+k:=UInt8.toNat_ofNat_of_lt' (by show 48+k < 256;omega)
 refine ⟨?_,e⟩
 simp only [isd,e,Bool.and_eq_true,decide_eq_true_eq];omega
theorem cy {u:Nat} (h:u < 10):decDigits u=[UInt8.ofNat (48+u)]:=by rw [decDigits,dif_pos h]
theorem fe {u:Nat} (h: ¬u < 10):decDigits u=decDigits (u / 10)++[UInt8.ofNat (48+u % 10)]:=by rw [decDigits,dif_neg h]
theorem bl (u:Nat):dv (decDigits u)=u∧(decDigits u).all isd=true∧decDigits u ≠ []∧(0 < u→(decDigits u).head? ≠ some 48):=by
 induction u using Nat.strongRecOn with
 | _ u ih=>
   by_cases h:u < 10
   · obtain ⟨h1,h2⟩:=nU u h
     rw [cy h]
     generalize UInt8.ofNat (48+u)=c at h1 h2 ⊢
     refine ⟨by simp [dv,h2],by simp [h1],by simp,fun hp hh=> ?_⟩
     simp only [List.head?_cons,Option.some.injEq] at hh
     have:=congrArg UInt8.toNat hh
     rw [h2] at this
     have e48:(48:UInt8).toNat=48:=rfl
     omega
   · obtain ⟨i1,i2,i3,i4⟩:=ih (u / 10) (by omega)
     obtain ⟨h1,h2⟩:=nU (u % 10) (by omega)
     rw [fe h]
     generalize UInt8.ofNat (48+u % 10)=c at h1 h2 ⊢
     refine ⟨by rw [jh,i1,h2];omega,by simp [List.all_append,i2,h1],by simp,fun _=> ?_⟩
     have:=i4 (by omega)
     cases hd:decDigits (u / 10) with
     | nil=>exact absurd hd i3
     | cons a r=>rw [hd] at this;simpa using this
theorem wK: ∀ (l:List UInt8) (a:UInt8),isd a=true→a ≠ 48→l.all isd=true→10 ^ l.length≤dv (a::l):=by
 intro l
 induction l using ko with
 | nil=>
   intro a ha h48 _
   simp only [isd,Bool.and_eq_true,decide_eq_true_eq] at ha
   have:a.toNat ≠ 48:=fun e=>h48 (UInt8.toNat_inj.1 e)
   simp [dv];omega
 | snoc l b ih=>
   intro a ha h48 hl
   rw [List.all_append,Bool.and_eq_true] at hl
   have:=ih a ha h48 hl.1
   rw [←List.cons_append,jh,List.length_append,Nat.pow_add]
   simp only [List.length_singleton,Nat.pow_one]
   omega
theorem nV: ∀ (l:List UInt8),jg l=true→decDigits (dv l)=l:=by
 intro l
 induction l using ko with
 | nil=>intro h;simp [jg] at h
 | snoc l b ih=>
   intro h
   simp only [jg,Bool.and_eq_true,List.all_append] at h
   obtain ⟨⟨⟨h1,h2⟩,_⟩,h4⟩:=h
   have hb:isd b=true:=by simpa using h2
   rw [jh]
   cases l with
   | nil=>
     have:=j8 b hb
     rw [wJ,Nat.mul_zero,Nat.zero_add,cy this,me b hb]
     rfl
   | cons a r=>
     have ha:a ≠ 48:=by simpa using h4
     simp only [List.all_cons,Bool.and_eq_true] at h1
     have hp:=wK r a h1.1 ha h1.2
     have hp1:1≤10 ^ r.length:=Nat.one_le_pow _ _ (by omega)
     have hd:=j8 b hb
     rw [fe (by omega)]
     have e1:(10 * dv (a::r)+(b.toNat - 48)) / 10=dv (a::r):=by omega
     have e2:(10 * dv (a::r)+(b.toNat - 48)) % 10=b.toNat - 48:=by omega
     rw [e1,e2,me b hb,ih]
     simp only [jg,List.all_cons,h1.1,h1.2,Bool.and_eq_true]
     simp [ha]
theorem sO (u:Nat):jg (decDigits u)=true:=by
 obtain ⟨_,h2,h3,h4⟩:=bl u
 simp only [jg,h2,Bool.true_and,Bool.and_eq_true]
 refine ⟨by cases hd:decDigits u <;> simp_all,?_⟩
 by_cases hu:0 < u
 · simp [h4 hu]
 · have:u=0:=by omega
   subst this
   rw [cy (by omega)];rfl
theorem ib (l:List UInt8):jg l=true↔decDigits (dv l)=l:=by
 constructor
 · exact nV l
 · intro h;rw [←h];exact sO _
theorem sP (l:List UInt8) (h:9 < l.length):eJ l=none:=by
 unfold eJ
 rw [if_neg]
 rintro ⟨hc,hv⟩
 simp only [jg,Bool.and_eq_true] at hc
 obtain ⟨⟨h1,_⟩,h4⟩:=hc
 cases l with
 | nil=>simp at h
 | cons a r=>
   simp only [List.length_cons] at h
   have ha:a ≠ 48:=by
    intro e;subst e
    simp at h4
    subst h4
    simp at h
   simp only [List.all_cons,Bool.and_eq_true] at h1
   have hp:=wK r a h1.1 ha h1.2
   have:10 ^ 9≤10 ^ r.length:=Nat.pow_le_pow_right (by omega) (by omega)
   omega
theorem zl:eJ []=none:=rfl
theorem sQ: ∀ (l:List UInt8),l.all isd=true→dv l < 10 ^ l.length:=by
 intro l
 induction l using ko with
 | nil=>intro _;simp [dv]
 | snoc l b ih=>
   intro h
   rw [List.all_append,Bool.and_eq_true] at h
   have:=ih h.1
   have hb:=j8 b (by simpa using h.2)
   rw [jh,List.length_append,Nat.pow_add]
   simp only [List.length_singleton,Nat.pow_one]
   omega
def upc (b:UInt8):UInt8:=if 97≤b.toNat∧b.toNat≤122 then b - 32 else b
def an (l:List UInt8):List UInt8:=l.map upc
theorem sR (b:UInt8) (h1:97≤(b.toNat:Int)) (h2:(b.toNat:Int)≤122):bv (upc b)= .int .u8 ((b.toNat:Int) - 32):=by
 unfold upc bv
 rw [if_pos (by omega)]
 have:(b - 32).toNat=b.toNat - 32:=by
  rw [UInt8.toNat_sub_of_le]
  · rfl
  · rw [UInt8.le_iff_toNat_le];show 32≤_;omega
 rw [this]
 congr 1
 omega
theorem vm (b:UInt8) (h1:97≤(b.toNat:Int)) (h2:(b.toNat:Int)≤122):bv (upc b)= .int .u8 ((b.toNat:Int) - 97+65):=by
 rw [sR b h1 h2];congr 1;omega
theorem qN (b:UInt8) (h: ¬(97≤(b.toNat:Int)∧(b.toNat:Int)≤122)):upc b=b:=by
 unfold upc
 rw [if_neg (by omega)]
theorem bH (s:ByteArray) (w:World) (hs:s.size≤maxLen):
 Calls Tryz.prog 60 #[.string s] w fun e w'=>e= .returned (.string ⟨(an s.data.toList).toArray⟩)∧Below w.heap.size w w':=by
 unfold maxLen at hs
 obtain ⟨cap,w1,hconv,hrow,hsz,hb⟩:=mc (P:=Tryz.prog) w 9 22 5 s Tryz.underlying9 Tryz.underlying22 Tryz.underlying5
 have hl:s.data.toList.length=s.size:=by simp
 have HL:=aa9 hl
 generalize s.data.toList=l at *
 clear hl
 go_enter Tryz.func60,Tryz.ntmps60
 go_wp2
 go_loopw [4] (fun i wr=> ∃ k:Nat,k≤s.size∧i= .int .i64 k∧Row wr w.heap.size ((mid upc l k).map bv)∧Below w.heap.size w wr) (fun i _=>s.size - (intOf i).toNat)
 case atStart=>exact ⟨0,Nat.zero_le _,rfl,by rw [qK];exact hrow,hb⟩
 case round=>
  obtain ⟨k,hk,rfl,hr,hbr⟩:=hrel
  clear hconv hrow hb
  have hg:k < s.size→ ∃ b:UInt8,l[k]? =some b∧wr.cell? ⟨w.heap.size,k,none⟩=some (.int .u8 (b.toNat:Int))∧wr.frozen? ⟨w.heap.size,k,none⟩=false:=by
   intro hlt
   have hlt':k < l.length:=by rw [HL.out];exact hlt
   have hm:k < ((mid upc l k).map bv).length:=by rw [List.length_map,eI];exact hlt'
   refine ⟨l[k],List.getElem?_eq_getElem hlt',?_,hr.free k hm⟩
   rw [hr.cell k hm,List.getElem?_map,sK _ _ _ hlt']
   rfl
  by_cases hlt:k < s.size
  · obtain ⟨b,hb1,hb2,hb3⟩:=hg hlt
    have HB:=aa9 hb1
    clear hg hb1
    go_wp2
    all_goals
     go_roundw
     case rel=>
      have hlt':k < l.length:=by rw [HL.out];exact hlt
      have hbk:l[k]=b:=by have:=HB.out;rw [List.getElem?_eq_getElem hlt'] at this;exact Option.some.inj this
      first
       | exact ⟨k+1,by omega,by go_num,by rw [qL upc l k hlt' (by rw [hbk];exact qN b (by omega))];exact hr,hbr⟩
       | exact ⟨k+1,by omega,by go_num,by
        have:=hr.set k (by rw [List.length_map,eI];exact hlt') (bv (upc b))
        rw [←List.map_set,sL upc l k hlt' _ (by rw [hbk])] at this
        rw [←sR b (by omega) (by omega)]
        exact this,hbr.setCell (Nat.le_refl _) _⟩
     case measure=>simp [intOf];omega
  · obtain rfl:k=s.size:=by omega
    clear hg
    have hback:=km (P:=Tryz.prog) (by rw [sJ upc l s.size (by rw [HL.out];omega)] at hr;exact hr) 22 9 5 s.size cap (by rw [List.length_map];exact HL.out) Tryz.underlying22 Tryz.underlying5 Tryz.underlying9
    go_wp2
    go_ret
    exact ⟨rfl,hbr⟩
theorem cG (s:ByteArray) (w:World) (hs:s.size≤maxLen):
 Calls Tryz.prog 209 #[.string s] w fun e w'=>e= .returned (.string ⟨(an s.data.toList).toArray⟩)∧Below w.heap.size w w':=by
 unfold maxLen at hs
 obtain ⟨cap,w1,hconv,hrow,hsz,hb⟩:=mc (P:=Tryz.prog) w 9 22 5 s Tryz.underlying9 Tryz.underlying22 Tryz.underlying5
 have hl:s.data.toList.length=s.size:=by simp
 have HL:=aa9 hl
 generalize s.data.toList=l at *
 clear hl
 go_enter Tryz.func209,Tryz.ntmps209
 go_wp2
 go_loopw [10] (fun i wr=> ∃ k:Nat,k≤s.size∧i= .int .i64 k∧Row wr w.heap.size ((mid upc l k).map bv)∧Below w.heap.size w wr) (fun i _=>s.size - (intOf i).toNat)
 case atStart=>exact ⟨0,Nat.zero_le _,rfl,by rw [qK];exact hrow,hb⟩
 case round=>
  obtain ⟨k,hk,rfl,hr,hbr⟩:=hrel
  clear hconv hrow hb
  have hg:k < s.size→ ∃ b:UInt8,l[k]? =some b∧wr.cell? ⟨w.heap.size,k,none⟩=some (.int .u8 (b.toNat:Int))∧wr.frozen? ⟨w.heap.size,k,none⟩=false:=by
   intro hlt
   have hlt':k < l.length:=by rw [HL.out];exact hlt
   have hm:k < ((mid upc l k).map bv).length:=by rw [List.length_map,eI];exact hlt'
   refine ⟨l[k],List.getElem?_eq_getElem hlt',?_,hr.free k hm⟩
   rw [hr.cell k hm,List.getElem?_map,sK _ _ _ hlt']
   rfl
  by_cases hlt:k < s.size
  · obtain ⟨b,hb1,hb2,hb3⟩:=hg hlt
    have HB:=aa9 hb1
    clear hg hb1
    go_wp2
    all_goals
     go_roundw
     case rel=>
      have hlt':k < l.length:=by rw [HL.out];exact hlt
      have hbk:l[k]=b:=by have:=HB.out;rw [List.getElem?_eq_getElem hlt'] at this;exact Option.some.inj this
      first
       | exact ⟨k+1,by omega,by go_num,by rw [qL upc l k hlt' (by rw [hbk];exact qN b (by omega))];exact hr,hbr⟩
       | exact ⟨k+1,by omega,by go_num,by
        have:=hr.set k (by rw [List.length_map,eI];exact hlt') (bv (upc b))
        rw [←List.map_set,sL upc l k hlt' _ (by rw [hbk])] at this
        rw [←vm b (by omega) (by omega)]
        exact this,hbr.setCell (Nat.le_refl _) _⟩
     case measure=>simp [intOf];omega
  · obtain rfl:k=s.size:=by omega
    clear hg
    have hback:=km (P:=Tryz.prog) (by rw [sJ upc l s.size (by rw [HL.out];omega)] at hr;exact hr) 22 9 5 s.size cap (by rw [List.length_map];exact HL.out) Tryz.underlying22 Tryz.underlying5 Tryz.underlying9
    go_wp2
    go_ret
    exact ⟨rfl,hbr⟩
structure Rd {α:Type} (m:Nat) (enc:α→List Value) (w:World) (v:Value) (l:List α):Prop where
 ex: ∃ p cap,v= .slice p l.length cap∧(l=[]∨ ∃ b off,p=some ⟨b,off,none⟩∧b < w.heap.size∧ ∀ i x,l[i]? =some x→ ∀ j u,(enc x)[j]? =some u→w.cell? ⟨b,off+i * m+j,none⟩=some u)
theorem Rd.below {α:Type} {m:Nat} {enc:α→List Value} {w w':World} {v:Value} {l:List α} (h:Rd m enc w v l) (hb:Below w.heap.size w w'):Rd m enc w' v l:=by
 obtain ⟨p,cap,hv,h | ⟨b,off,hp,hlt,hc⟩⟩:=h.ex
 · exact ⟨p,cap,hv,.inl h⟩
 · exact ⟨p,cap,hv,.inr ⟨b,off,hp,Nat.lt_of_lt_of_le hlt hb.size,fun i x hx j u hu=>(hb.cell (p:=⟨b,off+i * m+j,none⟩) hlt).trans (hc i x hx j u hu)⟩⟩
theorem Rd.nil {α:Type} {m:Nat} {enc:α→List Value} {w:World} :Rd m enc w (.slice none 0 0) ([]:List α):=⟨none,0,rfl,.inl rfl⟩
theorem ji {α:Type} {m:Nat} (enc:α→List Value): ∀ (l:List α),(∀ x,(enc x).length=m)→ ∀ (i:Nat) (x:α),l[i]? =some x→ ∀ (j:Nat) (u:Value),(enc x)[j]? =some u→(l.flatMap enc)[i * m+j]? =some u
 | [],_,i,x,h,_,_,_=>by simp at h
 | y::l,hm,0,x,h,j,u,hj=>by
   simp only [List.getElem?_cons_zero,Option.some.injEq] at h
   subst h
   rw [List.flatMap_cons,Nat.zero_mul,Nat.zero_add,List.getElem?_append_left (List.getElem?_eq_some_iff.1 hj).1]
   exact hj
 | y::l,hm,i+1,x,h,j,u,hj=>by
   simp only [List.getElem?_cons_succ] at h
   have h2:(i+1) * m+j=(enc y).length+(i * m+j):=by rw [hm y,Nat.succ_mul];omega
   rw [List.flatMap_cons,h2,List.getElem?_append_right (by omega),Nat.add_sub_cancel_left]
   exact ji enc l hm i x h j u hj
theorem Rd.of_own {α:Type} {m:Nat} {enc:α→List Value} {w:World} {B n:Nat} {e:TypeId} {v:Value} {l:List α} (hm: ∀ x,(enc x).length=m) (hn:l.length=n) (h:w.ownsRow B e m v n (l.flatMap enc)):Rd m enc w v l:=by
 rcases h.2 with ⟨hv,h0⟩ | ⟨g,cap,cur,hv,h1,h2,h3⟩
 · subst h0
   obtain rfl:=List.eq_nil_of_length_eq_zero hn
   exact ⟨none,0,by rw [hv];rfl,.inl rfl⟩
 · subst hn
   subst hv
   refine ⟨_,cap,rfl,.inr ⟨g,0,rfl,(Array.getElem?_eq_some_iff.1 h2).1,fun i x hx j u hu=> ?_⟩⟩
   have hlen:j < m:=by rw [←hm x];exact (List.getElem?_eq_some_iff.1 hu).1
   have hi:i < l.length:=(List.getElem?_eq_some_iff.1 hx).1
   have hlt:i * m+j < l.length * m:=by
    have h4:=Nat.mul_le_mul_right m (show i+1≤l.length by omega)
    rw [Nat.succ_mul] at h4
    omega
   rw [Nat.zero_add,h.cellAt (i * m+j) hlt]
   exact ji enc l hm i x hx j u hu
theorem nW {α:Type} {enc:α→List Value} (hm: ∀ x,(enc x).length=2): ∀ (l:List α),(l.flatMap enc).length=l.length * 2
 | []=>rfl
 | a::l=>by rw [List.flatMap_cons,List.length_append,nW hm l,hm a,List.length_cons];omega
theorem qO {α:Type} {m:Nat} {enc:α→List Value} (hm: ∀ x,(enc x).length=m): ∀ (l:List α) (j:Nat) (u:Value),(l.flatMap enc)[j]? =some u→ ∃ i x jj,l[i]? =some x∧(enc x)[jj]? =some u∧j=i * m+jj
 | [],j,u,h=>by simp at h
 | a::l,j,u,h=>by
   rw [List.flatMap_cons] at h
   by_cases hj:j < m
   · rw [List.getElem?_append_left (by rw [hm];exact hj)] at h
     exact ⟨0,a,j,rfl,h,by omega⟩
   · rw [List.getElem?_append_right (by rw [hm];omega),hm] at h
     obtain ⟨i,x,jj,h1,h2,h3⟩:=qO hm l (j - m) u h
     exact ⟨i+1,x,jj,by simpa using h1,h2,by rw [Nat.succ_mul];omega⟩
theorem nX {α:Type} {enc:α→List Value} {m:Nat} (hm: ∀ x,(enc x).length=m): ∀ (l:List α),(l.flatMap enc).length=l.length * m
 | []=>by simp
 | a::l=>by rw [List.flatMap_cons,List.length_append,nX hm l,hm a,List.length_cons,Nat.succ_mul];omega
section
variable {P:Program}
theorem kp (w:World) (t ty e:TypeId) (i:TypeInfo) (ht:P.underlying t=some (.slice e)) (hi:P.info? e=some i) (base:Option Addr) (n cap c:Nat) (hle:n≤cap):
 (Builtin.append_ #[t,t] ty #[.slice base n cap,.slice none 0 c]).run P w= .ok (.slice base n cap) w:=by
 cases base <;> simp [Builtin.append_,run_underlying ht,sizeOf,typeInfo,hi,Builtin.lenOf,Builtin.firstCells,hle,storeCells]
theorem xa {α:Type} {w:World} {o:Oper} {a:Act} {t e:TypeId} {size bytes B:Nat} {K:Act→World→Prop} {Q:Exit→Act→World→Prop} {enc:α→List Value} (E:lP P t e size bytes) (hm: ∀ x,(enc x).length=size) (h1: ∀ x,∀ u∈enc x,u.oneCell'=true) (s x:Operand) (ho:o.op= .call { callee:= .builtin .append,args:= #[s,x],argTypes:= #[t,t] })
 (W:World) (v:Value) (n:Nat) (xs:List Value) (hs:a.eval s=v) (hown:w.ownsRow B e size v n xs) (hb:Below B W w) (hB:B≤w.heap.size)
 (u:Value) (l:List α) (hx:a.eval x=u) (hu:Rd size enc w u l) (hbytes:(n+l.length) * bytes≤140737488355328) (h63:n+l.length≤140737488355328)
 (h: ∀ v' w',w'.ownsRow B e size v' (n+l.length) (xs++l.flatMap enc)→Below B W w'→w.grownBy w' v.ownBlock→K (a.put o.dst v') w'):o.wp P a w K Q:=by
 obtain ⟨ht,⟨i,z,hi,hz,h2,h3,h4⟩,hp⟩:=E
 obtain ⟨p,c,rfl,hc⟩:=hu.ex
 cases p with
 | none=>
   have hl:l=[]:=hc.resolve_right (by rintro ⟨_,_,h,_⟩;cases h)
   subst hl
   have hform: ∃ base cap,v= .slice base n cap∧n≤cap:=by
    rcases hown.2 with ⟨hv,h0⟩ | ⟨g,cap,cur,hv,_,_,hn,_⟩
    · exact ⟨none,0,by rw [hv,h0],by omega⟩
    · exact ⟨_,cap,hv,hn⟩
   obtain ⟨base,cap,rfl,hle⟩:=hform
   have hr:=kp (P:=P) w t o.type e i ht hi base n cap c hle
   have hx0:a.eval x= .slice none 0 c:=hx
   unfold Oper.wp execOp
   simp only [ho,resolve,invoke,builtin,Sem.run_bind,Sem.run_pure,Result.andThen_ok,List.map_toArray,List.map_cons,List.map_nil,hs,hx0,hr]
   exact h _ w (by simpa using hown) hb ⟨rfl,rfl,rfl,Nat.le_refl _,fun _ _ _=>rfl⟩
 | some ad=>
   refine wp_append_own w s x t ho B e i z size bytes ht hi hz h2 h3 h4 hp v n xs hs hown ad l.length c (l.flatMap enc) hx (nX hm l) ?_ ?_ (by unfold maxLen;omega) hbytes hB ?_
   · intro j u hj
     obtain ⟨i,x,jj,h5,h6,rfl⟩:=qO hm l j u hj
     rcases hc with hl | ⟨b,off,hpp,hlt,hcc⟩
     · rw [hl] at h5;simp at h5
     · injection hpp with hpp
       subst hpp
       have:=hcc i x h5 jj u h6
       have hadd:(⟨b,off,none⟩:Addr).add (i * size+jj)=⟨b,off+i * size+jj,none⟩:=by
        simp only [Addr.add_lit,Nat.add_assoc]
       rw [hadd]
       exact this
   · intro u hu
     obtain ⟨x,_,hx⟩:=List.mem_flatMap.1 hu
     exact h1 x u hx
   · intro v' w' k1 k2 _
     exact h v' w' k1 (hb.grown k2 hB (fun k hk=>(hown.lt k hk).1)) k2
end
theorem bR (n:Nat) (h:n≤9223372036854775807):(decDigits n).length≤21:=by
 have:=Lib.itoa_length_le (n:Int) (by omega) (by omega)
 rwa [Lib.itoa_nonneg] at this
theorem mP {m n:Nat} {l:List UInt8} (_hm0: ¬m=0) (h:decDigits m++l=decDigits n):
 (m / 10=0→UInt8.ofNat (48+m % 10)::l=decDigits n)∧(0 < m / 10→decDigits (m / 10)++UInt8.ofNat (48+m % 10)::l=decDigits n):=by
 constructor
 · intro hz
   have:m < 10:=by omega
   rw [cy this] at h
   rw [Nat.mod_eq_of_lt this]
   exact h
 · intro hz
   rw [fe (by omega),List.append_assoc] at h
   exact h
theorem gI (n:Nat) (w:World) (hn:n≤9223372036854775807):
 Calls Tryz.prog 200 #[.int .i64 n] w fun e w'=>e= .returned (.string ⟨(decDigits n).toArray⟩)∧Below w.heap.size w w':=by
 by_cases h0:n=0
 · subst h0
   go_enter Tryz.func200,Tryz.ntmps200
   go_wp2
   go_ret
   exact ⟨by rw [show decDigits 0=[48] from by rw [cy (by omega)];rfl];rfl,Below.refl _ _⟩
 · have hb0:((n:Int)==0)=false:=by simp;omega
   have hl0: ¬(n:Int) < 0:=by omega
   go_enter Tryz.func200,Tryz.ntmps200
   go_wp2
   go_loopw [0,4,5] (fun x out _ wr=> ∃ (m:Nat) (l:List UInt8),m≤n∧x= .int .i64 m∧out= .string ⟨l.toArray⟩∧(m=0→l=decDigits n)∧(0 < m→decDigits m++l=decDigits n)∧Below w.heap.size w wr) (fun x _ _ _=>(intOf x).toNat)
   case atStart=>exact ⟨n,[],by omega,rfl,rfl,by omega,by simp,Below.refl _ _⟩
   case round=>
    obtain ⟨m,l,hm,rfl,rfl,hz,hp,hbr⟩:=hrel
    have Hz:=aa9 hz
    have Hp:=aa9 hp
    clear hz hp hb0 hl0
    have hbr0:=hbr.size
    by_cases hm0:m=0
    · have hb0:((m:Int) != 0)=false:=by simp;omega
      have hl:=aa9 (Hz.out hm0)
      clear hm0
      go_wp2
      go_ret
      exact ⟨by rw [hl.out];rfl,hbr⟩
    · have hb0:((m:Int) != 0)=true:=by simp;omega
      have ht:((m:Int)).tmod 10=((m % 10:Nat):Int):=by rw [Int.tmod_eq_emod_of_nonneg (by omega)];omega
      have hq:((m:Int)).tdiv 10=((m / 10:Nat):Int):=by rw [Int.tdiv_eq_ediv_of_nonneg (by omega)];omega
      have ht0:m % 10 < 10:=by omega
      have hcv:=fun W g hc=>gf (P:=Tryz.prog) 22 9 5 Tryz.underlying22 Tryz.underlying5 Tryz.underlying9 (48+(m:Int) % 10) (by omega) (by omega) 1 W g hc
      have hst:=aa9 (mP hm0 (Hp.out (by omega)))
      have hlen:l.length≤21:=by
       have:=bR n hn
       rw [←Hp.out (by omega),List.length_append] at this
       omega
      have he8:(48:UInt8)+UInt8.ofNat (m % 10)=UInt8.ofNat (48+m % 10):=by
       apply UInt8.toNat_inj.1
       simp
      have He8:=aa9 he8
      clear he8
      go_wp2
      go_roundw
      case rel=>
       refine ⟨m / 10,_::l,by omega,by go_num,?_,hst.out.1,hst.out.2,hbr.alloc hbr0 _⟩
       rw [←He8.out]
       rfl
      case measure=>simp [intOf];omega
theorem toList_data (s:ByteArray):s.toList=s.data.toList:=ByteArray.toList_eq s
def pQ (l:List UInt8):Value:=match eJ l with | some n=> .tuple #[.int .i64 (n:Int),.bool true] | none=> .tuple #[.int .i64 0,.bool false]
theorem eL {l:List UInt8} (h:eJ l=none):pQ l= .tuple #[.int .i64 0,.bool false]:=by unfold pQ;rw [h]
theorem ic {l:List UInt8} {n:Nat} (h:eJ l=some n):pQ l= .tuple #[.int .i64 (n:Int),.bool true]:=by unfold pQ;rw [h]
theorem ie (s:ByteArray) (k:Nat) (h:k < s.size):(s.data.toList.take (k+1)).all isd=((s.data.toList.take k).all isd && isd s[k]):=by
 rw [hI s k h,List.all_append];simp
theorem jP (s:ByteArray) (k:Nat) (h:k < s.size):dv (s.data.toList.take (k+1))=10 * dv (s.data.toList.take k)+(s[k].toNat - 48):=by
 rw [hI s k h,jh]
theorem jQ (s:ByteArray) (k:Nat) (h:k < s.size) (hn:isd s[k]=false):eJ s.data.toList=none:=by
 unfold eJ
 rw [if_neg]
 rintro ⟨hc,_⟩
 simp only [jg,Bool.and_eq_true] at hc
 have h1:=hc.1.1
 rw [List.all_eq_true] at h1
 have:=h1 s[k] (by
  have:s.data.toList[k]? =some s[k]:=by simp [List.getElem?_eq_getElem (show k < s.data.toList.length by simpa using h)];rfl
  exact List.mem_of_getElem? this)
 rw [hn] at this
 cases this
theorem mQ (b:UInt8):isd b=(decide (48≤(b.toNat:Int)) && decide ((b.toNat:Int)≤57)):=by
 unfold isd
 congr 1
 · have:(48≤b.toNat)=(48≤(b.toNat:Int)):=by rw [eq_iff_iff];omega
   simp only [this]
 · have:(b.toNat≤57)=((b.toNat:Int)≤57):=by rw [eq_iff_iff];omega
   simp only [this]
theorem gJ (s:ByteArray) (w:World) (hs:s.size≤1048576):
 Calls Tryz.prog 171 #[.string s] w fun e w'=>e= .returned (pQ s.data.toList)∧Below w.heap.size w w':=by
 by_cases hlen:1≤s.size∧s.size≤9
 · obtain ⟨hl1,hl2⟩:=hlen
   go_enter Tryz.func171,Tryz.ntmps171
   go_wp2
   go_loopw [2,3,4,5] (fun a b n i wr=> ∃ k:Nat,k≤s.size∧i= .int .i64 k∧n= .int .i64 (dv (s.data.toList.take k):Nat)∧(s.data.toList.take k).all isd=true∧a= .int .i64 0∧b= .bool false∧Below w.heap.size w wr) (fun _ _ _ i _=>s.size - (intOf i).toNat)
   case atStart=>exact ⟨0,by omega,rfl,rfl,rfl,rfl,rfl,Below.refl _ _⟩
   case round=>
    obtain ⟨k,hk,rfl,rfl,hall,rfl,rfl,hbr⟩:=hrel
    have Hall:=aa9 hall
    clear hall
    have hdl:dv (s.data.toList.take k) < 1000000000:=by
     have h1:=sQ _ Hall.out
     have h2:(s.data.toList.take k).length≤9:=by simp;omega
     have:10 ^ (s.data.toList.take k).length≤10 ^ 9:=Nat.pow_le_pow_right (by omega) h2
     omega
    by_cases hlt:k < s.size
    · have hbn:s[k].toNat < 256:=s[k].toNat_lt
      by_cases hd:isd s[k]=true
      · have HA:=aa9 (ie s k hlt)
        have HD:=aa9 (jP s k hlt)
        have Hd:=aa9 hd
        rw [mQ,Bool.and_eq_true,decide_eq_true_eq,decide_eq_true_eq] at hd
        obtain ⟨hd1,hd2⟩:=hd
        have hd3: ¬(s[k].toNat:Int) < 48:=by omega
        have hd4: ¬57 < (s[k].toNat:Int):=by omega
        go_wp2
        go_roundw
        case rel=>
         refine ⟨k+1,by omega,by go_num,?_,by rw [HA.out,Hall.out,Hd.out];rfl,rfl,rfl,hbr⟩
         rw [HD.out]
         congr 1
         omega
        case measure=>simp [intOf];omega
      · have HN:=aa9 (eL (jQ s k hlt (by simpa using hd)))
        rw [mQ,Bool.and_eq_true,decide_eq_true_eq,decide_eq_true_eq] at hd
        by_cases hd3:(s[k].toNat:Int) < 48
        · clear hd
          go_wp2
          go_ret2
          exact ⟨by rw [HN.out];rfl,hbr⟩
        · have hd4:57 < (s[k].toNat:Int):=by omega
          clear hd
          go_wp2
          go_ret2
          exact ⟨by rw [HN.out];rfl,hbr⟩
    · obtain rfl:k=s.size:=by omega
      rw [cj] at hdl Hall
      rw [cj]
      go_wp2_with fail
      refine (gI _ _ (by omega)).mono ?_
      rintro e w1 ⟨rfl,hb1⟩
      go_wp2
      · have ht:(!decDigits (dv s.data.toList)==s.toList)=true:=by assumption
        go_ret2
        have hn:eJ s.data.toList=none:=by
         unfold eJ
         rw [if_neg]
         rintro ⟨hc,_⟩
         rw [toList_data,(ib _).1 hc] at ht
         simp at ht
        exact ⟨by rw [eL hn];rfl,hbr.trans (hb1.mono hbr.size)⟩
      · have ht:(!decDigits (dv s.data.toList)==s.toList)=false:=by assumption
        go_ret2
        have hn:eJ s.data.toList=some (dv s.data.toList):=by
         unfold eJ
         rw [if_pos]
         refine ⟨(ib _).2 ?_,by omega⟩
         rw [toList_data] at ht
         simpa using ht
        exact ⟨by rw [ic hn];rfl,hbr.trans (hb1.mono hbr.size)⟩
 · have hN:=aa9 (show pQ s.data.toList= .tuple #[.int .i64 0,.bool false] from by
    refine eL ?_
    by_cases h0:s.size=0
    · have:s.data.toList=[]:=List.eq_nil_of_length_eq_zero (by simpa using h0)
      rw [this];rfl
    · exact sP _ (by simp;omega))
   have hlen2:(s.size:Int) < 1∨ ¬(s.size:Int) < 1∧9 < (s.size:Int):=by omega
   rcases hlen2 with h | ⟨h,h'⟩
   all_goals
    go_enter Tryz.func171,Tryz.ntmps171
    go_wp2
    go_ret2
    exact ⟨by rw [hN.out];rfl,Below.refl _ _⟩
def sS:Value:= .iface 9 (.string ⟨#[110,111,116,32,97,32,110,117,109,98,101,114]⟩)
theorem lQ (b:UInt8) (h:isd b=true) (w:World):
 Calls Tryz.prog 232 #[.int .u8 (b.toNat:Int)] w fun e w'=>e= .returned (.int .i64 ((b.toNat - 48:Nat):Int))∧w=w':=by
 rw [mQ,Bool.and_eq_true,decide_eq_true_eq,decide_eq_true_eq] at h
 obtain ⟨h1,h2⟩:=h
 have h3: ¬(b.toNat:Int) < 48:=by omega
 have h4: ¬57 < (b.toNat:Int):=by omega
 go_enter Tryz.func232,Tryz.ntmps232
 go_wp2
 go_ret
 refine ⟨?_,rfl⟩
 show Ending.returned (.int .i64 ((b.toNat:Int) - 48))=_
 rw [show ((b.toNat - 48:Nat):Int)=(b.toNat:Int) - 48 from by omega]
theorem lR (b:UInt8) (h:isd b=false) (w:World):
 Calls Tryz.prog 232 #[.int .u8 (b.toNat:Int)] w fun e w'=>e= .panicked [{ v:=sS,recovered:=false }]∧w=w':=by
 rw [mQ,Bool.and_eq_false_iff,decide_eq_false_iff_not,decide_eq_false_iff_not] at h
 by_cases h3:(b.toNat:Int) < 48
 · clear h
   go_enter Tryz.func232,Tryz.ntmps232
   go_wp2
   exact ⟨rfl,rfl,rfl⟩
 · have h4:57 < (b.toNat:Int):=by omega
   clear h
   go_enter Tryz.func232,Tryz.ntmps232
   go_wp2
   exact ⟨rfl,rfl,rfl⟩
def kq (l:List UInt8) (w:World) (e:Ending) (w':World):Prop:=(match eJ l with | some n=>e= .returned (.int .i64 (n:Int)) | none=>e= .panicked [{ v:=sS,recovered:=false }])∧Below w.heap.size w w'
theorem ek {l:List UInt8} {w w':World} {e:Ending} (h:eJ l=none) (he:e= .panicked [{ v:=sS,recovered:=false }]) (hb:Below w.heap.size w w'):kq l w e w':=by
 unfold kq;rw [h];exact ⟨he,hb⟩
theorem nY {l:List UInt8} {n:Nat} {w w':World} {e:Ending} (h:eJ l=some n) (he:e= .returned (.int .i64 (n:Int))) (hb:Below w.heap.size w w'):kq l w e w':=by
 unfold kq;rw [h];exact ⟨he,hb⟩
theorem xb (p q:List UInt8):dv p≤dv (p++q):=by
 induction q using ko with
 | nil=>simp
 | snoc q b ih=>rw [←List.append_assoc,jh];omega
theorem rD (l:List UInt8) (k:Nat):dv (l.take k)≤dv l:=by
 have:=xb (l.take k) (l.drop k)
 rwa [List.take_append_drop] at this
theorem rE (l:List UInt8) (k:Nat) (h:999999999 < dv (l.take k)):eJ l=none:=by
 unfold eJ
 rw [if_neg]
 rintro ⟨_,hv⟩
 have:=rD l k
 omega
theorem sT (s:ByteArray) (h0:0 < s.size) (h:(s[0].toNat:Int)=48) (h1:1 < s.size):eJ s.data.toList=none:=by
 unfold eJ
 rw [if_neg]
 rintro ⟨hc,_⟩
 simp only [jg,Bool.and_eq_true,Bool.or_eq_true,decide_eq_true_eq] at hc
 rcases hc.2 with h2 | h2
 · simp at h2;omega
 · have e:s.data.toList.head? =some s[0]:=by
    rw [List.head?_eq_getElem?,List.getElem?_eq_getElem (by simpa using h0)]
    rfl
   rw [e] at h2
   have:s[0]=48:=by apply UInt8.toNat_inj.1;show s[0].toNat=48;omega
   rw [this] at h2
   simp at h2
theorem sU (s:ByteArray) (h:0 < s.size):s.data.toList.isEmpty=false:=by
 have h2:s.data.toList.length=s.size:=by simp
 cases hd:s.data.toList with
 | nil=>rw [hd] at h2;simp only [List.length_nil] at h2;omega
 | cons a r=>rfl
theorem xc (s:ByteArray) (h0:0 < s.size) (hall:s.data.toList.all isd=true) (hv:dv s.data.toList≤999999999) (h: ¬(s[0].toNat:Int)=48∨s.size=1):eJ s.data.toList=some (dv s.data.toList):=by
 unfold eJ
 rw [if_pos]
 refine ⟨?_,hv⟩
 simp only [jg,hall,Bool.true_and,Bool.and_eq_true,Bool.or_eq_true,decide_eq_true_eq]
 refine ⟨?_,?_⟩
 · rw [sU s h0];rfl
 · rcases h with h | h
   · right
     have e:s.data.toList.head? =some s[0]:=by
      rw [List.head?_eq_getElem?,List.getElem?_eq_getElem (by simpa using h0)]
      rfl
     rw [e]
     simp only [bne_iff_ne,ne_eq,Option.some.injEq]
     intro e2
     rw [e2] at h
     exact h rfl
   · left;simpa using h
theorem jR (s:ByteArray) (w:World) (hs:s.size≤1048576):
 Calls Tryz.prog 222 #[.string s] w fun e w'=>kq s.data.toList w e w':=by
 by_cases h0:s.size=0
 · have hN:eJ s.data.toList=none:=by
    have:s.data.toList=[]:=List.eq_nil_of_length_eq_zero (by simpa using h0)
    rw [this];rfl
   have HN:=aa9 hN
   have he:s.toList.isEmpty=true:=by
    rw [toList_data,List.eq_nil_of_length_eq_zero (show s.data.toList.length=0 by simpa using h0)];rfl
   have he2:s.toList=[]:=by simpa using he
   clear hN h0
   go_enter Tryz.func222,Tryz.ntmps222
   go_wp2
   exact ⟨rfl,ek HN.out rfl (Below.refl _ _)⟩
 · have hp:0 < s.size:=by omega
   have he:s.toList.isEmpty=false:=by
    rw [toList_data];exact sU s hp
   have he2: ¬s.toList=[]:=by simpa using he
   have hp2:(0:Int) < (s.size:Int):=by omega
   by_cases hz:(s[0].toNat:Int)=48∧1 < s.size
   · obtain ⟨hz1,hz2⟩:=hz
     have HN:=aa9 (sT s hp hz1 hz2)
     have hz3:((s[0].toNat:Int)==48)=true:=by simp [hz1]
     clear hz1 h0
     go_enter Tryz.func222,Tryz.ntmps222
     go_wp2
     exact ⟨rfl,ek HN.out rfl (Below.refl _ _)⟩
   · have hok:=aa9 (fun hall hv=>xc s hp hall hv (by omega))
     have hz4:((s[0].toNat:Int)==48)=false∨((s[0].toNat:Int)==48)=true∧ ¬(1:Int) < (s.size:Int):=by
      by_cases e:(s[0].toNat:Int)=48
      · right;exact ⟨by simp [e],by omega⟩
      · left;simpa using e
     clear hz h0
     rcases hz4 with hz3 | ⟨hz3,hz5⟩
     all_goals
      go_enter Tryz.func222,Tryz.ntmps222
      go_wp2
      go_loopw [3,4] (fun n i wr=> ∃ k:Nat,k≤s.size∧i= .int .i64 k∧n= .int .i64 (dv (s.data.toList.take k):Nat)∧(s.data.toList.take k).all isd=true∧dv (s.data.toList.take k)≤999999999∧Below w.heap.size w wr) (fun _ i _=>s.size - (intOf i).toNat)
      case atStart=>exact ⟨0,by omega,rfl,rfl,rfl,by simp [dv],Below.refl _ _⟩
      case round=>
       obtain ⟨k,hk,rfl,rfl,hall,hdl,hbr⟩:=hrel
       have Hall:=aa9 hall
       clear hall
       by_cases hlt:k < s.size
       · cases hd:isd s[k] with
         | true=>
           have HA:=aa9 (ie s k hlt)
           have HD:=aa9 (jP s k hlt)
           have Hd:=aa9 hd
           have hbn:s[k].toNat - 48 < 10:=j8 _ hd
           have hc:=aa9 (fun W=>lQ s[k] hd W)
           clear hd
           by_cases hgr:999999999 < dv (s.data.toList.take k) * 10+(s[k].toNat - 48)
           · have hg2:(999999999:Int) < (dv (s.data.toList.take k):Int) * 10+((s[k].toNat - 48:Nat):Int):=by omega
             go_wp2_with fail
             refine (hc.out _).mono ?_
             rintro e w1 ⟨rfl,rfl⟩
             go_wp2
             exact ⟨rfl,ek (rE _ (k+1) (by rw [HD.out];omega)) rfl hbr⟩
           · have hg2: ¬(999999999:Int) < (dv (s.data.toList.take k):Int) * 10+((s[k].toNat - 48:Nat):Int):=by omega
             go_wp2_with fail
             refine (hc.out _).mono ?_
             rintro e w1 ⟨rfl,rfl⟩
             go_wp2
             go_roundw
             case rel=>
              refine ⟨k+1,by omega,by go_num,?_,by rw [HA.out,Hall.out,Hd.out];rfl,by rw [HD.out];omega,hbr⟩
              rw [HD.out]
              congr 1
              omega
             case measure=>simp [intOf];omega
         | false=>
           have hn:=aa9 (jQ s k hlt hd)
           have hc:=aa9 (fun W=>lR s[k] hd W)
           clear hd
           go_wp2_with fail
           refine (hc.out _).mono ?_
           rintro e w1 ⟨rfl,rfl⟩
           exact ⟨rfl,ek hn.out rfl hbr⟩
       · obtain rfl:k=s.size:=by omega
         rw [cj] at Hall hdl
         rw [cj]
         have HN:=aa9 (hok.out Hall.out hdl)
         go_wp2
         go_ret
         exact nY HN.out rfl hbr
theorem nZ (p q:Addr) (x y:Value) (pv:Value) (w:World) (hc:w.cell? p=some x) (hz:w.frozen? p=false) (hd:w.cell? q=some y) (hy:w.frozen? q=false) (hpq:p ≠ q):
 CallsD Tryz.prog 221 #[.pointer (some p),.pointer (some q)] (.panicking [{ v:= .iface 9 pv,recovered:=false }]) w fun e u' w'=>
  e= .returned (.tuple #[])∧u'= .panicking [{ v:= .iface 9 pv,recovered:=true }]∧w'=(w.setCell p (.int .i64 0)).setCell q (.bool false):=by
 have hq:(w.setCell p (.int .i64 0)).cell? q=some y:=(World.cell?_setCell_other w _ _ _ hpq).trans hd
 refine callsD_of_wpS Tryz.func221 rfl fun c₀ cs hu=> ?_
 apply wpS_seq
 apply wpS_region
 simp [wpOpsS,go_sem,recoverD,hu,Tryz.ntmps221,Exit.thenS]
 refine wpS_cond (t:=true) (by simp [Act.eval,Array.replicate]) ?_
 simp only [if_true]
 apply wpS_region
 simp [wpOpsS,go_sem,hc,hz,hy,hq,bodyPostS,results,Tryz.results221]
theorem mR (p q:Addr) (w:World):
 CallsD Tryz.prog 221 #[.pointer (some p),.pointer (some q)] .returning w fun e u' w'=>e= .returned (.tuple #[])∧u'= .returning∧w'=w:=by
 refine callsD_of_wpS Tryz.func221 rfl fun c₀ cs hu=> ?_
 apply wpS_seq
 apply wpS_region
 simp [wpOpsS,go_sem,recoverD,hu,Tryz.ntmps221,Exit.thenS]
 refine wpS_cond (t:=false) (by simp [Act.eval,Array.replicate]) ?_
 simp only [Bool.false_eq_true,if_false]
 refine wpS_of_wp (wp_skip ?_)
 cases c₀
 simp_all [bodyPostS,results,Tryz.results221]
theorem ez (s:ByteArray) (w:World) (hs:s.size≤1048576):
 Calls Tryz.prog 204 #[.string s] w fun e w'=>e= .returned (pQ s.data.toList)∧Below w.heap.size w w':=by
 cases hu:eJ s.data.toList with
 | none=>
   have hV:pQ s.data.toList= .tuple #[.int .i64 0,.bool false]:=by unfold pQ;rw [hu]
   rw [hV]
   clear hV
   have HU:=aa9 hu
   clear hu
   have hmf: ∀ (fn:Fn) (first cap:Array Value) (w:World),(Instr.makeFunc fn first cap).run Tryz.prog w= .ok (.func fn first cap) w:=fun _ _ _ _=>rfl
   go_enter_defers Tryz.func204,Tryz.ntmps204
   go_wp2_with fail
   refine (jR s _ hs).mono ?_
   intro e w1 hp
   obtain ⟨he,hb⟩:=hp
   have hz:w.heap.size+2≤w1.heap.size:=by have:=hb.size;simp at this;omega
   have hb0:Below w.heap.size w w1:=(((Below.refl _ _).alloc (Nat.le_refl _) _).alloc (by simp) _).trans (hb.mono (by simp;omega))
   have c1:w1.cell? ⟨w.heap.size,0,none⟩=some (.int .i64 0):=(hb.cell (p:=⟨w.heap.size,0,none⟩) (by simp;omega)).trans (by simp [go_sem])
   have c2:w1.cell? ⟨w.heap.size+1,0,none⟩=some (.bool false):=(hb.cell (p:=⟨w.heap.size+1,0,none⟩) (by simp)).trans (by simp [go_sem])
   have f1:w1.frozen? ⟨w.heap.size,0,none⟩=false:=(hb.frozen (p:=⟨w.heap.size,0,none⟩) (by simp;omega)).trans (by simp [go_sem])
   have f2:w1.frozen? ⟨w.heap.size+1,0,none⟩=false:=(hb.frozen (p:=⟨w.heap.size+1,0,none⟩) (by simp)).trans (by simp [go_sem])
   have hne:(⟨w.heap.size,0,none⟩:Addr) ≠ ⟨w.heap.size+1,0,none⟩:=by intro h;injection h with h;omega
   rw [HU.out] at he
   simp only at he
   subst he
   clear hb
   refine leaves_cons (f:=221) (args:= #[.pointer (some ⟨w.heap.size,0,none⟩),.pointer (some ⟨w.heap.size+1,0,none⟩)]) (by simp) (by simp [go_sem]) ?_
   refine (nZ _ _ _ _ _ w1 c1 f1 c2 f2 hne).mono ?_
   rintro e u' w'' ⟨rfl,rfl,rfl⟩
   simp [Leaves,settle,results,Tryz.results204,go_sem,c1,c2]
   exact (hb0.setCell (Nat.le_refl _) _).setCell (by simp) _
 | some r=>
   have hV:pQ s.data.toList= .tuple #[.int .i64 (r:Int),.bool true]:=by unfold pQ;rw [hu]
   rw [hV]
   clear hV
   have HU:=aa9 hu
   clear hu
   have hmf: ∀ (fn:Fn) (first cap:Array Value) (w:World),(Instr.makeFunc fn first cap).run Tryz.prog w= .ok (.func fn first cap) w:=fun _ _ _ _=>rfl
   go_enter_defers Tryz.func204,Tryz.ntmps204
   go_wp2_with fail
   refine (jR s _ hs).mono ?_
   intro e w1 hp
   obtain ⟨he,hb⟩:=hp
   have hz:w.heap.size+2≤w1.heap.size:=by have:=hb.size;simp at this;omega
   have hb0:Below w.heap.size w w1:=(((Below.refl _ _).alloc (Nat.le_refl _) _).alloc (by simp) _).trans (hb.mono (by simp;omega))
   have c1:w1.cell? ⟨w.heap.size,0,none⟩=some (.int .i64 0):=(hb.cell (p:=⟨w.heap.size,0,none⟩) (by simp;omega)).trans (by simp [go_sem])
   have c2:w1.cell? ⟨w.heap.size+1,0,none⟩=some (.bool false):=(hb.cell (p:=⟨w.heap.size+1,0,none⟩) (by simp)).trans (by simp [go_sem])
   have f1:w1.frozen? ⟨w.heap.size,0,none⟩=false:=(hb.frozen (p:=⟨w.heap.size,0,none⟩) (by simp;omega)).trans (by simp [go_sem])
   have f2:w1.frozen? ⟨w.heap.size+1,0,none⟩=false:=(hb.frozen (p:=⟨w.heap.size+1,0,none⟩) (by simp)).trans (by simp [go_sem])
   have hne:(⟨w.heap.size,0,none⟩:Addr) ≠ ⟨w.heap.size+1,0,none⟩:=by intro h;injection h with h;omega
   rw [HU.out] at he
   simp only at he
   subst he
   clear hb
   go_wp2
   refine leaves_cons (f:=221) (args:= #[.pointer (some ⟨w.heap.size,0,none⟩),.pointer (some ⟨w.heap.size+1,0,none⟩)]) (by simp) (by simp [go_sem]) ?_
   refine (mR _ _ _).mono ?_
   rintro e u' w'' ⟨rfl,rfl,rfl⟩
   simp [Leaves,settle,results,Tryz.results204,go_sem,c1,c2]
   exact (hb0.setCell (Nat.le_refl _) _).setCell (by simp) _
theorem rF (l:List UInt8): ∃ (n:Int) (b:Bool),pQ l= .tuple #[.int .i64 n,.bool b]:=by
 unfold pQ
 cases eJ l with
 | none=>exact ⟨_,_,rfl⟩
 | some r=>exact ⟨_,_,rfl⟩
theorem lS (a b:Value) (l:List (List UInt8)) (w:World) (ha:Rd1 sv w a l) (hb:Rd1 sv w b l) (hl:l.length≤140737488355328):
 Calls Tryz.prog 214 #[a,b] w fun e w'=>e= .returned (.bool true)∧Below w.heap.size w w':=by
 obtain ⟨p,c1,rfl,hp⟩:=ha.ex
 obtain ⟨q,c2,rfl,hq⟩:=hb.ex
 clear ha hb
 have HP:=aa9 hp
 have HQ:=aa9 hq
 clear hp hq
 go_enter Tryz.func214,Tryz.ntmps214
 go_wp2
 go_loopw [5] (fun i wr=> ∃ k:Nat,k≤l.length∧i= .int .i64 k∧Below w.heap.size w wr) (fun i _=>l.length - (intOf i).toNat)
 case atStart=>exact ⟨0,by omega,rfl,Below.refl _ _⟩
 case round=>
  obtain ⟨k,hk,rfl,hbr⟩:=hrel
  by_cases hlt:k < l.length
  · obtain ⟨b1,o1,rfl,hb1,hc1⟩:=HP.out.resolve_left (by intro h;subst h;simp at hlt)
    obtain ⟨b2,o2,rfl,hb2,hc2⟩:=HQ.out.resolve_left (by intro h;subst h;simp at hlt)
    obtain ⟨x,hx⟩: ∃ x,l[k]? =some x:=⟨_,List.getElem?_eq_getElem hlt⟩
    have e1:wr.cell? ⟨b1,o1+k,none⟩=some (sv x):=(hbr.cell (p:=⟨b1,o1+k,none⟩) hb1).trans (hc1 k x hx)
    have e2:wr.cell? ⟨b2,o2+k,none⟩=some (sv x):=(hbr.cell (p:=⟨b2,o2+k,none⟩) hb2).trans (hc2 k x hx)
    clear hc1 hc2 hx HP HQ
    go_wp2
    refine ah oL0 (fun W=>W.cell? ⟨b1,o1+k,none⟩=some (sv x)∧W.cell? ⟨b2,o2+k,none⟩=some (sv x)) (by kernel_rfl) (by kernel_rfl) rfl (by kernel_rfl) ?_
    intro ops' hops
    clear hops
    simp only [oL0,List.map_cons,List.map_nil,ae,ag]
    iterate 9 (refine aa ?_ (fun _ _ _ h=>h) rfl ?_ ⟨e1,e2⟩ ?_;rotate_left;focus (intro W hS;obtain ⟨s1,s2⟩:=hS;go_simp;rfl))
    refine ai ?_
    go_simp
    go_wp2
    go_roundw
    case rel=>exact ⟨k+1,by omega,by go_num,hbr.drew⟩
    case measure=>simp [intOf];omega
  · obtain rfl:k=l.length:=by omega
    go_wp2
    go_ret
    exact ⟨rfl,hbr⟩
def cA (k:Nat):List UInt8:=if k=0 then [109,48] else 109::decDigits k
theorem fK (n:Nat) (w:World) (hn:n≤9223372036854775807):
 Calls Tryz.prog 70 #[.int .i64 n] w fun e w'=>e= .returned (sv (cA n))∧Below w.heap.size w w':=by
 by_cases h0:n=0
 · subst h0
   go_enter Tryz.func70,Tryz.ntmps70
   go_wp2
   go_ret
   exact ⟨rfl,Below.refl _ _⟩
 · have HM:=aa9 (show cA n=109::decDigits n from if_neg h0)
   have hl0: ¬(n:Int)≤0:=by omega
   go_enter Tryz.func70,Tryz.ntmps70
   go_wp2
   go_loopw [0,3] (fun x out wr=> ∃ (m:Nat) (l:List UInt8),m≤n∧x= .int .i64 m∧out=sv l∧(m=0→l=decDigits n)∧(0 < m→decDigits m++l=decDigits n)∧Below w.heap.size w wr) (fun x _ _=>(intOf x).toNat)
   case atStart=>exact ⟨n,[],by omega,rfl,rfl,by omega,by simp,Below.refl _ _⟩
   case round=>
    obtain ⟨m,l,hm,rfl,rfl,hz,hp,hbr⟩:=hrel
    have Hz:=aa9 hz
    have Hp:=aa9 hp
    clear hz hp hl0
    have hbr0:=hbr.size
    by_cases hm0:m=0
    · have hl:=aa9 (Hz.out hm0)
      have hl1: ¬(0:Int) < (m:Int):=by omega
      have hlen:l.length≤21:=by rw [hl.out];exact bR n hn
      clear hm0
      go_wp2
      go_ret
      refine ⟨?_,hbr⟩
      rw [HM.out,←hl.out]
      rfl
    · have hl1:(0:Int) < (m:Int):=by omega
      have ht:((m:Int)).tmod 10=((m % 10:Nat):Int):=by rw [Int.tmod_eq_emod_of_nonneg (by omega)];omega
      have hq:((m:Int)).tdiv 10=((m / 10:Nat):Int):=by rw [Int.tdiv_eq_ediv_of_nonneg (by omega)];omega
      have ht0:m % 10 < 10:=by omega
      have hcv:=fun W g hc=>gf (P:=Tryz.prog) 22 9 5 Tryz.underlying22 Tryz.underlying5 Tryz.underlying9 (48+(m:Int) % 10) (by omega) (by omega) 1 W g hc
      have hst:=aa9 (mP hm0 (Hp.out (by omega)))
      have hlen:l.length≤21:=by
       have:=bR n hn
       rw [←Hp.out (by omega),List.length_append] at this
       omega
      have he8:(48:UInt8)+UInt8.ofNat (m % 10)=UInt8.ofNat (48+m % 10):=by
       apply UInt8.toNat_inj.1
       simp
      have He8:=aa9 he8
      clear he8
      go_wp2
      go_roundw
      case rel=>
       refine ⟨m / 10,_::l,by omega,by go_num,?_,hst.out.1,hst.out.2,hbr.alloc hbr0 _⟩
       rw [←He8.out]
       rfl
      case measure=>simp [intOf];omega
def fL (k n:Nat):List (List UInt8):=(List.range n).map fun i=>cA (k+i)
theorem cB (k n:Nat):(fL k n).length=n:=by simp [fL]
theorem vo (k n i:Nat) (h:i < n):(fL k n)[i]? =some (cA (k+i)):=by simp [fL,h]
def fM (l:List (List UInt8)) (k j:Nat):List (List UInt8):=fL k j++l.drop j
theorem pR (l:List (List UInt8)) (k:Nat):fM l k 0=l:=by simp [fM,fL]
theorem rG (l:List (List UInt8)) (k:Nat):fM l k l.length=fL k l.length:=by simp [fM]
theorem mS (l:List (List UInt8)) (k j:Nat) (h:j≤l.length):(fM l k j).length=l.length:=by simp [fM,cB];omega
theorem rH (l:List (List UInt8)) (k j:Nat) (h:j < l.length):(fM l k j).set j (cA (k+j))=fM l k (j+1):=by
 unfold fM
 rw [List.set_append_right _ _ (by rw [cB];omega),cB,Nat.sub_self,List.drop_eq_getElem_cons h,List.set_cons_zero]
 have:fL k (j+1)=fL k j++[cA (k+j)]:=by simp [fL,List.range_succ]
 rw [this,List.append_assoc]
 rfl
theorem ks (v:Value) (l:List (List UInt8)) (kk:Int) (k B:Nat) (hkk:kk=(k:Int)) (w:World) (hown:w.ownsRow B 9 1 v l.length (l.map sv)) (hk:k≤1000000000000) (hl:l.length≤1000000000000):
 Calls Tryz.prog 187 #[v,.int .i64 kk] w fun e w'=>e= .returned (.int .i64 (k+l.length:Nat))∧w'.ownsRow B 9 1 v l.length ((fL k l.length).map sv)∧w.grownBy w' v.ownBlock:=by
 subst hkk
 have hex: ∃ p c,v= .slice p l.length c∧(0 < l.length→ ∃ g,p=some ⟨g,0,none⟩):=by
  rcases h:hown.2 with ⟨hv,h0⟩ | ⟨g,cap,cur,hv,_⟩
  · exact ⟨none,0,by rw [hv,h0],fun h=>by omega⟩
  · exact ⟨_,cap,hv,fun _=>⟨g,rfl⟩⟩
 obtain ⟨p,c,rfl,hp⟩:=hex
 have HP:=aa9 hp
 clear hp
 go_enter Tryz.func187,Tryz.ntmps187
 go_wp2
 go_loopw [1,5] (fun kk i wr=> ∃ j:Nat,j≤l.length∧i= .int .i64 j∧kk= .int .i64 (k+j:Nat)∧wr.ownsRow B 9 1 (.slice p l.length c) l.length ((fM l k j).map sv)∧w.grownBy wr (Value.ownBlock (.slice p l.length c))) (fun _ i _=>l.length - (intOf i).toNat)
 case atStart=>exact ⟨0,by omega,rfl,rfl,by rw [pR];exact hown,World.grownBy.refl _ _⟩
 case round=>
  obtain ⟨j,hj,rfl,rfl,hor,hgr⟩:=hrel
  clear hown
  by_cases hlt:j < l.length
  · obtain ⟨g,rfl⟩:=HP.out (by omega)
    have hml:((fM l k j).map sv).length=l.length:=by rw [List.length_map,mS l k j hj]
    have Hml:=aa9 hml
    clear hml HP
    go_wp2_with fail
    refine (fK (k+j) _ (by omega)).mono ?_
    rintro e w1 ⟨rfl,hb1⟩
    have ho1:=ao hor hb1
    have hc1: ∃ u,w1.cell? ⟨g,j,none⟩=some u:=by
     have:=ho1.cellAt j (by omega)
     rw [this]
     exact ⟨_,List.getElem?_eq_getElem (by rw [Hml.out];omega)⟩
    obtain ⟨u,hu⟩:=hc1
    have hf1:=ho1.frozenAt j
    go_wp2
    go_roundw
    case rel=>
     refine ⟨j+1,by omega,by go_num,by go_num,?_,?_⟩
     · have:=ho1.stored j (sv (cA (k+j)))
       rw [←List.map_set,rH l k j hlt] at this
       exact this.1
     · have:=ho1.stored j (sv (cA (k+j)))
       exact d9 (pP hgr hb1) this.2
    case measure=>simp [intOf];omega
  · obtain rfl:j=l.length:=by omega
    rw [rG] at hor
    go_wp2
    go_ret
    exact ⟨rfl,hor,hgr⟩
theorem ku (v:Value) (kk:Int) (n k:Nat) (hkk:kk=(k:Int)) (w:World) (hr:Rd1 sv w v (fL k n)) (hk:k≤1000000000000) (hl:n≤1000000000000):
 Calls Tryz.prog 188 #[v,.int .i64 kk] w fun e w'=>e= .returned (.int .i64 (k+n:Nat))∧Below w.heap.size w w':=by
 subst hkk
 obtain ⟨p,c,hv,hp⟩:=hr.ex
 rw [cB] at hv
 subst hv
 have HP:=aa9 hp
 clear hp hr
 go_enter Tryz.func188,Tryz.ntmps188
 go_wp2
 go_loopw [1,5] (fun kk i wr=> ∃ j:Nat,j≤n∧i= .int .i64 j∧kk= .int .i64 (k+j:Nat)∧Below w.heap.size w wr) (fun _ i _=>n - (intOf i).toNat)
 case atStart=>exact ⟨0,by omega,rfl,rfl,Below.refl _ _⟩
 case round=>
  obtain ⟨j,hj,rfl,rfl,hbr⟩:=hrel
  have hbr0:=hbr.size
  by_cases hlt:j < n
  · obtain ⟨b,o,rfl,hb1,hc1⟩:=HP.out.resolve_left (by intro h;have:=congrArg List.length h;rw [cB] at this;simp at this;omega)
    have e0:w.cell? ⟨b,o+j,none⟩=some (sv (cA (k+j))):=hc1 j _ (vo k n j hlt)
    have e1:wr.cell? ⟨b,o+j,none⟩=some (sv (cA (k+j))):=(hbr.cell (p:=⟨b,o+j,none⟩) hb1).trans e0
    clear hc1 HP
    go_wp2
    refine ah oL1 (fun W=>W.cell? ⟨b,o+j,none⟩=some (sv (cA (k+j)))) (by kernel_rfl) (by kernel_rfl) rfl (by kernel_rfl) ?_
    intro ops' hops
    clear hops
    simp only [oL1,List.map_cons,List.map_nil,ae,ag]
    iterate 5 (refine aa ?_ (fun _ _ _ h=>h) rfl ?_ e1 ?_;rotate_left;focus (intro W hS;obtain s1:=hS;go_simp;rfl))
    refine al rfl ?_
    go_simp
    refine (fK (k+j) _ (by omega)).mono ?_
    rintro e w1 ⟨rfl,hb2⟩
    have e2:w1.cell? ⟨b,o+j,none⟩=some (sv (cA (k+j))):=(hb2.cell (p:=⟨b,o+j,none⟩) (by show b < wr.heap.size;omega)).trans e1
    refine ⟨e2,?_⟩
    iterate 1 (refine aa ?_ (fun _ _ _ h=>h) rfl ?_ e2 ?_;rotate_left;focus (intro W hS;obtain s1:=hS;go_simp;rfl))
    refine ai ?_
    go_simp
    go_wp2
    go_roundw
    case rel=>exact ⟨j+1,by omega,by go_num,by go_num,hbr.drew.trans (Below.mono hb2 (by show w.heap.size≤wr.heap.size;omega))⟩
    case measure=>simp [intOf];omega
  · obtain rfl:j=n:=by omega
    go_wp2
    go_ret
    exact ⟨rfl,hbr⟩
inductive Lf where
 | int (n:Int)
 | bool (b:Bool)
 | str (l:List UInt8)
 | rows (e:TypeId) (m n:Nat) (flat:List Lf)
mutual
def az (W:World):Lf→Value→Prop
 | .int n,v=>v= .int .i64 n
 | .bool b,v=>v= .bool b
 | .str l,v=>v=sv l
 | .rows _ m n flat,v=>flat.length=n * m∧ ∃ p cap,v= .slice p n cap∧(n=0∨ ∃ b off,p=some ⟨b,off,none⟩∧b < W.heap.size∧ ∃ xs:List Value,(∀ j u,xs[j]? =some u→W.cell? ⟨b,off+j,none⟩=some u)∧di W flat xs)
def di (W:World):List Lf→List Value→Prop
 | [],vs=>vs=[]
 | x::xs,vs=> ∃ v us,vs=v::us∧az W x v∧di W xs us
end
mutual
def au (W:World):Lf→Value→List Nat→Prop
 | .int n,v,fp=>v= .int .i64 n∧fp=[]
 | .bool b,v,fp=>v= .bool b∧fp=[]
 | .str l,v,fp=>v=sv l∧fp=[]
 | .rows e m n flat,v,fp=>flat.length=n * m∧ ∃ xs fq,W.ownsRow 0 e m v n xs∧bS W flat xs fq∧fp=v.ownBlock.toList++fq
def bS (W:World):List Lf→List Value→List Nat→Prop
 | [],vs,fp=>vs=[]∧fp=[]
 | x::xs,vs,fp=> ∃ v us f1 f2,vs=v::us∧au W x v f1∧bS W xs us f2∧fp=f1++f2
end
mutual
theorem az.below {W W':World} (hb:Below W.heap.size W W'): ∀ (x:Lf) (v:Value),az W x v→az W' x v
 | .int _,_,h=>h
 | .bool _,_,h=>h
 | .str _,_,h=>h
 | .rows _ m n flat,v,h=>by
   obtain ⟨hl,p,cap,hv,h0 | ⟨b,off,hp,hlt,xs,hc,hx⟩⟩:=h
   · exact ⟨hl,p,cap,hv,.inl h0⟩
   · exact ⟨hl,p,cap,hv,.inr ⟨b,off,hp,Nat.lt_of_lt_of_le hlt hb.size,xs,fun j u hu=>(hb.cell (p:=⟨b,off+j,none⟩) hlt).trans (hc j u hu),di.below hb flat xs hx⟩⟩
theorem di.below {W W':World} (hb:Below W.heap.size W W'): ∀ (xs:List Lf) (vs:List Value),di W xs vs→di W' xs vs
 | [],_,h=>h
 | x::xs,_,h=>by
   obtain ⟨v,us,hv,h1,h2⟩:=h
   exact ⟨v,us,hv,az.below hb x v h1,di.below hb xs us h2⟩
end
theorem ig {W W':World} {B m n:Nat} {e:TypeId} {v:Value} {xs:List Value} (h:W.ownsRow B e m v n xs) (hf: ∀ k,v.ownBlock=some k→W'.heap[k]? =W.heap[k]?):W'.ownsRow B e m v n xs:=by
 refine ⟨h.1,?_⟩
 rcases h.2 with h0 | ⟨g,cap,cur,hv,h1,h2,h3⟩
 · exact .inl h0
 · exact .inr ⟨g,cap,cur,hv,h1,(hf g (by rw [hv];rfl)).trans h2,h3⟩
mutual
theorem au.frame {W W':World} : ∀ (x:Lf) (v:Value) (fp:List Nat),(∀ k∈fp,W'.heap[k]? =W.heap[k]?)→au W x v fp→au W' x v fp
 | .int _,_,_,_,h=>h
 | .bool _,_,_,_,h=>h
 | .str _,_,_,_,h=>h
 | .rows e m n flat,v,fp,hf,h=>by
   obtain ⟨hl,xs,fq,ho,hx,rfl⟩:=h
   exact ⟨hl,xs,fq,ig ho (fun k hk=>hf k (by rw [hk];simp)),bS.frame flat xs fq (fun k hk=>hf k (by simp [hk])) hx,rfl⟩
theorem bS.frame {W W':World} : ∀ (xs:List Lf) (vs:List Value) (fp:List Nat),(∀ k∈fp,W'.heap[k]? =W.heap[k]?)→bS W xs vs fp→bS W' xs vs fp
 | [],_,_,_,h=>h
 | x::xs,vs,fp,hf,h=>by
   obtain ⟨v,us,f1,f2,hv,h1,h2,rfl⟩:=h
   exact ⟨v,us,f1,f2,hv,au.frame x v f1 (fun k hk=>hf k (by simp [hk])) h1,bS.frame xs us f2 (fun k hk=>hf k (by simp [hk])) h2,rfl⟩
end
mutual
theorem au.lt {W:World} : ∀ (x:Lf) (v:Value) (fp:List Nat),au W x v fp→ ∀ k∈fp,k < W.heap.size
 | .int _,_,_,h,k,hk=>by rw [h.2] at hk;cases hk
 | .bool _,_,_,h,k,hk=>by rw [h.2] at hk;cases hk
 | .str _,_,_,h,k,hk=>by rw [h.2] at hk;cases hk
 | .rows e m n flat,v,fp,h,k,hk=>by
   obtain ⟨hl,xs,fq,ho,hx,rfl⟩:=h
   rcases List.mem_append.1 hk with hk | hk
   · exact (ho.lt k (by simpa using hk)).2
   · exact bS.lt flat xs fq hx k hk
theorem bS.lt {W:World} : ∀ (xs:List Lf) (vs:List Value) (fp:List Nat),bS W xs vs fp→ ∀ k∈fp,k < W.heap.size
 | [],_,_,h,k,hk=>by rw [h.2] at hk;cases hk
 | x::xs,vs,fp,h,k,hk=>by
   obtain ⟨v,us,f1,f2,hv,h1,h2,rfl⟩:=h
   rcases List.mem_append.1 hk with hk | hk
   · exact au.lt x v f1 h1 k hk
   · exact bS.lt xs us f2 h2 k hk
end
mutual
theorem au.rd {W:World} : ∀ (x:Lf) (v:Value) (fp:List Nat),au W x v fp→az W x v
 | .int _,_,_,h=>h.1
 | .bool _,_,_,h=>h.1
 | .str _,_,_,h=>h.1
 | .rows e m n flat,v,fp,h=>by
   obtain ⟨hl,xs,fq,ho,hx,rfl⟩:=h
   refine ⟨hl,?_⟩
   rcases ho.2 with ⟨hv,h0⟩ | ⟨g,cap,cur,hv,h1,h2,h3⟩
   · exact ⟨none,0,by rw [hv,h0],.inl h0⟩
   · subst hv
     refine ⟨_,cap,rfl,.inr ⟨g,0,rfl,(Array.getElem?_eq_some_iff.1 h2).1,xs,fun j u hu=> ?_,bS.rd flat xs fq hx⟩⟩
     have hj:j < xs.length:=(List.getElem?_eq_some_iff.1 hu).1
     rw [Nat.zero_add,ho.cellAt j (by rw [←ho.1];exact hj),hu]
theorem bS.rd {W:World} : ∀ (xs:List Lf) (vs:List Value) (fp:List Nat),bS W xs vs fp→di W xs vs
 | [],_,_,h=>h.1
 | x::xs,vs,fp,h=>by
   obtain ⟨v,us,f1,f2,hv,h1,h2,rfl⟩:=h
   exact ⟨v,us,hv,au.rd x v f1 h1,bS.rd xs us f2 h2⟩
end
theorem di.length {W:World} : ∀ {xs:List Lf} {vs:List Value},di W xs vs→vs.length=xs.length
 | [],_,h=>by rw [h];rfl
 | _::xs,_,h=>by obtain ⟨v,us,rfl,_,h2⟩:=h;simp [di.length h2]
theorem di.append {W:World} : ∀ {a b:List Lf} {vs:List Value},di W (a++b) vs↔ ∃ u1 u2,vs=u1++u2∧di W a u1∧di W b u2
 | [],b,vs=>⟨fun h=>⟨[],vs,rfl,rfl,h⟩,fun ⟨u1,u2,h1,h2,h3⟩=>by rw [h1,h2];exact h3⟩
 | x::a,b,vs=>by
   constructor
   · rintro ⟨v,us,rfl,h1,h2⟩
     obtain ⟨u1,u2,rfl,h3,h4⟩:=di.append.1 h2
     exact ⟨v::u1,u2,rfl,⟨v,u1,rfl,h1,h3⟩,h4⟩
   · rintro ⟨u1,u2,rfl,⟨v,us,rfl,h1,h2⟩,h3⟩
     exact ⟨v,us++u2,rfl,h1,di.append.2 ⟨us,u2,rfl,h2,h3⟩⟩
theorem bS.length {W:World} : ∀ {xs:List Lf} {vs:List Value} {fp:List Nat},bS W xs vs fp→vs.length=xs.length
 | [],_,_,h=>by rw [h.1];rfl
 | _::xs,_,_,h=>by obtain ⟨v,us,_,_,rfl,_,h2,_⟩:=h;simp [bS.length h2]
theorem bS.append {W:World} : ∀ {a b:List Lf} {vs:List Value} {fp:List Nat},bS W (a++b) vs fp↔ ∃ u1 u2 f1 f2,vs=u1++u2∧bS W a u1 f1∧bS W b u2 f2∧fp=f1++f2
 | [],b,vs,fp=>⟨fun h=>⟨[],vs,[],fp,rfl,⟨rfl,rfl⟩,h,rfl⟩,fun ⟨u1,u2,f1,f2,h1,h2,h3,h4⟩=>by rw [h1,h2.1,h4,h2.2];exact h3⟩
 | x::a,b,vs,fp=>by
   constructor
   · rintro ⟨v,us,f1,f2,rfl,h1,h2,rfl⟩
     obtain ⟨u1,u2,f3,f4,rfl,h3,h4,rfl⟩:=bS.append.1 h2
     exact ⟨v::u1,u2,f1++f3,f4,rfl,⟨v,u1,f1,f3,rfl,h1,h3,rfl⟩,h4,by rw [List.append_assoc]⟩
   · rintro ⟨u1,u2,f1,f2,rfl,⟨v,us,f3,f4,rfl,h1,h2,rfl⟩,h3,rfl⟩
     exact ⟨v,us++u2,f3,f4++f2,rfl,h1,bS.append.2 ⟨us,u2,f4,f2,rfl,h2,h3,rfl⟩,by rw [List.append_assoc]⟩
structure cx (W:World) (lo:Nat) (x:Lf) (v:Value) (fp:List Nat):Prop where
 is:au W x v fp
 nodup:fp.Nodup
 low: ∀ k∈fp,lo≤k
theorem cx.below {W W':World} {lo:Nat} {x:Lf} {v:Value} {fp:List Nat} (h:cx W lo x v fp) (hb:Below W.heap.size W W'):cx W' lo x v fp:=
 ⟨h.is.frame x v fp (fun k hk=>hb.block k (au.lt x v fp h.is k hk)),h.nodup,h.low⟩
theorem cx.rd {W:World} {lo:Nat} {x:Lf} {v:Value} {fp:List Nat} (h:cx W lo x v fp):az W x v:=h.is.rd
theorem cx.lt {W:World} {lo:Nat} {x:Lf} {v:Value} {fp:List Nat} (h:cx W lo x v fp): ∀ k∈fp,k < W.heap.size:=au.lt x v fp h.is
structure ac (W W':World) (fp:List Nat):Prop where
 os:W'.os=W.os
 tape:W'.tape=W.tape
 output:W'.output=W.output
 size:W.heap.size≤W'.heap.size
 block: ∀ k,k < W.heap.size→k ∉ fp→W'.heap[k]? =W.heap[k]?
theorem ac.trans {W W1 W2:World} {fp:List Nat} (h:ac W W1 fp) (k:ac W1 W2 fp):ac W W2 fp:=
 ⟨k.os.trans h.os,k.tape.trans h.tape,k.output.trans h.output,Nat.le_trans h.size k.size,fun i hi hn=>(k.block i (Nat.lt_of_lt_of_le hi h.size) hn).trans (h.block i hi hn)⟩
theorem ac.mono {W W':World} {fp fq:List Nat} (h:ac W W' fp) (hs: ∀ k∈fp,k∈fq):ac W W' fq:=⟨h.os,h.tape,h.output,h.size,fun k hk hn=>h.block k hk (fun hm=>hn (hs k hm))⟩
theorem ac.of_below {W W':World} {fp:List Nat} (h:Below W.heap.size W W'):ac W W' fp:=⟨h.os,h.tape,h.output,h.size,fun k hk _=>h.block k hk⟩
theorem ac.below {W0 W W':World} {B:Nat} {fp:List Nat} (h:Below B W0 W) (hg:ac W W' fp) (hB:B≤W.heap.size) (hf: ∀ k∈fp,B≤k):Below B W0 W':=
 h.trans ⟨hg.os,hg.tape,hg.output,hg.size,fun k hk=>hg.block k (Nat.lt_of_lt_of_le hk hB) (fun hm=>by have:=hf k hm;omega)⟩
theorem cx.apart {W W':World} {lo:Nat} {x:Lf} {v:Value} {fp fq:List Nat} (h:cx W lo x v fp) (hg:ac W W' fq) (hd: ∀ k∈fp,k ∉ fq):cx W' lo x v fp:=
 ⟨h.is.frame x v fp (fun k hk=>hg.block k (h.lt k hk) (hd k hk)),h.nodup,h.low⟩
mutual
def aX:Lf→Nat→Lf×Nat
 | .int _,k=>(.int (k:Int),k+1)
 | .bool _,k=>(.bool (k % 3==0),k+1)
 | .str _,k=>(.str (cA k),k+1)
 | .rows e m n flat,k=>((.rows e m n (aO flat k).1),(aO flat k).2)
def aO:List Lf→Nat→List Lf×Nat
 | [],k=>([],k)
 | x::xs,k=>((aX x k).1::(aO xs (aX x k).2).1,(aO xs (aX x k).2).2)
end
theorem cY: ∀ (xs:List Lf) (k:Nat),(aO xs k).1.length=xs.length
 | [],_=>by simp [aO]
 | x::xs,k=>by simp [aO,cY xs]
theorem ij: ∀ (a b:List Lf) (k:Nat),aO (a++b) k=((aO a k).1++(aO b (aO a k).2).1,(aO b (aO a k).2).2)
 | [],b,k=>by simp [aO]
 | x::a,b,k=>by simp [aO,ij a b]
mutual
def co:Lf→Nat
 | .int _=>0
 | .bool _=>0
 | .str l=>l.length
 | .rows _ _ n flat=>n+bg flat
def bg:List Lf→Nat
 | []=>0
 | x::xs=>co x+bg xs
end
theorem cC: ∀ (a b:List Lf),bg (a++b)=bg a+bg b
 | [],b=>by simp [bg]
 | x::a,b=>by simp [bg,cC a b];omega
theorem mf {W:World} {α:Type} {enc:α→List Lf} {m:Nat} (hm: ∀ x,(enc x).length=m): ∀ (l:List α) (xs:List Value),di W (l.flatMap enc) xs→ ∀ i x,l[i]? =some x→ ∃ us,di W (enc x) us∧ ∀ j u,us[j]? =some u→xs[i * m+j]? =some u
 | [],_,_,i,x,h=>by simp at h
 | a::l,xs,h,i,x,hx=>by
   rw [List.flatMap_cons] at h
   obtain ⟨u1,u2,rfl,h1,h2⟩:=di.append.1 h
   have hl:=di.length h1
   rw [hm] at hl
   cases i with
   | zero=>
     simp only [List.getElem?_cons_zero,Option.some.injEq] at hx
     subst hx
     refine ⟨u1,h1,fun j u hu=> ?_⟩
     rw [Nat.zero_mul,Nat.zero_add,List.getElem?_append_left (List.getElem?_eq_some_iff.1 hu).1]
     exact hu
   | succ i=>
     simp only [List.getElem?_cons_succ] at hx
     obtain ⟨us,h3,h4⟩:=mf hm l u2 h2 i x hx
     refine ⟨us,h3,fun j u hu=> ?_⟩
     have:=h4 j u hu
     rw [List.getElem?_append_right (by rw [hl,Nat.succ_mul];omega),show (i+1) * m+j - u1.length=i * m+j by rw [hl,Nat.succ_mul];omega]
     exact this
theorem jk {W:World} {α:Type} {enc:α→List Lf} {e:TypeId} {m:Nat} (hm: ∀ x,(enc x).length=m) {l:List α} {v:Value} (h:az W (.rows e m l.length (l.flatMap enc)) v):
 ∃ p cap,v= .slice p l.length cap∧(l=[]∨ ∃ b off,p=some ⟨b,off,none⟩∧b < W.heap.size∧ ∀ i x,l[i]? =some x→ ∃ us,di W (enc x) us∧ ∀ j u,us[j]? =some u→W.cell? ⟨b,off+i * m+j,none⟩=some u):=by
 obtain ⟨_,p,cap,hv,h⟩:=h
 refine ⟨p,cap,hv,?_⟩
 rcases h with h0 | ⟨b,off,hp,hlt,xs,hc,hx⟩
 · exact .inl (List.eq_nil_of_length_eq_zero h0)
 · refine .inr ⟨b,off,hp,hlt,fun i x hi=> ?_⟩
   obtain ⟨us,h1,h2⟩:=mf hm l xs hx i x hi
   exact ⟨us,h1,fun j u hu=>by have:=hc _ u (h2 j u hu);rwa [←Nat.add_assoc] at this⟩
theorem ce {α:Type} {enc:α→List Lf} {m:Nat} (hm: ∀ x,(enc x).length=m): ∀ (l:List α),(l.flatMap enc).length=l.length * m
 | []=>by simp
 | a::l=>by rw [List.flatMap_cons,List.length_append,ce hm l,hm a,List.length_cons,Nat.succ_mul];omega
theorem zO {W:World} {B g n c i m:Nat} {e:TypeId} {A R:List Value} {x:Value} (h:W.ownsRow B e m (.slice (some ⟨g,0,none⟩) n c) n (A++x::R)) (hi:A.length=i) (u:Value):
 (W.setCell ⟨g,i,none⟩ u).ownsRow B e m (.slice (some ⟨g,0,none⟩) n c) n (A++u::R)∧W.cell? ⟨g,i,none⟩=some x∧(∀ j,W.frozen? ⟨g,j,none⟩=false):=by
 have h1:=(h.stored i u).1
 have hl:(A++x::R).length=n * m:=h.1
 rw [List.set_append_right _ _ (by omega),hi,Nat.sub_self,List.set_cons_zero] at h1
 refine ⟨h1,?_,fun j=>h.frozenAt j⟩
 rw [h.cellAt i (by rw [←hl];simp;omega),List.getElem?_append_right (by omega),hi,Nat.sub_self]
 rfl
theorem rI {A R:List Value} {n k m:Nat} (h:(A++R).length=n * m) (hA:A.length=k * m) (hk:k < n): ∃ R1 R2,R=R1++R2∧R1.length=m:=by
 have h1:k * m+m≤n * m:=by
  have:=Nat.mul_le_mul_right m (show k+1≤n by omega)
  rw [Nat.succ_mul] at this
  exact this
 rw [List.length_append,hA] at h
 exact ⟨R.take m,R.drop m,(List.take_append_drop m R).symm,by rw [List.length_take];omega⟩
theorem ac.set {W:World} {g i:Nat} {u:Value} {fp:List Nat} (hg:g∈fp):ac W (W.setCell ⟨g,i,none⟩ u) fp:=
 ⟨rfl,rfl,rfl,by simp,fun k _ hn=>Below.heap_setCell W _ u k (by intro e;exact hn (by rw [show k=g from e];exact hg))⟩
theorem bS.set {W:World} {xs:List Lf} {vs:List Value} {fp:List Nat} {g i:Nat} {u:Value} (h:bS W xs vs fp) (hg:g ∉ fp):bS (W.setCell ⟨g,i,none⟩ u) xs vs fp:=
 h.frame xs vs fp (fun k hk=>Below.heap_setCell W _ u k (by intro e;exact hg (by rw [←show k=g from e];exact hk)))
theorem rJ {P:Program} {w:World} {ops:Array Oper} {rest:List Oper} {o:Oper} {a:Act} {Q:Exit→Act→World→Prop} {t e:TypeId} {size bytes:Nat} (E:lP P t e size bytes)
 (hgd:o.guard=none) (l c:Operand) (ho:o.op=Op.makeSlice t l c) (B:Nat) (W:World) (hb:Below B W w) (hB:B≤w.heap.size) (kl kc:IntKind) (n:Nat) (hl:a.eval l= .int kl (n:Int)) (hc:a.eval c= .int kc (n:Int)) (b2:bytes * n≤281474976710656) (b3:n≤281474976710656)
 (h: ∀ w' xs,w'.ownsRow B e size (.slice (some ⟨w.heap.size,0,none⟩) n n) n xs→Below B W w'→w.heap.size < w'.heap.size→wpList P ops Q rest (a.put o.dst (.slice (some ⟨w.heap.size,0,none⟩) n n)) w'):wpList P ops Q (o::rest) a w:=by
 obtain ⟨ht,⟨i,z,hi,hz,h2,h3,h4⟩,hp⟩:=E
 refine wpList_make_full w hgd l c t ho B e i z size ht hi hz h2 kl kc (n:Int) (n:Int) n hl hc rfl rfl (by rw [h3];exact b2) (by unfold maxLen;omega) hB ?_
 intro w' k1 k2
 exact h w' _ k1 (hb.grown k2 hB (fun k hk=>by cases hk)) ((k1.lt w.heap.size rfl).2)
def aR (c:UInt8):List UInt8→List (List UInt8)
 | []=>[[]]
 | b::r=>if b=c then []::aR c r else match aR c r with
   | []=>[[b]]
   | x::xs=>(b::x)::xs
theorem n7 (c:UInt8) (l:List UInt8):aR c l ≠ []:=by
 cases l with
 | nil=>simp [aR]
 | cons b r=>
   unfold aR
   split
   · simp
   · split <;> simp
theorem dj (c:UInt8): ∀ l:List UInt8,(∀ b∈l,b ≠ c)→aR c l=[l]
 | [],_=>rfl
 | b::r,h=>by
   unfold aR
   rw [if_neg (h b (by simp)),dj c r (fun x hx=>h x (by simp [hx]))]
theorem gh (c:UInt8): ∀ (m r:List UInt8),(∀ b∈m,b ≠ c)→aR c (m++c::r)=m::aR c r
 | [],r,_=>by simp [aR]
 | b::m,r,h=>by
   rw [List.cons_append,aR,if_neg (h b (by simp)),gh c m r (fun x hx=>h x (by simp [hx]))]
theorem dP (c:UInt8) (l:List UInt8):(aR c l).length≤l.length+1:=by
 induction l with
 | nil=>simp [aR]
 | cons b r ih=>
   unfold aR
   split
   · simp only [List.length_cons];omega
   · split
     · simp
     · rename_i x xs h
       rw [h] at ih
       simp only [List.length_cons] at ih ⊢
       omega
structure Cut (c:UInt8) (l:List UInt8) (f i:Nat) (acc:List (List UInt8)):Prop where
 le:f≤i
 le':i≤l.length
 all:acc++aR c (l.drop f)=aR c l
 none: ∀ b∈(l.drop f).take (i - f),b ≠ c
 few:acc.length≤f
theorem Cut.start (c:UInt8) (l:List UInt8):Cut c l 0 0 []:=⟨Nat.le_refl _,Nat.zero_le _,by simp,by simp,by simp⟩
theorem vp (l:List UInt8) (f i:Nat) (h1:f≤i) (h2:i < l.length):(l.drop f).take (i+1 - f)=(l.drop f).take (i - f)++[l[i]]:=by
 rw [show i+1 - f=(i - f)+1 from by omega,List.take_succ_eq_append_getElem (by simp;omega)]
 simp [Nat.add_sub_cancel' h1]
theorem sW (l:List UInt8) (f i:Nat) (h1:f≤i) (h2:i < l.length):l.drop f=(l.drop f).take (i - f)++l[i]::l.drop (i+1):=by
 have:=(List.take_append_drop (i - f) (l.drop f)).symm
 rw [List.drop_drop,show f+(i - f)=i from by omega,List.drop_eq_getElem_cons h2] at this
 exact this
theorem Cut.miss {c:UInt8} {l:List UInt8} {f i:Nat} {acc:List (List UInt8)} (h:Cut c l f i acc) (hi:i < l.length) (hb:l[i] ≠ c):Cut c l f (i+1) acc:=by
 refine ⟨by have:=h.le;omega,hi,h.all,?_,h.few⟩
 rw [vp l f i h.le hi]
 intro b hb'
 rw [List.mem_append,List.mem_singleton] at hb'
 rcases hb' with h1 | h1
 · exact h.none b h1
 · rw [h1];exact hb
theorem Cut.hit {c:UInt8} {l:List UInt8} {f i:Nat} {acc:List (List UInt8)} (h:Cut c l f i acc) (hi:i < l.length) (hb:l[i]=c):Cut c l (i+1) (i+1) (acc++[(l.drop f).take (i - f)]):=by
 refine ⟨Nat.le_refl _,hi,?_,by simp,by have:=h.few;have:=h.le;simp;omega⟩
 have h1:=h.all
 rw [sW l f i h.le hi,hb,gh c _ _ h.none] at h1
 rw [←h1]
 simp
theorem Cut.fin {c:UInt8} {l:List UInt8} {f:Nat} {acc:List (List UInt8)} (h:Cut c l f l.length acc):acc++[(l.drop f).take (l.length - f)]=aR c l:=by
 have h1:=h.all
 have e:(l.drop f).take (l.length - f)=l.drop f:=List.take_of_length_le (by simp)
 have h2:=h.none
 rw [e] at h2 ⊢
 rw [dj c _ h2] at h1
 exact h1
theorem gj (s:ByteArray) (f i:Nat):Value.string (s.extract f i)=sv ((s.data.toList.drop f).take (i - f)):=by
 rw [←mN (s.extract f i),Lib.extract_data]
theorem mT (s:ByteArray) (c:UInt8) (w:World) (hs:s.size≤1048576):
 Calls Tryz.prog 211 #[.string s,.int .u8 (c.toNat:Int)] w fun e w'=> ∃ v,e= .returned v∧w'.ownsRow w.heap.size 9 1 v (aR c s.data.toList).length ((aR c s.data.toList).map sv)∧Below w.heap.size w w':=by
 have hsl:s.data.toList.length=s.size:=by simp
 have HL:=aa9 hsl
 clear hsl
 go_enter Tryz.func211,Tryz.ntmps211
 go_wp2
 go_loopw [5,6,7] (fun v fv i wr=> ∃ (f k:Nat) (acc:List (List UInt8)),k≤s.size∧i= .int .i64 k∧fv= .int .i64 f∧Cut c s.data.toList f k acc∧wr.ownsRow w.heap.size 9 1 v acc.length (acc.map sv)∧Below w.heap.size w wr) (fun _ _ i _=>s.size - (intOf i).toNat)
 case atStart=>exact ⟨0,0,[],by omega,rfl,rfl,Cut.start _ _,World.ownsRow_nil _ _ _ _,Below.refl _ _⟩
 case round=>
  obtain ⟨f,k,acc,hk,rfl,rfl,hcut,hown,hbr⟩:=hrel
  have hbr0:=hbr.size
  have hf1:=hcut.le
  have hf2:=hcut.few
  have HC:=aa9 hcut
  clear hcut
  by_cases hlt:k < s.size
  · have hkl:k < s.data.toList.length:=by rw [HL.out];exact hlt
    have hget:s.data.toList[k]=s[k]:=rfl
    by_cases hbc:s[k]=c
    · have hq:((s[k].toNat:Int)==(c.toNat:Int))=true:=by rw [hbc];simp
      have HN:=aa9 (HC.out.hit hkl (by rw [hget];exact hbc))
      have HX:=aa9 (gj s f k)
      clear hbc hget
      go_wp2_with (at_builtin;refine aE Tryz.el_string rfl (.tmp 19) (.tmp 24) rfl w wr u5 acc.length _ rfl hown hbr hbr0 _ (.inr rfl) 1 1 rfl rfl (by simp [Value.oneCell']) (by omega) (by omega) (by omega) ?_)
      intro g cap w' hown' hbr' _ _ _
      clear hown hbr hbr0
      go_wp2
      go_roundw
      case rel=>
       refine ⟨k+1,k+1,_,by omega,by go_num,by go_num,HN.out,?_,hbr'⟩
       rw [List.length_append,List.length_singleton,List.map_append,List.map_singleton,←HX.out]
       exact hown'
      case measure=>simp [intOf];omega
    · have hq:((s[k].toNat:Int)==(c.toNat:Int))=false:=by
       simp only [beq_eq_false_iff_ne,ne_eq]
       intro e
       exact hbc (UInt8.toNat_inj.1 (by omega))
      have HN:=aa9 (HC.out.miss hkl (by rw [hget];exact hbc))
      clear hbc hget
      go_wp2
      go_roundw
      case rel=>exact ⟨f,k+1,acc,by omega,by go_num,rfl,HN.out,hown,hbr⟩
      case measure=>simp [intOf];omega
  · obtain rfl:k=s.size:=by omega
    have HF:=aa9 (Cut.fin (by have:=HC.out;rw [HL.out];exact this))
    have HX:=aa9 (gj s f s.size)
    go_wp2_with (at_builtin;refine aE Tryz.el_string rfl (.tmp 28) (.tmp 32) rfl w wr u5 acc.length _ rfl hown hbr hbr0 _ (.inr rfl) 1 1 rfl rfl (by simp [Value.oneCell']) (by omega) (by omega) (by omega) ?_)
    intro g cap w' hown' hbr' _ _ _
    clear hown hbr hbr0
    go_wp2
    go_ret
    refine ⟨_,rfl,?_,hbr'⟩
    rw [←HF.out,List.length_append,List.length_singleton,List.map_append,List.map_singleton,HL.out,←HX.out]
    exact hown'
theorem ik (s:ByteArray) (c:UInt8) (w:World) (hs:s.size≤1048576):
 Calls Tryz.prog 96 #[.string s,.int .u8 (c.toNat:Int)] w fun e w'=> ∃ v,e= .returned v∧w'.ownsRow w.heap.size 9 1 v (aR c s.data.toList).length ((aR c s.data.toList).map sv)∧Below w.heap.size w w':=by
 have hsl:s.data.toList.length=s.size:=by simp
 have HL:=aa9 hsl
 clear hsl
 go_enter Tryz.func96,Tryz.ntmps96
 go_wp2
 go_loopw [5,6,7] (fun v fv i wr=> ∃ (f k:Nat) (acc:List (List UInt8)),k≤s.size+1∧i= .int .i64 k∧fv= .int .i64 f∧(k≤s.size→Cut c s.data.toList f k acc)∧(k=s.size+1→acc=aR c s.data.toList)∧wr.ownsRow w.heap.size 9 1 v acc.length (acc.map sv)∧Below w.heap.size w wr) (fun _ _ i _=>s.size+1 - (intOf i).toNat)
 case atStart=>exact ⟨0,0,[],by omega,rfl,rfl,fun _=>Cut.start _ _,by omega,by simpa using World.ownsRow_made w #[] 0 (Nat.le_refl _) (by unfold maxLen;omega) rfl,(Below.refl _ _).alloc (Nat.le_refl _) _⟩
 case round=>
  obtain ⟨f,k,acc,hk,rfl,rfl,hcut,hend,hown,hbr⟩:=hrel
  have hbr0:=hbr.size
  by_cases hlt:k≤s.size
  · have hcut:=hcut hlt
    have hf1:=hcut.le
    have hf2:=hcut.few
    have HC:=aa9 hcut
    clear hcut hend
    by_cases hls:k < s.size
    · have hkl:k < s.data.toList.length:=by rw [HL.out];exact hls
      have hget:s.data.toList[k]=s[k]:=rfl
      have hne:((k:Int)==(s.size:Int))=false:=by simp;omega
      by_cases hbc:s[k]=c
      · have hq:((s[k].toNat:Int)==(c.toNat:Int))=true:=by rw [hbc];simp
        have HN:=aa9 (HC.out.hit hkl (by rw [hget];exact hbc))
        have HX:=aa9 (gj s f k)
        clear hbc hget
        go_wp2_with (at_builtin;refine aE Tryz.el_string rfl (.tmp 26) (.tmp 31) rfl w wr u5 acc.length _ rfl hown hbr hbr0 _ (.inr rfl) 1 1 rfl rfl (by simp [Value.oneCell']) (by omega) (by omega) (by omega) ?_)
        intro g cap w' hown' hbr' _ _ _
        clear hown hbr hbr0
        go_wp2
        go_roundw
        case rel=>
         refine ⟨k+1,k+1,_,by omega,by go_num,by go_num,fun _=>HN.out,by omega,?_,hbr'⟩
         rw [List.length_append,List.length_singleton,List.map_append,List.map_singleton,←HX.out]
         exact hown'
        case measure=>simp [intOf];omega
      · have hq:((s[k].toNat:Int)==(c.toNat:Int))=false:=by
         simp only [beq_eq_false_iff_ne,ne_eq]
         intro e
         exact hbc (UInt8.toNat_inj.1 (by omega))
        have HN:=aa9 (HC.out.miss hkl (by rw [hget];exact hbc))
        clear hbc hget
        go_wp2
        go_roundw
        case rel=>exact ⟨f,k+1,acc,by omega,by go_num,rfl,fun _=>HN.out,by omega,hown,hbr⟩
        case measure=>simp [intOf];omega
    · obtain rfl:k=s.size:=by omega
      have hne:((s.size:Int)==(s.size:Int))=true:=by simp
      have HF:=aa9 (Cut.fin (by have:=HC.out;rw [HL.out];exact this))
      have HX:=aa9 (gj s f s.size)
      clear HC
      go_wp2_with (at_builtin;refine aE Tryz.el_string rfl (.tmp 26) (.tmp 31) rfl w wr u5 acc.length _ rfl hown hbr hbr0 _ (.inr rfl) 1 1 rfl rfl (by simp [Value.oneCell']) (by omega) (by omega) (by omega) ?_)
      intro g cap w' hown' hbr' _ _ _
      clear hown hbr hbr0
      go_wp2
      go_roundw
      case rel=>
       refine ⟨s.size+1,s.size+1,_,by omega,by go_num,by go_num,by omega,fun _=>HF.out,?_,hbr'⟩
       rw [List.length_append,List.length_singleton,List.map_append,List.map_singleton,HL.out,←HX.out]
       exact hown'
      case measure=>simp [intOf]
  · obtain rfl:k=s.size+1:=by omega
    have HE:=aa9 (hend rfl)
    clear hend hcut
    rw [HE.out] at hown
    clear HE
    go_wp2
    go_ret
    exact ⟨_,rfl,hown,hbr⟩
end Go.Proofs.YtmlgkoeacbeopaaGreatDoor
namespace Go.Proofs.YtmlgkoeacbeopaaGreatDoor
open Go.RowKit
def mg (b:UInt8):Bool:=decide (32≤b.toNat) && decide (b.toNat≤126)
def pK (b:UInt8):Bool:=decide (b.toNat=34) || decide (b.toNat=92)
def cl (b:UInt8):Bool:=decide (33≤b.toNat) && decide (b.toNat≤126) && !(decide (b.toNat=40) || decide (b.toNat=41) || decide (b.toNat=123) || decide (b.toNat=34) || decide (b.toNat=92))
def dE (l:List UInt8):Bool:=l.all cl && decide (1≤l.length) && decide (l.length≤40)
def rK (b:UInt8):List UInt8:=if pK b=true then [92,b] else [b]
def j9 (l:List UInt8):List UInt8:=l.flatMap rK
def fD (l:List UInt8):List UInt8:=if l.all mg=true∧l.length≤40 then 34::j9 l++[34] else []
def yl (l:List UInt8):List UInt8:=if dE l=true then l else fD l
theorem ym (l:List UInt8) (b:UInt8):j9 (l++[b])=j9 l++rK b:=by simp [j9]
theorem xd (b:UInt8):(rK b).length≤2:=by unfold rK;split <;> simp
theorem xe (l:List UInt8):(j9 l).length≤2 * l.length:=by
 induction l with
 | nil=>simp [j9]
 | cons b l ih=>have:=xd b;simp only [j9,List.flatMap_cons,List.length_append,List.length_cons] at ih ⊢;omega
theorem sX (l:List UInt8):(fD l).length≤82:=by
 unfold fD
 split
 · rename_i h;have:=xe l;simp;omega
 · simp
theorem vq (b:UInt8):mg b=(decide (32≤(b.toNat:Int)) && decide ((b.toNat:Int)≤126)):=by
 unfold mg
 congr 1
 · have:(32≤b.toNat)=(32≤(b.toNat:Int)):=by rw [eq_iff_iff];omega
   simp only [this]
 · have:(b.toNat≤126)=((b.toNat:Int)≤126):=by rw [eq_iff_iff];omega
   simp only [this]
def qQ (r:Int):Bool:=decide (32≤r) && decide (r≤126)
def n9 (r:Int):Bool:=decide (r=34) || decide (r=92)
def jZ (r:Int):Bool:=decide (33≤r) && decide (r≤126) && !(decide (r=40) || decide (r=41) || decide (r=123) || decide (r=34) || decide (r=92))
theorem oa (b:UInt8):qQ (b.toNat:Int)=mg b:=(vq b).symm
theorem ob (b:UInt8):n9 (b.toNat:Int)=pK b:=by
 unfold n9 pK
 congr 1
 · have:((b.toNat:Int)=34)=(b.toNat=34):=by rw [eq_iff_iff];omega
   simp only [this]
 · have:((b.toNat:Int)=92)=(b.toNat=92):=by rw [eq_iff_iff];omega
   simp only [this]
theorem d4 (b:UInt8):jZ (b.toNat:Int)=cl b:=by
 have hh: ∀ n:Fin 256,jZ (((UInt8.ofNat n.val).toNat:Nat):Int)=cl (UInt8.ofNat n.val):=by decide+kernel
 have:=hh ⟨b.toNat,b.toNat_lt⟩
 simpa using this
theorem xf (r:Int) (h0:0≤r) (h1:r < 128):decide (0≤Lib.indexByte [34,92] r.toNat.toUInt8)=n9 r:=by
 have hh: ∀ n:Fin 128,decide (0≤Lib.indexByte [34,92] ((n.val:Int)).toNat.toUInt8)=n9 (n.val:Int):=by decide+kernel
 have:=hh ⟨r.toNat,by omega⟩
 rwa [show ((⟨r.toNat,by omega⟩:Fin 128).val:Int)=r from by show (r.toNat:Int)=r;omega] at this
def sY (r:Int):Bool:=decide (r=40) || decide (r=41) || decide (r=123) || decide (r=34) || decide (r=92)
theorem xg (r:Int) (h0:0≤r) (h1:r < 128):decide (0≤Lib.indexByte [40,41,123,34,92] r.toNat.toUInt8)=sY r:=by
 have hh: ∀ n:Fin 128,decide (0≤Lib.indexByte [40,41,123,34,92] ((n.val:Int)).toNat.toUInt8)=sY (n.val:Int):=by decide+kernel
 have:=hh ⟨r.toNat,by omega⟩
 rwa [show ((⟨r.toNat,by omega⟩:Fin 128).val:Int)=r from by show (r.toNat:Int)=r;omega] at this
theorem mU (p:UInt8→Bool) (s:ByteArray) (k:Nat) (h:k < s.size):(s.data.toList.take (k+1)).all p=((s.data.toList.take k).all p && p s[k]):=by
 rw [hI s k h,List.all_append];simp
theorem xh (s:ByteArray) (k:Nat) (h:k < s.size):s[k]∈s.data.toList:=by
 have:s.data.toList[k]? =some s[k]:=by simp [List.getElem?_eq_getElem (show k < s.data.toList.length by simpa using h)];rfl
 exact List.mem_of_getElem? this
theorem xi (p:UInt8→Bool) (s:ByteArray) (k:Nat) (h:k < s.size) (hn:p s[k]=false):s.data.toList.all p=false:=by
 rw [Bool.eq_false_iff]
 intro hc
 rw [List.all_eq_true] at hc
 rw [hc _ (xh s k h)] at hn
 cases hn
theorem dI (s:ByteArray):s.data.toList.length=s.size:=by simp
theorem bE (s:ByteArray) (k:Nat) (h:k < s.size):s.data.toList.drop k=s[k]::s.data.toList.drop (k+1):=by
 rw [List.drop_eq_getElem_cons (show k < s.data.toList.length by simpa using h)]
 rfl
theorem ck (s:ByteArray) (k:Nat) (h: ¬k < s.size):s.data.toList.drop k=[]:=by
 apply List.drop_eq_nil_of_le;simp;omega
theorem yn (l:List UInt8) (h:l.all mg=false∨40 < l.length):fD l=[]:=by
 unfold fD
 rw [if_neg]
 rintro ⟨h1,h2⟩
 rcases h with h | h
 · rw [h] at h1;cases h1
 · omega
theorem mh (l:List UInt8) (h:l.all mg=true) (h2:l.length≤40):fD l=34::j9 l++[34]:=if_pos ⟨h,h2⟩
def eH:List UInt8→Nat→List UInt8→Option (List UInt8×Nat)
 | [],_,_=>none
 | b::r,p,acc=>
   if b.toNat=34 then (if 40 < acc.length then none else some (acc,p+1))
   else if b.toNat=92 then
    match r with
    | []=>none
    | c::r'=>if pK c=true then eH r' (p+2) (acc++[c]) else none
   else if mg b=true then eH r (p+1) (acc++[b]) else none
def jl (l:List UInt8) (p:Nat) (acc:List UInt8):Option (List UInt8×Nat):=
 match l with
 | []=>none
 | c::r'=>if pK c=true then eH r' (p+1) (acc++[c]) else none
theorem il (p:Nat) (acc:List UInt8):eH [] p acc=none:=by simp [eH]
theorem dk {b:UInt8} (r:List UInt8) (p:Nat) (acc:List UInt8) (h:b.toNat=34):eH (b::r) p acc=if 40 < acc.length then none else some (acc,p+1):=by
 rw [eH.eq_def];simp only [h,if_true]
theorem d5 {b:UInt8} (r:List UInt8) (p:Nat) (acc:List UInt8) (h:b.toNat=92):eH (b::r) p acc=jl r (p+1) acc:=by
 rw [eH.eq_def]
 simp only [h,if_true]
 unfold jl
 cases r <;> simp
theorem d6 {b:UInt8} (r:List UInt8) (p:Nat) (acc:List UInt8) (h1: ¬b.toNat=34) (h2: ¬b.toNat=92) (h:mg b=true):eH (b::r) p acc=eH r (p+1) (acc++[b]):=by
 rw [eH.eq_def];simp only [h1,h2,if_false,h,if_true]
theorem im {b:UInt8} (r:List UInt8) (p:Nat) (acc:List UInt8) (h:mg b=false):eH (b::r) p acc=none:=by
 have h1: ¬b.toNat=34:=by intro e;unfold mg at h;rw [e] at h;simp at h
 have h2: ¬b.toNat=92:=by intro e;unfold mg at h;rw [e] at h;simp at h
 rw [eH.eq_def];simp only [h1,h2,if_false,h];simp
theorem eM {c:UInt8} (r:List UInt8) (p:Nat) (acc:List UInt8) (h:pK c=true):jl (c::r) p acc=eH r (p+1) (acc++[c]):=by simp [jl,h]
theorem io {c:UInt8} (r:List UInt8) (p:Nat) (acc:List UInt8) (h:pK c=false):jl (c::r) p acc=none:=by simp [jl,h]
theorem yo (p:Nat) (acc:List UInt8):jl [] p acc=none:=rfl
theorem sZ {c:UInt8} (h:pK c=true):mg c=true:=by
 have hh: ∀ n:Fin 256,pK (UInt8.ofNat n.val)=true→mg (UInt8.ofNat n.val)=true:=by decide+kernel
 have:=hh ⟨c.toNat,c.toNat_lt⟩
 simp at this
 exact this h
theorem kv: ∀ (n:Nat) (l:List UInt8) (p:Nat) (acc:List UInt8),l.length≤n→40 < acc.length→eH l p acc=none
 | _,[],p,acc,_,_=>il p acc
 | 0,_::_,_,_,h,_=>by simp at h
 | n+1,b::r,p,acc,h,ha=>by
   simp only [List.length_cons] at h
   by_cases h1:b.toNat=34
   · rw [dk r p acc h1,if_pos ha]
   by_cases h2:b.toNat=92
   · rw [d5 r p acc h2]
     cases r with
     | nil=>rfl
     | cons c r'=>
       cases hc:pK c with
       | false=>exact io _ _ _ hc
       | true=>
         rw [eM _ _ _ hc]
         simp only [List.length_cons] at h
         exact kv n r' _ _ (by omega) (by simp;omega)
   cases h3:mg b with
   | false=>exact im _ _ _ h3
   | true=>
     rw [d6 _ _ _ h1 h2 h3]
     exact kv n r _ _ (by omega) (by simp;omega)
def uqO (l:List UInt8) (at':Int):Option (List UInt8×Nat):=
 if at' < 0 then none else match l.drop at'.toNat with
  | []=>none
  | b::r=>if b.toNat=34 then eH r (at'.toNat+1) [] else none
def uqV (o:Option (List UInt8×Nat)):Value:=match o with | some (t,n)=> .tuple #[sv t,.int .i64 (n:Int)] | none=> .tuple #[.string ⟨#[]⟩,.int .i64 (-1)]
theorem kw: ∀ (t:List UInt8) (r:List UInt8) (p:Nat) (acc:List UInt8),t.all mg=true→acc.length+t.length≤40→eH (j9 t++34::r) p acc=some (acc++t,p+(j9 t).length+1)
 | [],r,p,acc,_,h=>by
   simp only [j9,List.flatMap_nil,List.nil_append,List.append_nil,List.length_nil,Nat.add_zero]
   rw [dk r p acc (by rfl),if_neg (by simpa using h)]
 | b::t,r,p,acc,ha,h=>by
   simp only [List.all_cons,Bool.and_eq_true] at ha
   simp only [List.length_cons] at h
   have hs:j9 (b::t)=rK b++j9 t:=by simp [j9]
   rw [hs]
   cases hb:pK b with
   | true=>
     have he:rK b=[92,b]:=by unfold rK;rw [if_pos hb]
     rw [he]
     simp only [List.cons_append,List.nil_append]
     rw [d5 _ _ _ (by rfl),eM _ _ _ hb,kw t r (p+1+1) (acc++[b]) ha.2 (by simp;omega)]
     simp;omega
   | false=>
     have he:rK b=[b]:=by unfold rK;rw [if_neg (by simp [hb])]
     rw [he]
     simp only [List.cons_append,List.nil_append]
     have hne: ¬b.toNat=34∧ ¬b.toNat=92:=by unfold pK at hb;simpa using hb
     rw [d6 _ _ _ hne.1 hne.2 ha.1,kw t r (p+1) (acc++[b]) ha.2 (by simp;omega)]
     simp;omega
theorem ip: ∀ (n:Nat) (l:List UInt8) (p:Nat) (acc t:List UInt8) (e:Nat),l.length≤n→eH l p acc=some (t,e)→
 ∃ z r,t=acc++z∧l=j9 z++34::r∧z.all mg=true∧t.length≤40∧e=p+(j9 z).length+1
 | _,[],p,acc,t,e,_,h=>by rw [il] at h;cases h
 | 0,_::_,_,_,_,_,h,_=>by simp at h
 | n+1,b::r,p,acc,t,e,hn,h=>by
   simp only [List.length_cons] at hn
   by_cases h1:b.toNat=34
   · rw [dk r p acc h1] at h
     split at h
     · cases h
     · rename_i hl
       injection h with h;injection h with h3 h4
       refine ⟨[],r,by rw [h3];simp,?_,rfl,by rw [←h3];omega,by simp [j9];omega⟩
       have:b=34:=by apply UInt8.toNat_inj.1;exact h1
       rw [this];rfl
   by_cases h2:b.toNat=92
   · rw [d5 r p acc h2] at h
     cases r with
     | nil=>cases h
     | cons c r'=>
       cases hc:pK c with
       | false=>rw [io _ _ _ hc] at h;cases h
       | true=>
         rw [eM _ _ _ hc] at h
         simp only [List.length_cons] at hn
         obtain ⟨z,q,e1,e2,e3,e4,e5⟩:=ip n r' _ _ t e (by omega) h
         have hb:b=92:=by apply UInt8.toNat_inj.1;exact h2
         refine ⟨c::z,q,by rw [e1];simp,?_,by simp [e3,sZ hc],e4,?_⟩
         · rw [e2,hb];simp [j9,rK,hc]
         · rw [e5];simp [j9,rK,hc];omega
   cases h3:mg b with
   | false=>rw [im _ _ _ h3] at h;cases h
   | true=>
     rw [d6 _ _ _ h1 h2 h3] at h
     obtain ⟨z,q,e1,e2,e3,e4,e5⟩:=ip n r _ _ t e (by omega) h
     have hb:pK b=false:=by unfold pK;simp [h1,h2]
     refine ⟨b::z,q,by rw [e1];simp,?_,by simp [e3,h3],e4,?_⟩
     · rw [e2];simp [j9,rK,hb]
     · rw [e5];simp [j9,rK,hb];omega
def bm:List UInt8→Bool→Bool
 | [],a=> !a
 | b::r,a=>if b.toNat=47 then (if a=true then false else bm r true) else if 97≤b.toNat∧b.toNat≤122 then bm r false else false
def aH (l:List UInt8):Bool:=bm l true && decide (l.length≤12)
theorem ff {b:UInt8} (r:List UInt8) (h:b.toNat=47):bm (b::r) false=bm r true∧bm (b::r) true=false:=by simp [bm,h]
theorem gK {b:UInt8} (r:List UInt8) (a:Bool) (h0:97≤b.toNat) (h1:b.toNat≤122):bm (b::r) a=bm r false:=by
 have h: ¬b.toNat=47:=by omega
 simp [bm,h,h0,h1]
theorem kx {b:UInt8} (r:List UInt8) (a:Bool) (h: ¬b.toNat=47) (h0: ¬(97≤b.toNat∧b.toNat≤122)):bm (b::r) a=false:=by
 simp only [bm,h,h0,if_false]
theorem xj (a:Bool):bm [] a= !a:=rfl
def tc (b:UInt8):Bool:=decide (b.toNat=47) || (decide (97≤b.toNat) && decide (b.toNat≤122))
theorem gS: ∀ (l:List UInt8) (a:Bool),bm l a=true→l.all tc=true
 | [],_,_=>rfl
 | b::r,a,h=>by
   by_cases h1:b.toNat=47
   · cases a with
     | true=>rw [(ff r h1).2] at h;cases h
     | false=>rw [(ff r h1).1] at h;simp [gS r true h,tc,h1]
   · by_cases h2:97≤b.toNat∧b.toNat≤122
     · rw [gK r a h2.1 h2.2] at h;simp [gS r false h,tc,h2]
     · rw [kx r a h1 h2] at h;cases h
theorem pS {b:UInt8} (h:tc b=true):cl b=true:=by
 have hh: ∀ n:Fin 256,tc (UInt8.ofNat n.val)=true→cl (UInt8.ofNat n.val)=true:=by decide+kernel
 have:=hh ⟨b.toNat,b.toNat_lt⟩
 simp at this
 exact this h
theorem pT {l:List UInt8} (h:aH l=true):dE l=true:=by
 unfold aH at h
 simp only [Bool.and_eq_true,decide_eq_true_eq] at h
 have h1:=gS l true h.1
 have h2:l ≠ []:=by rintro rfl;simp [bm] at h
 have h3:0 < l.length:=List.length_pos_iff.2 h2
 unfold dE
 simp only [Bool.and_eq_true,decide_eq_true_eq]
 refine ⟨⟨?_,by omega⟩,by omega⟩
 rw [List.all_eq_true] at h1 ⊢
 exact fun x hx=>pS (h1 x hx)
theorem xk {l:List UInt8} (h:aH l=true):yl l=l:=by unfold yl;rw [if_pos (pT h)]
def ep (x y:List UInt8):Bool:=aH x && aH y && (decide (x=y) || Lib.hasPrefix x (y++[47]))
theorem xl (x:List UInt8):ep x x=aH x:=by unfold ep;simp
theorem wL (x y z:List UInt8) (h1:ep x y=true) (h2:ep y z=true):ep x z=true:=by
 unfold ep at *
 simp only [Bool.and_eq_true,Bool.or_eq_true,decide_eq_true_eq,Lib.hasPrefix,List.isPrefixOf_iff_prefix] at *
 obtain ⟨⟨a1,a2⟩,a3⟩:=h1
 obtain ⟨⟨b1,b2⟩,b3⟩:=h2
 refine ⟨⟨a1,b2⟩,?_⟩
 rcases a3 with rfl | a3
 · exact b3
 rcases b3 with rfl | b3
 · exact .inr a3
 · right
   obtain ⟨t,rfl⟩:=b3
   obtain ⟨u,rfl⟩:=a3
   exact ⟨t++[47]++u,by simp⟩
theorem bI (n a b:Int) (w:World):
 Calls Tryz.prog 50 #[.int .i64 n,.int .i64 a,.int .i64 b] w fun e w'=>e= .returned (.bool (decide (a≤n) && decide (n≤b)))∧w=w':=by
 by_cases h1:a≤n
 · by_cases h2:n≤b
   · rw [show (decide (a≤n) && decide (n≤b))=true by simp [h1,h2]]
     go_enter Tryz.func50,Tryz.ntmps50
     go_wp2
     go_ret
     exact ⟨rfl,rfl⟩
   · rw [show (decide (a≤n) && decide (n≤b))=false by simp [h2]]
     go_enter Tryz.func50,Tryz.ntmps50
     go_wp2
     go_ret
     exact ⟨rfl,rfl⟩
 · rw [show (decide (a≤n) && decide (n≤b))=false by simp [h1]]
   go_enter Tryz.func50,Tryz.ntmps50
   go_wp2
   go_ret
   exact ⟨rfl,rfl⟩
theorem ky {r:Int} (h1:32≤r) (h2:r≤126):qQ r=true:=by simp [qQ,h1,h2]
theorem dl {r:Int} (h: ¬(32≤r∧r≤126)):qQ r=false:=by unfold qQ;rw [←Bool.decide_and];exact decide_eq_false h
theorem gl (r:Int) (w:World):
 Calls Tryz.prog 202 #[.int .i32 r] w fun e w'=>e= .returned (.bool (qQ r))∧w=w':=by
 by_cases h1:32≤r
 · by_cases h2:r≤126
   · rw [ky h1 h2]
     go_enter Tryz.func202,Tryz.ntmps202
     go_wp2
     go_ret
     exact ⟨rfl,rfl⟩
   · rw [dl (by omega)]
     go_enter Tryz.func202,Tryz.ntmps202
     go_wp2
     go_ret
     exact ⟨rfl,rfl⟩
 · rw [dl (by omega)]
   go_enter Tryz.func202,Tryz.ntmps202
   go_wp2
   go_ret
   exact ⟨rfl,rfl⟩
theorem mV (r:Int) (h0:0≤r) (h1:r < 128) (w:World):
 Calls Tryz.prog 203 #[.int .i32 r] w fun e w'=>e= .returned (.bool (n9 r))∧w=w':=by
 have hc:=fun W=>Tryz.strings_ContainsRune_ascii ⟨#[34,92]⟩ r W h0 h1
 rw [show (ByteArray.mk #[34,92]).data.toList=[34,92] from rfl,xf r h0 h1] at hc
 have HC:=aa9 hc
 clear hc
 go_enter Tryz.func203,Tryz.ntmps203
 go_wp2_with fail
 refine (HC.out _).mono ?_
 rintro e w' ⟨rfl,rfl⟩
 go_wp2
 go_ret
 exact ⟨rfl,rfl⟩
theorem gm {r:Int} (h: ¬(33≤r∧r≤126)):jZ r=false:=by
 unfold jZ;rw [←Bool.decide_and,decide_eq_false h];rfl
theorem mW {r:Int} (h1:33≤r) (h2:r≤126):jZ r= !sY r:=by
 unfold jZ sY;simp [h1,h2]
theorem eP (r:Int) (h0:0≤r) (w:World):
 Calls Tryz.prog 196 #[.int .i32 r] w fun e w'=>e= .returned (.bool (jZ r))∧w=w':=by
 by_cases hs:r=32
 · subst hs
   rw [gm (by omega)]
   go_enter Tryz.func196,Tryz.ntmps196
   go_wp2
   go_ret
   exact ⟨rfl,rfl⟩
 have hs1:(r==32)=false:=by simpa using hs
 have hs2:(r != 32)=true:=by simpa using hs
 by_cases h:32≤r∧r≤126
 · rw [mW (by omega) (by omega)]
   have ht:=fun W=>gl r W
   rw [ky h.1 h.2] at ht
   have hc:=fun W=>Tryz.strings_ContainsRune_ascii ⟨#[40,41,123,34,92]⟩ r W h0 (by omega)
   rw [show (ByteArray.mk #[40,41,123,34,92]).data.toList=[40,41,123,34,92] from rfl,xg r h0 (by omega)] at hc
   have HC:=aa9 hc
   have HT:=aa9 ht
   clear hc ht hs
   go_enter Tryz.func196,Tryz.ntmps196
   go_wp2_with fail
   refine (HT.out _).mono ?_
   rintro e w' ⟨rfl,rfl⟩
   go_wp2_with fail
   refine (HC.out _).mono ?_
   rintro e w' ⟨rfl,rfl⟩
   go_wp2
   go_ret
   exact ⟨rfl,rfl⟩
 · rw [gm (by omega)]
   have ht:=fun W=>gl r W
   rw [dl h] at ht
   have HT:=aa9 ht
   clear ht hs h
   go_enter Tryz.func196,Tryz.ntmps196
   go_wp2_with fail
   refine (HT.out _).mono ?_
   rintro e w' ⟨rfl,rfl⟩
   go_wp2
   go_ret
   exact ⟨rfl,rfl⟩
theorem vt {r:Int} (h1: ¬r < 33) (h2: ¬126 < r) (h3: ¬r=40) (h4: ¬r=41) (h5: ¬r=123) (h6: ¬r=34) (h7: ¬r=92):jZ r=true:=by
 rw [mW (by omega) (by omega)];simp [sY,h3,h4,h5,h6,h7]
theorem ea {r:Int} (h:r < 33∨126 < r∨r=40∨r=41∨r=123∨r=34∨r=92):jZ r=false:=by
 by_cases h1:r < 33
 · exact gm (by omega)
 by_cases h2:126 < r
 · exact gm (by omega)
 rw [mW (by omega) (by omega)]
 have h3:r=40∨r=41∨r=123∨r=34∨r=92:=by omega
 rcases h3 with rfl | rfl | rfl | rfl | rfl <;> rfl
theorem kz (s:ByteArray) (k:Nat) (h:k < s.size) (hn:jZ (s[k].toNat:Int)=false):dE s.data.toList=false:=by
 rw [d4] at hn
 unfold dE;rw [xi cl s k h hn];rfl
theorem oc (s:ByteArray) (h:s.data.toList.all cl=true):dE s.data.toList=(decide ((1:Int)≤(s.size:Int)) && decide ((s.size:Int)≤40)):=by
 unfold dE;rw [h,dI]
 have e1:(1≤s.size)=((1:Int)≤(s.size:Int)):=by rw [eq_iff_iff];omega
 have e2:(s.size≤40)=((s.size:Int)≤40):=by rw [eq_iff_iff];omega
 simp only [e1,e2,Bool.true_and]
theorem eA (s:ByteArray) (w:World) (hs:s.size≤maxLen):
 Calls Tryz.prog 155 #[.string s] w fun e w'=>e= .returned (.bool (dE s.data.toList))∧w=w':=by
 unfold maxLen at hs
 go_enter Tryz.func155,Tryz.ntmps155
 go_wp2
 go_loop [2,3] (fun b i=> ∃ k:Nat,k≤s.size∧b= .bool false∧i= .int .i64 k∧(s.data.toList.take k).all cl=true) (fun _ i=>s.size - (intOf i).toNat)
 case atStart=>exact ⟨0,Nat.zero_le _,rfl,rfl,rfl⟩
 case round=>
  obtain ⟨k,hk,rfl,rfl,hall⟩:=hrel
  have Hall:=aa9 hall
  clear hall
  by_cases hlt:k < s.size
  · have hbn:s[k].toNat < 256:=s[k].toNat_lt
    cases hd:jZ (s[k].toNat:Int) with
    | true=>
      have HA:=aa9 (mU cl s k hlt)
      have Hd:=aa9 hd
      have h1: ¬(s[k].toNat:Int) < 33:=fun h=>by rw [ea (by omega)] at hd;cases hd
      have h2: ¬126 < (s[k].toNat:Int):=fun h=>by rw [ea (by omega)] at hd;cases hd
      have h3:((s[k].toNat:Int)==40)=false:=by cases h:((s[k].toNat:Int)==40) with | false=>rfl | true=>rw [beq_iff_eq] at h;rw [ea (by omega)] at hd;cases hd
      have h4:((s[k].toNat:Int)==41)=false:=by cases h:((s[k].toNat:Int)==41) with | false=>rfl | true=>rw [beq_iff_eq] at h;rw [ea (by omega)] at hd;cases hd
      have h5:((s[k].toNat:Int)==123)=false:=by cases h:((s[k].toNat:Int)==123) with | false=>rfl | true=>rw [beq_iff_eq] at h;rw [ea (by omega)] at hd;cases hd
      have h6:((s[k].toNat:Int)==34)=false:=by cases h:((s[k].toNat:Int)==34) with | false=>rfl | true=>rw [beq_iff_eq] at h;rw [ea (by omega)] at hd;cases hd
      have h7:((s[k].toNat:Int)==92)=false:=by cases h:((s[k].toNat:Int)==92) with | false=>rfl | true=>rw [beq_iff_eq] at h;rw [ea (by omega)] at hd;cases hd
      clear hd
      go_wp2
      go_round
      case rel=>exact ⟨k+1,by omega,rfl,by go_num,by rw [HA.out,Hall.out,←d4,Hd.out];rfl⟩
      case measure=>simp [intOf];omega
    | false=>
      have HB:=aa9 (kz s k hlt hd)
      have hd2: ¬(¬(s[k].toNat:Int) < 33∧ ¬126 < (s[k].toNat:Int)∧((s[k].toNat:Int)==40)=false∧((s[k].toNat:Int)==41)=false∧((s[k].toNat:Int)==123)=false∧((s[k].toNat:Int)==34)=false∧((s[k].toNat:Int)==92)=false):=by
       rintro ⟨h1,h2,h3,h4,h5,h6,h7⟩
       rw [vt h1 h2 (by simpa using h3) (by simpa using h4) (by simpa using h5) (by simpa using h6) (by simpa using h7)] at hd
       cases hd
      have HD:=aa9 hd2
      clear hd hd2
      go_wp2
      all_goals first
       | (go_ret;exact ⟨by rw [HB.out];rfl,rfl⟩)
       | (exfalso;have hh:=HD.out;clear HD;simp only [beq_eq_false_iff_ne,ne_eq] at *;omega)
  · obtain rfl:k=s.size:=by omega
    rw [cj] at Hall
    have HE:=aa9 (oc s Hall.out)
    clear Hall
    go_wp2_with fail
    refine (bI _ _ _ _).mono ?_
    rintro e w' ⟨rfl,rfl⟩
    go_wp2
    go_ret
    exact ⟨by rw [HE.out];rfl,rfl⟩
theorem cZ {w:World} {k pos:Nat} {s:ByteArray} (h:w.heap[k]? =some (.stringIter s pos)):w.iterPos k=pos:=by simp [World.iterPos,h]
theorem lU (s:ByteArray) (w:World) (_hs:s.size≤maxLen):
 Calls Tryz.prog 152 #[.string s] w fun e w'=>e= .returned (.bool (dE s.data.toList))∧Below w.heap.size w w':=by
 unfold maxLen at _hs
 have hk0:(w.iter s 0).heap[w.heap.size]? =some (.stringIter s 0):=World.iter_heap w s 0
 have hb0:Below w.heap.size w (w.iter s 0):=(Below.refl _ w).alloc (Nat.le_refl _) _
 go_enter Tryz.func152,Tryz.ntmps152
 go_wp2
 go_loopw [2] (fun b wr=> ∃ pos:Nat,pos≤s.size∧b= .bool false∧wr.heap[w.heap.size]? =some (.stringIter s pos)∧(s.data.toList.take pos).all cl=true∧Below w.heap.size w wr)
  (fun _ wr=>s.size - wr.iterPos w.heap.size)
 case atStart=>exact ⟨0,Nat.zero_le _,rfl,hk0,rfl,hb0⟩
 case round=>
  obtain ⟨pos,hps,rfl,hk,hall,hbr⟩:=hrel
  have Hall:=aa9 hall
  clear hall hk0 hb0
  have hmu:=aa9 (cZ hk)
  by_cases hp:pos < s.size
  · have hbn:s[pos].toNat < 256:=s[pos].toNat_lt
    by_cases ha:s[pos].toNat < 128
    · have hnx: ∀ ty,(Instr.next (.pointer (some ⟨w.heap.size,0,none⟩)) true ty).run Tryz.prog wr=_:=fun ty=>Lib.run_next_ascii_at wr w.heap.size s pos ty hk hp ha
      have hk1:=aa9 (Lib.iterAt_heap wr w.heap.size s pos (pos+1) hk)
      have hb1:Below w.heap.size w (wr.iterAt w.heap.size s (pos+1)):=Lib.below_iterAt hbr (Nat.le_refl _) s (pos+1)
      clear hk hbr
      generalize wr.iterAt w.heap.size s (pos+1)=W1 at hnx hk1 hb1
      have hc:=fun W=>eP (s[pos].toNat:Int) (by omega) W
      cases hd:jZ (s[pos].toNat:Int) with
      | true=>
        have HA:=aa9 (mU cl s pos hp)
        have Hd:=aa9 hd
        rw [hd] at hc
        have HC:=aa9 hc
        clear hd hc
        go_wp2_with fail
        refine (HC.out _).mono ?_
        rintro e w' ⟨rfl,rfl⟩
        go_wp2
        go_roundw
        case rel=>exact ⟨pos+1,by omega,rfl,hk1.out,by rw [HA.out,Hall.out,←d4,Hd.out];rfl,hb1⟩
        case measure=>rw [hmu.out,cZ hk1.out];omega
      | false=>
        have HB:=aa9 (kz s pos hp hd)
        rw [hd] at hc
        have HC:=aa9 hc
        clear hd hc
        go_wp2_with fail
        refine (HC.out _).mono ?_
        rintro e w' ⟨rfl,rfl⟩
        go_wp2
        go_ret
        exact ⟨by rw [HB.out];rfl,hb1⟩
    · have hnx: ∀ ty,(Instr.next (.pointer (some ⟨w.heap.size,0,none⟩)) true ty).run Tryz.prog wr=_:=fun ty=>Lib.run_next_any_at wr w.heap.size s pos ty hk hp
      have hhi:=(decode_high s pos hp (by omega)).1
      have hb1:Below w.heap.size w (wr.iterAt w.heap.size s (pos+(Utf8.decode s pos).2)):=Lib.below_iterAt hbr (Nat.le_refl _) s _
      clear hk hbr
      generalize wr.iterAt w.heap.size s (pos+(Utf8.decode s pos).2)=W1 at hnx hb1
      generalize (Utf8.decode s pos).1=r at hnx hhi
      have hc:=fun W=>eP (r:Int) (by omega) W
      rw [gm (by omega)] at hc
      have HC:=aa9 hc
      have HB:=aa9 (kz s pos hp (gm (by omega)))
      clear hc
      go_wp2_with fail
      refine (HC.out _).mono ?_
      rintro e w' ⟨rfl,rfl⟩
      go_wp2
      go_ret
      exact ⟨by rw [HB.out];rfl,hb1⟩
  · have hnx: ∀ ty,(Instr.next (.pointer (some ⟨w.heap.size,0,none⟩)) true ty).run Tryz.prog wr=_:=fun ty=>Lib.run_next_end_at wr w.heap.size s pos ty hk hp
    obtain rfl:pos=s.size:=by omega
    rw [cj] at Hall
    have HE:=aa9 (oc s Hall.out)
    clear Hall hk hmu
    by_cases h1:(1:Int)≤(s.size:Int)
    · by_cases h2:(s.size:Int)≤40
      · rw [show (decide ((1:Int)≤(s.size:Int)) && decide ((s.size:Int)≤40))=true by simp [h1,h2]] at HE
        go_wp2
        go_ret
        exact ⟨by rw [HE.out];rfl,hbr⟩
      · rw [show (decide ((1:Int)≤(s.size:Int)) && decide ((s.size:Int)≤40))=false by simp [h2]] at HE
        go_wp2
        go_ret
        exact ⟨by rw [HE.out];rfl,hbr⟩
    · rw [show (decide ((1:Int)≤(s.size:Int)) && decide ((s.size:Int)≤40))=false by simp [h1]] at HE
      go_wp2
      go_ret
      exact ⟨by rw [HE.out];rfl,hbr⟩
theorem zP (w:World) (cs:Array Value) (n:Nat) (e:TypeId) (size base:Nat) (hb:base≤w.heap.size) (hm:n≤maxLen) (hs:cs.size=n * size):
 (w.alloc (.cells cs e)).ownsRow base e size (.slice (some ⟨w.heap.size,0,none⟩) n n) n cs.toList:=
 ⟨by simpa using hs,.inr ⟨w.heap.size,n,cs,rfl,hb,heap_alloc_new w _,Nat.le_refl _,hm,hs,by rw [List.take_of_length_le];simp [hs]⟩⟩
theorem rL {w w':World} {B e size n:Nat} {v:Value} {xs:List Value} (h:w.ownsRow B e size v n xs) (hb: ∀ g,v.ownBlock=some g→w'.heap[g]? =w.heap[g]?):w'.ownsRow B e size v n xs:=
 ⟨h.1,h.2.imp id fun ⟨g,cap,cur,hv,h1,h2,h3⟩=>⟨g,cap,cur,hv,h1,(hb g (by rw [hv];rfl)).trans h2,h3⟩⟩
theorem kA {w:World} {B e size n:Nat} {v:Value} {xs:List Value} (h:w.ownsRow B e size v n xs) {g k pos:Nat} {s:ByteArray} (hg:v.ownBlock=some g) (hk:w.heap[k]? =some (.stringIter s pos)):g ≠ k:=by
 intro e
 rcases h.2 with ⟨hv,_⟩ | ⟨g',_,_,hv,_,h2,_⟩
 · rw [hv] at hg;simp [Value.ownBlock] at hg
 · rw [hv] at hg
   obtain rfl:g'=g:=by simpa [Value.ownBlock] using hg
   rw [e,hk] at h2
   cases h2
theorem rM {w:World} {B e size n:Nat} {v:Value} {xs:List Value} {k:Nat} {s:ByteArray} {pos:Nat} (h:w.ownsRow B e size v n xs) (hk:w.heap[k]? =some (.stringIter s pos)) (pos':Nat):(w.iterAt k s pos').ownsRow B e size v n xs:=
 rL h fun _ hg=>Lib.iterAt_other _ _ _ _ _ (kA h hg hk)
theorem pU {w:World} {B e size n:Nat} {v:Value} {xs:List Value} {k:Nat} {s:ByteArray} {pos:Nat} (h:w.ownsRow B e size v n xs) (hk:w.heap[k]? =some (.stringIter s pos)):some k ≠ v.ownBlock:=
 fun e=>kA h e.symm hk rfl
theorem kB {a b:Int} (h:(a==b)=true):(a != b)=false:=by simp only [bne,h];rfl
theorem dm {a b:Int} (h:(a==b)=false):(a != b)=true:=by simp only [bne,h];rfl
def aaL (s:ByteArray) (k:Nat) (a:Bool) (U:Bool):Prop:=
 bm (s.data.toList.drop k) a=U∧(k=0→a=true)∧(∀ j,k=j+1→ ∀ h:j < s.size,a=decide (s[j].toNat=47))∧(k=s.size→0 < k→a=false)
theorem vu {l:List UInt8} {U:Bool} (h:bm l true=U):aH l=(U && decide (l.length≤12)):=by unfold aH;rw [h]
theorem mi {s:ByteArray} {U:Bool} (h:bm s.data.toList true=U):aH s.data.toList=(U && decide ((s.size:Int)≤12)):=by
 rw [vu h,dI]
 have e2:(s.size≤12)=((s.size:Int)≤12):=by rw [eq_iff_iff];omega
 simp only [e2]
theorem td (s:ByteArray) (k:Nat) (h:k < s.size) (hb:((s[k].toNat:Int)==47)=true):bm (s.data.toList.drop k) false=bm (s.data.toList.drop (k+1)) true∧bm (s.data.toList.drop k) true=false:=by
 rw [bE s k h]
 exact ff _ (by have:=beq_iff_eq.1 hb;omega)
theorem qR (s:ByteArray) (k:Nat) (h:k < s.size) (a:Bool) (h0: ¬(s[k].toNat:Int) < 97) (h1: ¬122 < (s[k].toNat:Int)):bm (s.data.toList.drop k) a=bm (s.data.toList.drop (k+1)) false:=by
 rw [bE s k h]
 exact gK _ a (by omega) (by omega)
theorem te (s:ByteArray) (k:Nat) (h:k < s.size) (a:Bool) (hb:((s[k].toNat:Int)==47)=false) (h1:(s[k].toNat:Int) < 97∨122 < (s[k].toNat:Int)):bm (s.data.toList.drop k) a=false:=by
 rw [bE s k h]
 exact kx _ a (by have:=beq_eq_false_iff_ne.1 hb;omega) (by omega)
theorem xm (s:ByteArray) (k:Nat) (h: ¬k < s.size) (a:Bool):bm (s.data.toList.drop k) a= !a:=by rw [ck s k h];rfl
theorem eB (s:ByteArray) (w:World) (hs:s.size≤maxLen):
 Calls Tryz.prog 53 #[.string s] w fun e w'=>e= .returned (.bool (aH s.data.toList))∧w=w':=by
 unfold maxLen at hs
 obtain ⟨U,hU⟩: ∃ U,bm s.data.toList true=U:=⟨_,rfl⟩
 have hV:=mi hU
 generalize aH s.data.toList=V at *
 have HU:=aa9 hU
 have HV:=aa9 hV
 clear hU hV
 go_enter Tryz.func53,Tryz.ntmps53
 go_wp2
 go_loop [3] (fun i=> ∃ (k:Nat) (a:Bool),k≤s.size∧i= .int .i64 k∧aaL s k a U) (fun i=>s.size - (intOf i).toNat)
 case atStart=>exact ⟨0,true,Nat.zero_le _,rfl,HU.out,fun _=>rfl,fun j h=>by omega,fun _ h=>by omega⟩
 case round=>
  obtain ⟨k,a,hk,rfl,hrun,h0,hj,he⟩:=hrel
  by_cases hlt:k < s.size
  · have hbn:s[k].toNat < 256:=s[k].toNat_lt
    cases hb:((s[k].toNat:Int)==47) with
    | true=>
      obtain ⟨r1,r2⟩:=td s k hlt hb
      cases k with
      | zero=>
        have HV2:=aa9 (show V=false by rw [HV.out,←hrun,h0 rfl,r2];rfl)
        clear hrun h0 hj he r1 r2
        go_wp2
        go_ret
        exact ⟨by rw [HV2.out];rfl,rfl⟩
      | succ j=>
        have hjl:j < s.size:=by omega
        have haj:=hj j rfl hjl
        have hbj:s[j].toNat < 256:=s[j].toNat_lt
        cases h1:((j:Int)+1==(s.size:Int) - 1) with
        | true=>
          have hU:U=false:=by
           rw [←hrun]
           cases a with
           | true=>exact r2
           | false=>rw [r1,xm s (j+1+1) (by have:=beq_iff_eq.1 h1;omega)];rfl
          have HV2:=aa9 (show V=false by rw [HV.out,hU];rfl)
          clear hrun h0 hj he r1 r2 haj hU
          go_wp2
          go_ret
          exact ⟨by rw [HV2.out];rfl,rfl⟩
        | false=>
          cases h2:((s[j].toNat:Int)==47) with
          | true=>
            have hU:U=false:=by rw [←hrun,haj,decide_eq_true (by have:=beq_iff_eq.1 h2;omega),r2]
            have HV2:=aa9 (show V=false by rw [HV.out,hU];rfl)
            clear hrun h0 hj he r1 r2 haj hU
            go_wp2
            go_ret
            exact ⟨by rw [HV2.out];rfl,rfl⟩
          | false=>
            have ha:a=false:=by rw [haj];exact decide_eq_false (by have:=beq_eq_false_iff_ne.1 h2;omega)
            have HR:=aa9 (show bm (s.data.toList.drop (j+1+1)) true=U by rw [←hrun,ha,r1])
            have HE:=aa9 (show ¬j+1+1=s.size by have:=beq_eq_false_iff_ne.1 h1;omega)
            have HB:=aa9 hb
            clear hrun h0 hj he r1 r2 haj ha
            go_wp2
            go_round
            case rel=>exact ⟨j+1+1,true,by omega,by go_num,HR.out,fun _=>rfl,fun i hi hl=>by
             obtain rfl:i=j+1:=by omega
             exact (decide_eq_true (by have:=beq_iff_eq.1 HB.out;omega)).symm,fun h=>absurd h HE.out⟩
            case measure=>simp [intOf];omega
    | false=>
      by_cases h1:(s[k].toNat:Int) < 97
      · have HV2:=aa9 (show V=false by rw [HV.out,←hrun,te s k hlt a hb (.inl h1)];rfl)
        clear hrun h0 hj he
        go_wp2
        go_ret
        exact ⟨by rw [HV2.out];rfl,rfl⟩
      by_cases h2:122 < (s[k].toNat:Int)
      · have HV2:=aa9 (show V=false by rw [HV.out,←hrun,te s k hlt a hb (.inr h2)];rfl)
        clear hrun h0 hj he
        go_wp2
        go_ret
        exact ⟨by rw [HV2.out];rfl,rfl⟩
      have HR:=aa9 (show bm (s.data.toList.drop (k+1)) false=U by rw [←hrun,qR s k hlt a h1 h2])
      have HB:=aa9 hb
      clear hrun h0 hj he
      go_wp2
      go_round
      case rel=>exact ⟨k+1,false,by omega,by go_num,HR.out,fun h=>by omega,fun i hi hl=>by
       obtain rfl:i=k:=by omega
       exact (decide_eq_false (by have:=beq_eq_false_iff_ne.1 HB.out;omega)).symm,fun _ _=>rfl⟩
      case measure=>simp [intOf];omega
  · obtain rfl:k=s.size:=by omega
    have hl:=fun W=>bI (s.size:Int) 1 12 W
    have HV2:Hid (V=(decide ((1:Int)≤(s.size:Int)) && decide ((s.size:Int)≤12))):=by
     apply aa9
     rw [HV.out,←hrun,xm s s.size hlt]
     by_cases h:s.size=0
     · rw [h0 h,h];rfl
     · rw [he rfl (by omega),decide_eq_true (show (1:Int)≤(s.size:Int) by omega)];rfl
    have HL:=aa9 hl
    clear hrun h0 hj he hl
    go_wp2_with fail
    refine (HL.out _).mono ?_
    rintro e w' ⟨rfl,rfl⟩
    go_wp2
    go_ret
    exact ⟨by rw [HV2.out];rfl,rfl⟩
theorem bP (s:ByteArray) (w:World) (_hs:s.size≤maxLen):
 Calls Tryz.prog 100 #[.string s] w fun e w'=>e= .returned (.bool (aH s.data.toList))∧Below w.heap.size w w':=by
 unfold maxLen at _hs
 obtain ⟨U,hU⟩: ∃ U,bm s.data.toList true=U:=⟨_,rfl⟩
 have hV:=mi hU
 generalize aH s.data.toList=V at *
 have HU:=aa9 hU
 have HV:=aa9 hV
 have hk0:(w.iter s 0).heap[w.heap.size]? =some (.stringIter s 0):=World.iter_heap w s 0
 have hb0:Below w.heap.size w (w.iter s 0):=(Below.refl _ w).alloc (Nat.le_refl _) _
 clear hU hV
 go_enter Tryz.func100,Tryz.ntmps100
 go_wp2
 go_loopw [3] (fun b wr=> ∃ (k:Nat) (a:Bool),k≤s.size∧b= .bool a∧wr.heap[w.heap.size]? =some (.stringIter s k)∧bm (s.data.toList.drop k) a=U∧Below w.heap.size w wr)
  (fun _ wr=>s.size - wr.iterPos w.heap.size)
 case atStart=>exact ⟨0,true,Nat.zero_le _,rfl,hk0,HU.out,hb0⟩
 case round=>
  obtain ⟨k,a,hk,rfl,hit,hrun,hbr⟩:=hrel
  clear hk0 hb0
  have hmu:=aa9 (cZ hit)
  by_cases hlt:k < s.size
  · have hbn:s[k].toNat < 256:=s[k].toNat_lt
    by_cases ha:s[k].toNat < 128
    · have hnx: ∀ ty,(Instr.next (.pointer (some ⟨w.heap.size,0,none⟩)) true ty).run Tryz.prog wr=_:=fun ty=>Lib.run_next_ascii_at wr w.heap.size s k ty hit hlt ha
      have hk1:=aa9 (Lib.iterAt_heap wr w.heap.size s k (k+1) hit)
      have hb1:Below w.heap.size w (wr.iterAt w.heap.size s (k+1)):=Lib.below_iterAt hbr (Nat.le_refl _) s (k+1)
      clear hit hbr
      generalize wr.iterAt w.heap.size s (k+1)=W1 at hnx hk1 hb1
      cases hb:((s[k].toNat:Int)==47) with
      | true=>
        have hb2:=kB hb
        obtain ⟨r1,r2⟩:=td s k hlt hb
        cases a with
        | true=>
          have HV2:=aa9 (show V=false by rw [HV.out,←hrun,r2];rfl)
          clear hrun r1 r2
          go_wp2
          go_ret
          exact ⟨by rw [HV2.out];rfl,hb1⟩
        | false=>
          have HR:=aa9 (show bm (s.data.toList.drop (k+1)) true=U by rw [←hrun,r1])
          clear hrun r1 r2
          go_wp2
          go_roundw
          case rel=>exact ⟨k+1,true,by omega,rfl,hk1.out,HR.out,hb1⟩
          case measure=>rw [hmu.out,cZ hk1.out];omega
      | false=>
        have hb2:=dm hb
        by_cases h1:(s[k].toNat:Int) < 97
        · have HV2:=aa9 (show V=false by rw [HV.out,←hrun,te s k hlt a hb (.inl h1)];rfl)
          clear hrun
          go_wp2
          go_ret
          exact ⟨by rw [HV2.out];rfl,hb1⟩
        by_cases h2:122 < (s[k].toNat:Int)
        · have HV2:=aa9 (show V=false by rw [HV.out,←hrun,te s k hlt a hb (.inr h2)];rfl)
          clear hrun
          go_wp2
          go_ret
          exact ⟨by rw [HV2.out];rfl,hb1⟩
        have HR:=aa9 (show bm (s.data.toList.drop (k+1)) false=U by rw [←hrun,qR s k hlt a h1 h2])
        clear hrun
        go_wp2
        go_roundw
        case rel=>exact ⟨k+1,false,by omega,rfl,hk1.out,HR.out,hb1⟩
        case measure=>rw [hmu.out,cZ hk1.out];omega
    · have hnx: ∀ ty,(Instr.next (.pointer (some ⟨w.heap.size,0,none⟩)) true ty).run Tryz.prog wr=_:=fun ty=>Lib.run_next_any_at wr w.heap.size s k ty hit hlt
      have hhi:=(decode_high s k hlt (by omega)).1
      have hb1:Below w.heap.size w (wr.iterAt w.heap.size s (k+(Utf8.decode s k).2)):=Lib.below_iterAt hbr (Nat.le_refl _) s _
      clear hit hbr
      generalize wr.iterAt w.heap.size s (k+(Utf8.decode s k).2)=W1 at hnx hb1
      generalize (Utf8.decode s k).1=r at hnx hhi
      have HV2:=aa9 (show V=false by rw [HV.out,←hrun,te s k hlt a (by simp;omega) (.inr (by omega))];rfl)
      have hb:((r:Int)==47)=false:=by simp;omega
      have hb2:=dm hb
      have h1: ¬(r:Int) < 97:=by omega
      have h2:122 < (r:Int):=by omega
      clear hrun
      go_wp2
      go_ret
      exact ⟨by rw [HV2.out];rfl,hb1⟩
  · have hnx: ∀ ty,(Instr.next (.pointer (some ⟨w.heap.size,0,none⟩)) true ty).run Tryz.prog wr=_:=fun ty=>Lib.run_next_end_at wr w.heap.size s k ty hit hlt
    have hV2:V=(!a && decide ((s.size:Int)≤12)):=by rw [HV.out,←hrun,xm s k hlt]
    clear hrun hit
    cases a with
    | true=>
      have HV2:=aa9 (show V=false by rw [hV2];rfl)
      clear hV2
      go_wp2
      go_ret
      exact ⟨by rw [HV2.out];rfl,hbr⟩
    | false=>
      by_cases h:(s.size:Int)≤12
      · have HV2:=aa9 (show V=true by rw [hV2,decide_eq_true h];rfl)
        clear hV2
        go_wp2
        go_ret
        exact ⟨by rw [HV2.out];rfl,hbr⟩
      · have HV2:=aa9 (show V=false by rw [hV2,decide_eq_false h];rfl)
        clear hV2
        go_wp2
        go_ret
        exact ⟨by rw [HV2.out];rfl,hbr⟩
theorem yp {x y:List UInt8} (h:aH x=false):ep x y=false:=by unfold ep;rw [h];rfl
theorem yq {x y:List UInt8} (h:aH y=false):ep x y=false:=by unfold ep;rw [h];simp
theorem zm {x y:List UInt8} (h1:aH x=true) (h2:aH y=true) (h:x=y):ep x y=true:=by unfold ep;rw [h1,h2];simp [h]
theorem zn {x y:List UInt8} (h1:aH x=true) (h2:aH y=true) (h: ¬x=y):ep x y=Lib.hasPrefix x (y++[47]):=by unfold ep;rw [h1,h2];simp [h]
theorem tf {x:List UInt8} (h:aH x=true):x.length≤12:=by unfold aH at h;simp only [Bool.and_eq_true,decide_eq_true_eq] at h;exact h.2
theorem xn (a b:List UInt8):(a==b)=decide (a=b):=by rw [Bool.eq_iff_iff];simp
theorem yr {x y:ByteArray} :(x.toList==y.toList)=decide (x.data.toList=y.data.toList):=by
 rw [Lib.toList_data,Lib.toList_data,xn]
theorem qS:uqV none= .tuple #[.string ⟨#[]⟩,.int .i64 (-1)]:=rfl
theorem ka (t:List UInt8) (n:Nat):uqV (some (t,n))= .tuple #[sv t,.int .i64 (n:Int)]:=rfl
theorem tg (l:List UInt8) (a:Int) (h:a < 0):uqO l a=none:=if_pos h
theorem th (s:ByteArray) (p:Nat) (h: ¬p < s.size):uqO s.data.toList (p:Int)=none:=by
 unfold uqO
 rw [if_neg (by omega),Int.toNat_natCast,ck s p h]
theorem ti (s:ByteArray) (p:Nat) (h:p < s.size):uqO s.data.toList (p:Int)=if (s[p].toNat:Int)=34 then eH (s.data.toList.drop (p+1)) (p+1) [] else none:=by
 unfold uqO
 rw [if_neg (by omega),Int.toNat_natCast,bE s p h]
 simp only
 by_cases h1:s[p].toNat=34
 · rw [if_pos h1,if_pos (by omega)]
 · rw [if_neg h1,if_neg (by omega)]
theorem vg (v:List UInt8) (b:UInt8):(v++[b]).map bv=v.map bv++[bv b]:=by simp
theorem tj (s:ByteArray) (k:Nat) (h:k < s.size) (q:Nat) (acc:List UInt8) (hb:((s[k].toNat:Int)==34)=true) (h2: ¬40 < (acc.length:Int)):eH (s.data.toList.drop k) q acc=some (acc,q+1):=by
 rw [bE s k h,dk _ _ _ (by have:=beq_iff_eq.1 hb;omega),if_neg (by omega)]
theorem od (s:ByteArray) (k:Nat) (h:k < s.size) (q:Nat) (acc:List UInt8) (hb:((s[k].toNat:Int)==34)=true) (h2:40 < (acc.length:Int)):eH (s.data.toList.drop k) q acc=none:=by
 rw [bE s k h,dk _ _ _ (by have:=beq_iff_eq.1 hb;omega),if_pos (by omega)]
theorem tk (s:ByteArray) (k:Nat) (h:k < s.size) (q:Nat) (acc:List UInt8) (hb:((s[k].toNat:Int)==92)=true):eH (s.data.toList.drop k) q acc=jl (s.data.toList.drop (k+1)) (q+1) acc:=by
 rw [bE s k h,d5 _ _ _ (by have:=beq_iff_eq.1 hb;omega)]
theorem yt (s:ByteArray) (k:Nat) (h:k < s.size) (q:Nat) (acc:List UInt8) (hb:n9 (s[k].toNat:Int)=true):jl (s.data.toList.drop k) q acc=eH (s.data.toList.drop (k+1)) (q+1) (acc++[s[k]]):=by
 rw [ob] at hb
 rw [bE s k h,eM _ _ _ hb]
theorem ke (s:ByteArray) (k:Nat) (h:k < s.size) (q:Nat) (acc:List UInt8) (hb:n9 (s[k].toNat:Int)=false):jl (s.data.toList.drop k) q acc=none:=by
 rw [ob] at hb
 rw [bE s k h,io _ _ _ hb]
theorem oe (s:ByteArray) (k:Nat) (h: ¬k < s.size) (q:Nat) (acc:List UInt8):jl (s.data.toList.drop k) q acc=none:=by
 rw [ck s k h];rfl
theorem xo (s:ByteArray) (k:Nat) (h:k < s.size) (q:Nat) (acc:List UInt8) (hb:qQ (s[k].toNat:Int)=false):eH (s.data.toList.drop k) q acc=none:=by
 rw [oa] at hb
 rw [bE s k h,im _ _ _ hb]
theorem tl (s:ByteArray) (k:Nat) (h:k < s.size) (q:Nat) (acc:List UInt8) (h3:((s[k].toNat:Int)==34)=false) (h4:((s[k].toNat:Int)==92)=false) (hb:qQ (s[k].toNat:Int)=true):eH (s.data.toList.drop k) q acc=eH (s.data.toList.drop (k+1)) (q+1) (acc++[s[k]]):=by
 rw [oa] at hb
 have e3:=beq_eq_false_iff_ne.1 h3
 have e4:=beq_eq_false_iff_ne.1 h4
 rw [bE s k h,d6 _ _ _ (by omega) (by omega) hb]
theorem yu (s:ByteArray) (k:Nat) (h: ¬k < s.size) (q:Nat) (acc:List UInt8):eH (s.data.toList.drop k) q acc=none:=by
 rw [ck s k h,il]
theorem mX {r:Int} (h:n9 r=true):(r==34)=true∨(r==34)=false∧(r==92)=true:=by
 unfold n9 at h
 simp only [Bool.or_eq_true,decide_eq_true_eq] at h
 by_cases h1:r=34
 · exact .inl (by rw [h1];rfl)
 · exact .inr ⟨by simpa using h1,by simpa using h.resolve_left h1⟩
theorem tn {r:Int} (h:n9 r=false):(r==34)=false∧(r==92)=false:=by
 unfold n9 at h
 simp only [Bool.or_eq_false_iff,decide_eq_false_iff_not] at h
 exact ⟨by simpa using h.1,by simpa using h.2⟩
theorem vv {r:Int} (h:qQ r=false):r < 32∨ ¬r < 32∧126 < r:=by
 by_cases h1:r < 32
 · exact .inl h1
 by_cases h2:126 < r
 · exact .inr ⟨h1,h2⟩
 rw [ky (by omega) (by omega)] at h;cases h
theorem qU {r:Int} (h:qQ r=true): ¬r < 32∧ ¬126 < r:=by
 constructor
 · intro h1;rw [dl (by omega)] at h;cases h
 · intro h1;rw [dl (by omega)] at h;cases h
theorem qV {r:Int} (h:n9 r=true):qQ r=true:=by
 rcases mX h with h1 | ⟨_,h1⟩
 · rw [beq_iff_eq] at h1;subst h1;rfl
 · rw [beq_iff_eq] at h1;subst h1;rfl
theorem iq {a b:Int} (h:(a==b)=true):(a != b)=false:=by simp only [bne,h];rfl
theorem gL {a b:Int} (h:(a==b)=false):(a != b)=true:=by simp only [bne,h];rfl
theorem fN {w:World} {B n size:Nat} {e:TypeId} {v:Value} {xs:List Value} (h:w.ownsRow B e size v n xs): ∃ p c,v= .slice p n c:=by
 rcases h.2 with ⟨hv,h0⟩ | ⟨g,cap,cur,hv,_⟩
 · exact ⟨none,0,by rw [hv,h0]⟩
 · exact ⟨_,cap,hv⟩
def zQ (s:ByteArray) (U:Option (List UInt8×Nat)) (k:Nat) (acc:List UInt8) (n:Nat):Prop:=eH (s.data.toList.drop k) k acc=U∧n=acc.length
theorem kC (s:ByteArray) (a:Int) (w:World) (hs:s.size≤1048576):
 Calls Tryz.prog 170 #[.string s,.int .i64 a] w fun e w'=>e= .returned (uqV (uqO s.data.toList a))∧Below w.heap.size w w':=by
 by_cases hin:0≤a∧a≤(s.size:Int) - 1
 · have hl:=fun W=>bI a 0 ((s.size:Int) - 1) W
   rw [show (decide ((0:Int)≤a) && decide (a≤(s.size:Int) - 1))=true by simp [hin]] at hl
   have HL:=aa9 hl
   clear hl
   obtain ⟨p,rfl⟩:=Int.eq_ofNat_of_zero_le hin.1
   have hp:p < s.size:=by omega
   have hbn:s[p].toNat < 256:=s[p].toNat_lt
   have hU:=ti s p hp
   clear hin
   by_cases hq:(s[p].toNat:Int)=34
   · rw [if_pos hq] at hU
     have hq1:((s[p].toNat:Int)==34)=true:=by rw [hq];rfl
     have hq2:=iq hq1
     generalize uqO s.data.toList (p:Int)=U at *
     have HU:=aa9 hU.symm
     clear hU hq
     go_enter Tryz.func170,Tryz.ntmps170
     go_wp2_with fail
     refine (HL.out _).mono ?_
     rintro e w' ⟨rfl,rfl⟩
     go_wp2
     go_loopw [6,7] (fun v i wr=> ∃ (k n:Nat) (acc:List UInt8),k≤s.size∧n≤k∧i= .int .i64 k∧zQ s U k acc n∧wr.ownsRow w.heap.size 5 1 v n (acc.map bv)∧Below w.heap.size w wr) (fun _ i _=>s.size - (intOf i).toNat)
     case atStart=>exact ⟨p+1,0,[],by omega,by omega,by go_num,⟨HU.out,rfl⟩,by simpa using World.ownsRow_made w #[] 0 (Nat.le_refl _) (by unfold maxLen;omega) rfl,(Below.refl _ _).alloc (Nat.le_refl _) _⟩
     case round=>
      obtain ⟨k,n,acc,hk,hnk,rfl,⟨hrun,hn⟩,hown,hbr⟩:=hrel
      have HN:=aa9 hn
      have hbr0:=hbr.size
      clear hq1 hq2 HU HL
      by_cases hlt:k < s.size
      · have hbk:s[k].toNat < 256:=s[k].toNat_lt
        cases h3:((s[k].toNat:Int)==34) with
        | true=>
          obtain ⟨pv,cv,rfl⟩:=fN hown
          by_cases h40:40 < (n:Int)
          · have hr:=od s k hlt k acc h3 (by omega)
            have HR:=aa9 (show U=none by rw [←hrun,hr])
            clear hrun hr hn hown
            go_wp2
            go_ret2
            exact ⟨by rw [HR.out];rfl,hbr⟩
          · have hr:=tj s k hlt k acc h3 (by omega)
            have HR:=aa9 (show U=some (acc,k+1) by rw [←hrun,hr])
            have hback:=mM (P:=Tryz.prog) 22 9 5 hown hn.symm Tryz.underlying22 Tryz.underlying5 Tryz.underlying9
            clear hrun hr hn hown
            go_wp2
            go_ret2
            exact ⟨by rw [HR.out,ka];rfl,hbr⟩
        | false=>
          cases h4:((s[k].toNat:Int)==92) with
          | true=>
            have hr:=tk s k hlt k acc h4
            by_cases hlt2:k+1 < s.size
            · have hlt3: ¬(s.size:Int)≤(k:Int)+1:=by omega
              have hbk2:s[k+1].toNat < 256:=s[k+1].toNat_lt
              cases he:n9 (s[k+1].toNat:Int) with
              | true=>
                have HR:=aa9 (show eH (s.data.toList.drop (k+1+1)) (k+1+1) (acc++[s[k+1]])=U by rw [←hrun,hr,yt s (k+1) hlt2 (k+1) acc he])
                have he2:=mX he
                clear hrun hr hn he
                rcases he2 with h5 | ⟨h5,h6⟩
                · have h7:=iq h5
                  go_wp2_with (at_builtin;refine aE Tryz.el_u8 rfl (.tmp 75) (.tmp 79) rfl w wr u6 n _ rfl hown hbr hbr0 _ (.inr rfl) 1 1 rfl rfl (by simp [Value.oneCell']) (by omega) (by omega) (by omega) ?_)
                  intro g cap w1 hown1 hb1 _ _ _
                  clear hown hbr hbr0
                  go_wp2
                  go_roundw
                  case rel=>exact ⟨k+1+1,n+1,acc++[s[k+1]],by omega,by omega,by go_num,⟨HR.out,by rw [HN.out];simp⟩,by rw [List.map_append];exact hown1,hb1⟩
                  case measure=>simp [intOf];omega
                · have h7:=gL h5
                  have h8:=iq h6
                  go_wp2_with (at_builtin;refine aE Tryz.el_u8 rfl (.tmp 75) (.tmp 79) rfl w wr u6 n _ rfl hown hbr hbr0 _ (.inr rfl) 1 1 rfl rfl (by simp [Value.oneCell']) (by omega) (by omega) (by omega) ?_)
                  intro g cap w1 hown1 hb1 _ _ _
                  clear hown hbr hbr0
                  go_wp2
                  go_roundw
                  case rel=>exact ⟨k+1+1,n+1,acc++[s[k+1]],by omega,by omega,by go_num,⟨HR.out,by rw [HN.out];simp⟩,by rw [List.map_append];exact hown1,hb1⟩
                  case measure=>simp [intOf];omega
              | false=>
                have HR:=aa9 (show U=none by rw [←hrun,hr,ke s (k+1) hlt2 (k+1) acc he])
                obtain ⟨h5,h6⟩:=tn he
                have h7:=gL h5
                have h8:=gL h6
                clear hrun hr hn he hown
                go_wp2
                go_ret2
                exact ⟨by rw [HR.out];rfl,hbr⟩
            · have hlt3:(s.size:Int)≤(k:Int)+1:=by omega
              have HR:=aa9 (show U=none by rw [←hrun,hr,oe s (k+1) hlt2 (k+1) acc])
              clear hrun hr hn hown
              go_wp2
              go_ret2
              exact ⟨by rw [HR.out];rfl,hbr⟩
          | false=>
            cases hd:qQ (s[k].toNat:Int) with
            | true=>
              have HR:=aa9 (show eH (s.data.toList.drop (k+1)) (k+1) (acc++[s[k]])=U by rw [←hrun,tl s k hlt k acc h3 h4 hd])
              obtain ⟨h5,h6⟩:=qU hd
              clear hrun hn hd
              go_wp2_with (at_builtin;refine aE Tryz.el_u8 rfl (.tmp 75) (.tmp 79) rfl w wr u6 n _ rfl hown hbr hbr0 _ (.inr rfl) 1 1 rfl rfl (by simp [Value.oneCell']) (by omega) (by omega) (by omega) ?_)
              intro g cap w1 hown1 hb1 _ _ _
              clear hown hbr hbr0
              go_wp2
              go_roundw
              case rel=>exact ⟨k+1,n+1,acc++[s[k]],by omega,by omega,by go_num,⟨HR.out,by rw [HN.out];simp⟩,by rw [List.map_append];exact hown1,hb1⟩
              case measure=>simp [intOf];omega
            | false=>
              have HR:=aa9 (show U=none by rw [←hrun,xo s k hlt k acc hd])
              have h5:=vv hd
              clear hrun hn hd hown
              rcases h5 with h5 | ⟨h5,h6⟩
              all_goals
               go_wp2
               go_ret2
               exact ⟨by rw [HR.out];rfl,hbr⟩
      · obtain rfl:k=s.size:=by omega
        have HR:=aa9 (show U=none by rw [←hrun,yu s s.size hlt s.size acc])
        clear hrun hn hown
        go_wp2
        go_ret2
        exact ⟨by rw [HR.out];rfl,hbr⟩
   · rw [if_neg hq] at hU
     have hq1:((s[p].toNat:Int)==34)=false:=by simpa using hq
     have hq2:=gL hq1
     have HU:=aa9 hU
     clear hU hq
     go_enter Tryz.func170,Tryz.ntmps170
     go_wp2_with fail
     refine (HL.out _).mono ?_
     rintro e w' ⟨rfl,rfl⟩
     go_wp2
     go_ret2
     exact ⟨by rw [HU.out];rfl,Below.refl _ _⟩
 · have hl:=fun W=>bI a 0 ((s.size:Int) - 1) W
   rw [show (decide ((0:Int)≤a) && decide (a≤(s.size:Int) - 1))=false by rw [←Bool.decide_and];exact decide_eq_false hin] at hl
   have HL:=aa9 hl
   have hU:uqO s.data.toList a=none:=by
    by_cases h:a < 0
    · exact tg _ _ h
    · obtain ⟨p,rfl⟩:=Int.eq_ofNat_of_zero_le (show 0≤a by omega)
      exact th s p (by omega)
   have HU:=aa9 hU
   clear hl hU hin
   go_enter Tryz.func170,Tryz.ntmps170
   go_wp2_with fail
   refine (HL.out _).mono ?_
   rintro e w' ⟨rfl,rfl⟩
   go_wp2
   go_ret2
   exact ⟨by rw [HU.out];rfl,Below.refl _ _⟩
def aaM (l:List UInt8) (q:Nat) (ab:Bool) (acc:List UInt8) (U:Option (List UInt8×Nat)) (n:Nat):Prop:=(if ab=true then jl l q acc else eH l q acc)=U∧n=acc.length
theorem tq {r:Int} (h:n9 r=true):((r==34)=true∧(r==92)=false)∨((r==34)=false∧(r==92)=true):=by
 rcases mX h with h1 | h1
 · exact .inl ⟨h1,by rw [beq_iff_eq] at h1;subst h1;rfl⟩
 · exact .inr h1
theorem vx (s:ByteArray) (p:Nat):(s.extract p s.size).data.toList=s.data.toList.drop p:=by
 rw [Lib.extract_data,List.take_of_length_le];simp
theorem vy (s:ByteArray) (p:Nat):(s.extract p s.size).size=s.size - p:=by simp
theorem tr (l:List UInt8) (q:Nat) (acc:List UInt8) (b:UInt8) (h:acc.length=40):eH l q (acc++[b])=none:=kv l.length l q _ (Nat.le_refl _) (by simp [h])
theorem kD (s:ByteArray) (a:Int) (w:World) (hs:s.size≤1048576):
 Calls Tryz.prog 165 #[.string s,.int .i64 a] w fun e w'=>e= .returned (uqV (uqO s.data.toList a))∧Below w.heap.size w w':=by
 by_cases h1:a < 0
 · have HU:=aa9 (tg s.data.toList a h1)
   go_enter Tryz.func165,Tryz.ntmps165
   go_wp2
   go_ret2
   exact ⟨by rw [HU.out];rfl,Below.refl _ _⟩
 obtain ⟨p,rfl⟩:=Int.eq_ofNat_of_zero_le (show 0≤a by omega)
 by_cases hp:p < s.size
 · have hbn:s[p].toNat < 256:=s[p].toNat_lt
   have hp2: ¬(s.size:Int)≤(p:Int):=by omega
   have hU:=ti s p hp
   by_cases hq:(s[p].toNat:Int)=34
   · rw [if_pos hq] at hU
     have hq1:((s[p].toNat:Int)==34)=true:=by rw [hq];rfl
     have hq2:=iq hq1
     generalize uqO s.data.toList (p:Int)=U at *
     have hsl:=vx s (p+1)
     rw [←hsl] at hU
     have HU:=aa9 hU.symm
     have hsz:=vy s (p+1)
     have hk0:(w.iter (s.extract (p+1) s.size) 0).heap[w.heap.size]? =some (.stringIter (s.extract (p+1) s.size) 0):=World.iter_heap w _ 0
     have hb0:Below w.heap.size w (w.iter (s.extract (p+1) s.size) 0):=(Below.refl _ w).alloc (Nat.le_refl _) _
     have HK:=aa9 hk0
     have HZ:=aa9 hsz
     clear hU hq hsl hk0 hsz
     go_enter Tryz.func165,Tryz.ntmps165
     go_wp2
     generalize s.extract (p+1) s.size=sub at *
     go_loopw [7,8] (fun v ab' wr=> ∃ (k n:Nat) (acc:List UInt8) (ab:Bool),k≤sub.size∧n≤40∧ab'= .bool ab∧wr.heap[w.heap.size]? =some (.stringIter sub k)∧aaM (sub.data.toList.drop k) (p+1+k) ab acc U n∧wr.ownsRow w.heap.size 5 1 v n (acc.map bv)∧Below w.heap.size w wr) (fun _ _ wr=>sub.size - wr.iterPos w.heap.size)
     case atStart=>exact ⟨0,0,[],false,by omega,by omega,rfl,HK.out,⟨by rw [if_neg (by simp)];exact HU.out,rfl⟩,⟨rfl,.inl ⟨rfl,rfl⟩⟩,hb0⟩
     case round=>
      obtain ⟨k,n,acc,ab,hk,hn40,rfl,hit,⟨hrun,hn⟩,hown,hbr⟩:=hrel
      have HN:=aa9 hn
      have hmu:=aa9 (cZ hit)
      have hzs:sub.size≤1048576:=by rw [HZ.out];omega
      clear hq1 hq2 HU hb0 HK HZ
      by_cases hlt:k < sub.size
      · have hbk:sub[k].toNat < 256:=sub[k].toNat_lt
        by_cases ha:sub[k].toNat < 128
        · have hnx: ∀ ty,(Instr.next (.pointer (some ⟨w.heap.size,0,none⟩)) true ty).run Tryz.prog wr=_:=fun ty=>Lib.run_next_ascii_at wr w.heap.size sub k ty hit hlt ha
          have hk1:=Lib.iterAt_heap wr w.heap.size sub k (k+1) hit
          have hb1:Below w.heap.size w (wr.iterAt w.heap.size sub (k+1)):=Lib.below_iterAt hbr (Nat.le_refl _) sub (k+1)
          have ho1:=rM hown hit (k+1)
          have hlt1:w.heap.size < (wr.iterAt w.heap.size sub (k+1)).heap.size:=(Array.getElem?_eq_some_iff.1 hk1).1
          have hne1:=pU ho1 hk1
          have Hk1:=aa9 hk1
          clear hit hbr hown hk1
          generalize wr.iterAt w.heap.size sub (k+1)=W1 at hnx Hk1 hb1 ho1 hlt1
          have hc:=fun W=>gl (sub[k].toNat:Int) W
          have hz1:=hb1.size
          cases hd:qQ (sub[k].toNat:Int) with
          | false=>
            have HR:=aa9 (show U=none by
             rw [←hrun]
             split
             · refine ke sub k hlt _ acc ?_
               cases he:n9 (sub[k].toNat:Int) with
               | false=>rfl
               | true=>rw [qV he] at hd;cases hd
             · exact xo sub k hlt _ acc hd)
            rw [hd] at hc
            have HC:=aa9 hc
            clear hrun hd hc hn ho1
            go_wp2_with fail
            refine (HC.out _).mono ?_
            rintro e w' ⟨rfl,rfl⟩
            go_wp2
            go_ret2
            exact ⟨by rw [HR.out];rfl,hb1⟩
          | true=>
            have hd1:=qU hd
            rw [hd] at hc
            have HC:=aa9 hc
            clear hc
            have hc2:=fun W=>mV (sub[k].toNat:Int) (by omega) (by omega) W
            cases ab with
            | true=>
              rw [if_pos rfl] at hrun
              cases he:n9 (sub[k].toNat:Int) with
              | false=>
                have HR:=aa9 (show U=none by rw [←hrun,ke sub k hlt _ acc he])
                rw [he] at hc2
                have HC2:=aa9 hc2
                clear hrun hd hc2 hn ho1 he
                go_wp2_with fail
                refine (HC.out _).mono ?_
                rintro e w' ⟨rfl,rfl⟩
                go_wp2_with fail
                refine (HC2.out _).mono ?_
                rintro e w' ⟨rfl,rfl⟩
                go_wp2
                go_ret2
                exact ⟨by rw [HR.out];rfl,hb1⟩
              | true=>
                have hr:=yt sub k hlt (p+1+k) acc he
                rw [hrun] at hr
                have he2:=tq he
                rw [he] at hc2
                have HC2:=aa9 hc2
                obtain ⟨pv,cv,rfl⟩:=fN ho1
                clear hrun hd hc2 he
                cases h40:((n:Int)==40) with
                | true=>
                  have HR:=aa9 (show U=none by rw [hr,tr _ _ _ _ (by have:=beq_iff_eq.1 h40;omega)])
                  clear hr hn ho1
                  rcases he2 with ⟨h3,h4⟩ | ⟨h3,h4⟩
                  all_goals
                   go_wp2_with fail
                   refine (HC.out _).mono ?_
                   rintro e w' ⟨rfl,rfl⟩
                   go_wp2_with fail
                   refine (HC2.out _).mono ?_
                   rintro e w' ⟨rfl,rfl⟩
                   go_wp2
                   go_ret2
                   exact ⟨by rw [HR.out];rfl,hb1⟩
                | false=>
                  have HR:=aa9 hr
                  have hn39:n+1≤40:=by have:=beq_eq_false_iff_ne.1 h40;omega
                  clear hr hn
                  rcases he2 with ⟨h3,h4⟩ | ⟨h3,h4⟩
                  all_goals
                   go_wp2_with fail
                   refine (HC.out _).mono ?_
                   rintro e w' ⟨rfl,rfl⟩
                   go_wp2_with fail
                   refine (HC2.out _).mono ?_
                   rintro e w' ⟨rfl,rfl⟩
                   go_wp2_with (at_builtin;refine aE Tryz.el_u8 rfl (.tmp 35) (.tmp 38) rfl w W1 (.slice pv n cv) n _ rfl ho1 hb1 hz1 _ (.inr rfl) 1 1 rfl rfl (by simp [Value.oneCell']) (by omega) (by omega) (by omega) ?_)
                   intro g cap w1 hown1 hb2 hg1 _ _
                   have Hk2:=aa9 ((hg1.block w.heap.size hlt1 hne1).trans Hk1.out)
                   clear ho1 hb1 hg1 hne1 hlt1 Hk1 hz1 hnx
                   go_wp2
                   go_roundw
                   case rel=>exact ⟨k+1,n+1,acc++[sub[k]],false,by omega,hn39,rfl,Hk2.out,⟨by rw [if_neg (by simp)];exact HR.out.symm,by rw [HN.out];simp⟩,by rw [List.map_append];exact hown1,hb2⟩
                   case measure=>rw [hmu.out,cZ Hk2.out];omega
            | false=>
              rw [if_neg (by simp)] at hrun
              cases h3:((sub[k].toNat:Int)==34) with
              | true=>
                have HR:=aa9 (show U=some (acc,p+1+k+1) by rw [←hrun,tj sub k hlt _ acc h3 (by omega)])
                have hback:=mM (P:=Tryz.prog) 22 9 5 ho1 hn.symm Tryz.underlying22 Tryz.underlying5 Tryz.underlying9
                have hcast:=aa9 (show ((p+1+k+1:Nat):Int)=(p:Int)+1+(k:Int)+1 by omega)
                clear hrun hd hc2 hn ho1
                go_wp2_with fail
                refine (HC.out _).mono ?_
                rintro e w' ⟨rfl,rfl⟩
                go_wp2
                go_ret2
                exact ⟨by rw [HR.out,ka,hcast.out];rfl,hb1⟩
              | false=>
                cases h4:((sub[k].toNat:Int)==92) with
                | true=>
                  have HR:=aa9 (show jl (sub.data.toList.drop (k+1)) (p+1+k+1) acc=U by rw [←hrun,tk sub k hlt _ acc h4])
                  clear hrun hd hc2 hn
                  go_wp2_with fail
                  refine (HC.out _).mono ?_
                  rintro e w' ⟨rfl,rfl⟩
                  go_wp2
                  go_roundw
                  case rel=>exact ⟨k+1,n,acc,true,by omega,hn40,rfl,Hk1.out,⟨by rw [if_pos rfl];exact HR.out,HN.out⟩,ho1,hb1⟩
                  case measure=>rw [hmu.out,cZ Hk1.out];omega
                | false=>
                  have hr:=tl sub k hlt (p+1+k) acc h3 h4 hd
                  rw [hrun] at hr
                  obtain ⟨pv,cv,rfl⟩:=fN ho1
                  clear hrun hd hc2
                  cases h40:((n:Int)==40) with
                  | true=>
                    have HR:=aa9 (show U=none by rw [hr,tr _ _ _ _ (by have:=beq_iff_eq.1 h40;omega)])
                    clear hr hn ho1
                    go_wp2_with fail
                    refine (HC.out _).mono ?_
                    rintro e w' ⟨rfl,rfl⟩
                    go_wp2
                    go_ret2
                    exact ⟨by rw [HR.out];rfl,hb1⟩
                  | false=>
                    have HR:=aa9 hr
                    have hn39:n+1≤40:=by have:=beq_eq_false_iff_ne.1 h40;omega
                    clear hr hn
                    go_wp2_with fail
                    refine (HC.out _).mono ?_
                    rintro e w' ⟨rfl,rfl⟩
                    go_wp2_with (at_builtin;refine aE Tryz.el_u8 rfl (.tmp 35) (.tmp 38) rfl w W1 (.slice pv n cv) n _ rfl ho1 hb1 hz1 _ (.inr rfl) 1 1 rfl rfl (by simp [Value.oneCell']) (by omega) (by omega) (by omega) ?_)
                    intro g cap w1 hown1 hb2 hg1 _ _
                    have Hk2:=aa9 ((hg1.block w.heap.size hlt1 hne1).trans Hk1.out)
                    clear ho1 hb1 hg1 hne1 hlt1 Hk1 hz1 hnx
                    go_wp2
                    go_roundw
                    case rel=>exact ⟨k+1,n+1,acc++[sub[k]],false,by omega,hn39,rfl,Hk2.out,⟨by rw [if_neg (by simp)];exact HR.out.symm,by rw [HN.out];simp⟩,by rw [List.map_append];exact hown1,hb2⟩
                    case measure=>rw [hmu.out,cZ Hk2.out];omega
        · have hnx: ∀ ty,(Instr.next (.pointer (some ⟨w.heap.size,0,none⟩)) true ty).run Tryz.prog wr=_:=fun ty=>Lib.run_next_any_at wr w.heap.size sub k ty hit hlt
          have hhi:=(decode_high sub k hlt (by omega)).1
          have hb1:Below w.heap.size w (wr.iterAt w.heap.size sub (k+(Utf8.decode sub k).2)):=Lib.below_iterAt hbr (by omega) sub _
          have hno:qQ (sub[k].toNat:Int)=false:=dl (by omega)
          have HR:=aa9 (show U=none by
           rw [←hrun]
           split
           · refine ke sub k hlt _ acc ?_
             cases he:n9 (sub[k].toNat:Int) with
             | false=>rfl
             | true=>rw [qV he] at hno;cases hno
           · exact xo sub k hlt _ acc hno)
          clear hit hbr hown hrun hn hno
          generalize wr.iterAt w.heap.size sub (k+(Utf8.decode sub k).2)=W1 at hnx hb1
          generalize (Utf8.decode sub k).1=r at hnx hhi
          have hc:=fun W=>gl (r:Int) W
          rw [dl (by omega)] at hc
          have HC:=aa9 hc
          clear hc
          go_wp2_with fail
          refine (HC.out _).mono ?_
          rintro e w' ⟨rfl,rfl⟩
          go_wp2
          go_ret2
          exact ⟨by rw [HR.out];rfl,hb1⟩
      · have hnx: ∀ ty,(Instr.next (.pointer (some ⟨w.heap.size,0,none⟩)) true ty).run Tryz.prog wr=_:=fun ty=>Lib.run_next_end_at wr w.heap.size sub k ty hit hlt
        have HR:=aa9 (show U=none by
         rw [←hrun]
         split
         · exact oe sub k hlt _ acc
         · exact yu sub k hlt _ acc)
        clear hit hrun hn hown
        go_wp2
        go_ret2
        exact ⟨by rw [HR.out];rfl,hbr⟩
   · rw [if_neg hq] at hU
     have hq1:((s[p].toNat:Int)==34)=false:=by simpa using hq
     have hq2:=gL hq1
     have HU:=aa9 hU
     clear hU hq
     go_enter Tryz.func165,Tryz.ntmps165
     go_wp2
     go_ret2
     exact ⟨by rw [HU.out];rfl,Below.refl _ _⟩
 · have hp2:(s.size:Int)≤(p:Int):=by omega
   have HU:=aa9 (th s p hp)
   clear hp
   go_enter Tryz.func165,Tryz.ntmps165
   go_wp2
   go_ret2
   exact ⟨by rw [HU.out];rfl,Below.refl _ _⟩
end Go.Proofs.YtmlgkoeacbeopaaGreatDoor
