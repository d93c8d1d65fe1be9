/- Ur -/
import Derived.ProofKit
import Derived.Lib.SmallJoins
import Derived.Deep.SlicePairs
import Derived.Deep.DeepCutAuto
import Derived.Deep.Cut
import Derived.Deep.CutRange
import Derived.Test.YtmlgkoeacbeopaaGreatDoorUf
import Derived.Test.YtmlgkoeacbeopaaGreatDoorUn
import Derived.Test.YtmlgkoeacbeopaaGreatDoorUo
import Derived.Test.YtmlgkoeacbeopaaGreatDoorUp
import Derived.Test.YtmlgkoeacbeopaaGreatDoorUq
set_option maxHeartbeats 12800000
namespace Go.Proofs.YtmlgkoeacbeopaaGreatDoor
open Go.ChangeShapes Go.WideShapes Go.ChangeAt Go.RowKit
def oL12 : List (Nat × Bool) := [(0, true), (1, true), (2, false), (3, true), (4, true), (5, true), (6, true), (7, false), (8, true), (9, true), (10, true), (11, true), (13, true), (12, false), (14, false), (15, true), (16, true)]
theorem Tryz.own:ownKnob Tryz.prog.godebug=none:=by kernel_rfl
theorem Tryz.laidOut:laidOutB Tryz.prog=true:=by kernel_rfl
section
variable {H:Type} {enc:TypeId×Value→H} {P:Program}
theorem fi (hl:laidOutB P=true) {W W':World} (hb:Below W.heap.size W W'): ∀ (ts:List TypeId) (vs:List Value) (ds:List (DataW H)) (ps:List MemPlace),
 (∀ t∈ts,P.readableRec t=true∧t < P.types.size)→(∀ x∈ps,x.block < W.heap.size)→DataW.TrodAll enc P W 0 (fun _=>true) true ts vs ds ps→
 DataW.TrodAll enc P W' 0 (fun b=>decide (b < W.heap.size)) true ts vs ds ps
 | [],[],[],ps,_,_,h=>h
 | t::ts,v::vs,d::ds,ps,ht,hlt,h=>by
   obtain ⟨p,q,h1,h2,rfl⟩:=h
   exact ⟨p,q,Below.trod hl (ht t (by simp)).1 (ht t (by simp)).2 h1 hb (fun x hx=>hlt x (by simp [hx])),
    fi hl hb ts vs ds q (fun t' h'=>ht t' (by simp [h'])) (fun x hx=>hlt x (by simp [hx])) h2,rfl⟩
theorem zB {f:Func} {s:ChangeSpec} {W W':World} {args:Array Value} {ds gs:List (DataW H)} {before:List MemPlace} {tb:TypeId}
 (hl:laidOutB P=true) (htb:P.underlying tb=some .bool) (hr:f.resultTypes= #[tb]) (hts: ∀ t∈f.params.toList,P.readableRec t=true∧t < P.types.size)
 (hv:s.vars=[]) (hsr:(s.fn H (ds++gs)).results=[.lit (.bool true)]) (hsa:(s.fn H (ds++gs)).args=ds) (hsv:(s.fn H (ds++gs)).vars=[])
 (hW:DataW.Whole enc P f.params.toList s.vars false W args.toList ds gs before) (hb:Below W.heap.size W W'):
 s.post enc P f false true false false W args (.bool true) W':=by
 have hW':=hW
 have hlt:=fun p hp=>hW.lt p hp
 obtain ⟨p,q,hA,hV,rfl,_,_⟩:=hW
 rw [hv] at hV
 obtain ⟨rfl,rfl⟩:=trodVars_none hV
 refine ⟨ds,[],p++[],[],p,[],hW',?_,?_,?_,hb.frame _,fun h=>by cases h⟩
 · rw [hsr,hr]
   exact trodAll_mk1 (shut_bool htb true)
 · rw [hsa]
   exact fi hl hb _ _ _ _ hts (fun x hx=>hlt x (by simpa using hx)) hA
 · rw [hsv,hv]
   rfl
end
end Go.Proofs.YtmlgkoeacbeopaaGreatDoor
namespace Go.Proofs.YtmlgkoeacbeopaaGreatDoor
open Go.ChangeShapes Go.WideShapes Go.ChangeAt Go.RowKit Go.Deep
section
variable {H:Type} {enc:TypeId×Value→H} {P:Program} {W:World} {base:Nat} {v:Value} {d:DataW H} {ps:List MemPlace} {t e:TypeId}
theorem vj {r:Reach} {b0:Nat} (ht:P.underlying t=some (.slice e)) (he:P.underlying e=some (.int .u8)) (hc:P.cellsOf e=1) (hval:Value.okWide P W r b0 t v) (h:DataW.Trod enc P W 0 (fun _=>true) true t v d ps):
 ∃ l:List UInt8,Rd1 bv W v l:=by
 obtain ⟨a,len,cap,rfl⟩:=okWide_slice ht hval
 obtain ⟨fuel,hf⟩:=h
 rcases open_ints ht he hc hf with ⟨hcs,_⟩ | ⟨a',len',cap',zs,hcs,_,hl,hm,hz,_,hcell,hw⟩
 · simp [Value.cells] at hcs
   obtain ⟨rfl,rfl,rfl⟩:=hcs
   exact ⟨[],Rd1.nil⟩
 · simp [Value.cells] at hcs
   obtain ⟨rfl,rfl,rfl⟩:=hcs
   simp only [if_true] at hz
   have hz2:len≤zs.length:=by omega
   have hlen:((zs.take len).map fun n=>UInt8.ofNat n.toNat).length=len:=by simp;omega
   refine ⟨(zs.take len).map fun n=>UInt8.ofNat n.toNat,⟨some a',cap,by rw [hlen],?_⟩⟩
   by_cases h0:len=0
   · left;subst h0;simp
   · right
     obtain ⟨b,off,spot⟩:=a'
     have hsp:spot=none:=by
      have h2:=World.cell?_spot (hcell 0 (by omega))
      unfold Addr.add at h2
      split at h2
      · exact h2
      · rename_i hn;exact absurd rfl hn
     subst hsp
     have hc0:=hcell 0 (by omega)
     rw [Addr.add_lit] at hc0
     refine ⟨b,off,rfl,World.block_lt_of_cell? W _ hc0,fun i x hx=> ?_⟩
     rw [List.getElem?_map] at hx
     have hi:i < len:=by
      rcases Nat.lt_or_ge i len with h | h
      · exact h
      · rw [List.getElem?_eq_none (by simp;omega)] at hx;cases hx
     rw [List.getElem?_take_of_lt hi] at hx
     have hiz:i < zs.length:=by omega
     rw [List.getElem?_eq_getElem hiz] at hx
     cases hx
     have h1:=hcell i hiz
     rw [Addr.add_lit] at h1
     rw [h1]
     have h2:=hw zs[i] (List.getElem_mem hiz)
     have hx2:0≤zs[i]∧zs[i]≤255:=by simpa [Lit.wf,IntKind.min,IntKind.max,IntKind.signed,IntKind.bits] using h2
     have e1:((UInt8.ofNat zs[i].toNat).toNat:Int)=zs[i]:=by rw [UInt8.toNat_ofNat_of_lt' (by show zs[i].toNat < 256;omega)];omega
     show _=some (Value.int .u8 ((UInt8.ofNat zs[i].toNat).toNat:Int))
     rw [e1]
     simp [hiz]
theorem vk {r:Reach} {b0:Nat} (ht:P.underlying t=some (.slice e)) (he:P.underlying e=some (.int .u8)) (hc:P.cellsOf e=1) (hval:Value.okWide P W r b0 t v) (h:DataW.Trod enc P W 0 (fun _=>true) true t v d ps):
 ∃ l:List UInt8,Rd1 bv W v l∧ ∀ p n c,v= .slice p n c→n≤c:=by
 obtain ⟨a,len,cap,rfl⟩:=okWide_slice ht hval
 obtain ⟨fuel,hf⟩:=h
 rcases open_ints ht he hc hf with ⟨hcs,_⟩ | ⟨a',len',cap',zs,hcs,_,hl,hm,hz,_,hcell,hw⟩
 · simp [Value.cells] at hcs
   obtain ⟨rfl,rfl,rfl⟩:=hcs
   exact ⟨[],Rd1.nil,fun p n c h=>by injection h with _ h2 h3;omega⟩
 · simp [Value.cells] at hcs
   obtain ⟨rfl,rfl,rfl⟩:=hcs
   simp only [if_true] at hz
   have hz2:len≤zs.length:=by omega
   have hlen:((zs.take len).map fun n=>UInt8.ofNat n.toNat).length=len:=by simp;omega
   refine ⟨(zs.take len).map fun n=>UInt8.ofNat n.toNat,⟨some a',cap,by rw [hlen],?_⟩,fun p n c h=>by injection h with _ h2 h3;omega⟩
   by_cases h0:len=0
   · left;subst h0;simp
   · right
     obtain ⟨b,off,spot⟩:=a'
     have hsp:spot=none:=by
      have h2:=World.cell?_spot (hcell 0 (by omega))
      unfold Addr.add at h2
      split at h2
      · exact h2
      · rename_i hn;exact absurd rfl hn
     subst hsp
     have hc0:=hcell 0 (by omega)
     rw [Addr.add_lit] at hc0
     refine ⟨b,off,rfl,World.block_lt_of_cell? W _ hc0,fun i x hx=> ?_⟩
     rw [List.getElem?_map] at hx
     have hi:i < len:=by
      rcases Nat.lt_or_ge i len with h | h
      · exact h
      · rw [List.getElem?_eq_none (by simp;omega)] at hx;cases hx
     rw [List.getElem?_take_of_lt hi] at hx
     have hiz:i < zs.length:=by omega
     rw [List.getElem?_eq_getElem hiz] at hx
     cases hx
     have h1:=hcell i hiz
     rw [Addr.add_lit] at h1
     rw [h1]
     have h2:=hw zs[i] (List.getElem_mem hiz)
     have hx2:0≤zs[i]∧zs[i]≤255:=by simpa [Lit.wf,IntKind.min,IntKind.max,IntKind.signed,IntKind.bits] using h2
     have e1:((UInt8.ofNat zs[i].toNat).toNat:Int)=zs[i]:=by rw [UInt8.toNat_ofNat_of_lt' (by show zs[i].toNat < 256;omega)];omega
     show _=some (Value.int .u8 ((UInt8.ofNat zs[i].toNat).toNat:Int))
     rw [e1]
     simp [hiz]
end
end Go.Proofs.YtmlgkoeacbeopaaGreatDoor
namespace Go.Proofs.YtmlgkoeacbeopaaGreatDoor
open Go.RowKit
theorem xw {n:Int} (h:(Lit.int .i64 n).wf=true):bW n:=by
 simpa [bW,Lit.wf,IntKind.min,IntKind.max,IntKind.signed,IntKind.bits] using h
end Go.Proofs.YtmlgkoeacbeopaaGreatDoor
namespace Go.Proofs.YtmlgkoeacbeopaaGreatDoor
open Go.ChangeShapes Go.WideShapes Go.ChangeAt Go.RowKit Go.Deep Go.Joins
inductive Sh where
 | int
 | bool
 | str
 | rows (e:TypeId) (m:Nat) (fs:List Sh)
mutual
def zC:Sh→Lf→Prop
 | .int,x=> ∃ n,x= .int n∧bW n
 | .bool,x=> ∃ b,x= .bool b
 | .str,x=> ∃ l,x= .str l∧l.length≤9223372036854775807
 | .rows e m fs,x=> ∃ els:List (List Lf),x= .rows e m els.length els.flatten∧els.length≤9223372036854775807∧ ∀ y∈els,nu fs y
def nu:List Sh→List Lf→Prop
 | [],xs=>xs=[]
 | s::ss,xs=> ∃ y ys,xs=y::ys∧zC s y∧nu ss ys
end
theorem nu.length: ∀ {ss:List Sh} {xs:List Lf},nu ss xs→xs.length=ss.length
 | [],_,h=>by rw [h];rfl
 | _::ss,_,h=>by obtain ⟨y,ys,rfl,_,h2⟩:=h;simp [nu.length h2]
theorem nu.append: ∀ {a b:List Sh} {xs ys:List Lf},nu a xs→nu b ys→nu (a++b) (xs++ys)
 | [],b,xs,ys,h1,h2=>by rw [h1];exact h2
 | s::a,b,xs,ys,h1,h2=>by
   obtain ⟨y,zs,rfl,h3,h4⟩:=h1
   exact ⟨y,zs++ys,rfl,h3,nu.append h4 h2⟩
def iL (P:Program) (g:TypeId→Option (List Sh)):Nat→List Field→Option (List Sh)
 | _,[]=>some []
 | acc,f::r=>(g f.type).bind fun s=>if f.offset=acc∧P.cellsOf f.type=s.length then (iL P g (acc+s.length) r).map fun ss=>s++ss else none
def tN (P:Program):Nat→TypeId→Option (List Sh)
 | 0,_=>none
 | n+1,t=>match P.underlying t with
   | some .bool=>some [.bool]
   | some (.int .i64)=>some [.int]
   | some .string=>some [.str]
   | some (.slice e)=>(tN P n e).bind fun fs=>if 0 < fs.length∧P.cellsOf e=fs.length then some [.rows e fs.length fs] else none
   | some (.struct fds)=>(iL P (tN P n) 0 fds.toList).bind fun fs=>if P.cellsOf t=fs.length then some fs else none
   | _=>none
theorem kY {W:World} {L:Nat→List Lf} {C:Nat→List Value} : ∀ (k:Nat),(∀ i,i < k→di W (L i) (C i))→di W ((List.range k).flatMap L) ((List.range k).flatMap C)
 | 0,_=>rfl
 | k+1,h=>by
   rw [List.range_succ,List.flatMap_append,List.flatMap_append]
   exact di.append.2 ⟨_,_,rfl,kY k (fun i hi=>h i (by omega)),by simpa using h k (by omega)⟩
theorem gW {C:Nat→List Value} {m:Nat} : ∀ (k:Nat),(∀ i,i < k→(C i).length=m)→((List.range k).flatMap C).length=k * m
 | 0,_=>by simp
 | k+1,h=>by rw [List.range_succ,List.flatMap_append,List.length_append,gW k (fun i hi=>h i (by omega))];simp [h k (by omega),Nat.succ_mul]
theorem ri {C:Nat→List Value} {m:Nat} (hm:0 < m): ∀ (k:Nat),(∀ i,i < k→(C i).length=m)→ ∀ (j:Nat) (u:Value),((List.range k).flatMap C)[j]? =some u→j / m < k∧(C (j / m))[j % m]? =some u
 | 0,_,j,u,h=>by simp at h
 | k+1,hC,j,u,h=>by
   have hl:=gW k (fun i hi=>hC i (by omega))
   rw [List.range_succ,List.flatMap_append] at h
   by_cases hj:j < k * m
   · rw [List.getElem?_append_left (by rw [hl];exact hj)] at h
     have:=ri hm k (fun i hi=>hC i (by omega)) j u h
     exact ⟨by omega,this.2⟩
   · rw [List.getElem?_append_right (by rw [hl];omega),hl] at h
     simp only [List.flatMap_cons,List.flatMap_nil,List.append_nil] at h
     have hlt:j - k * m < m:=by have h9:=(List.getElem?_eq_some_iff.1 h).1;rwa [hC k (by omega)] at h9
     obtain ⟨r,hr⟩: ∃ r,j=m * k+r:=⟨j - k * m,by rw [Nat.mul_comm];omega⟩
     have hrj:j - k * m=r:=by rw [hr,Nat.mul_comm];omega
     rw [hrj] at h hlt
     have e1:j / m=k:=by rw [hr,Nat.mul_add_div hm,Nat.div_eq_of_lt hlt];omega
     have e2:j % m=r:=by rw [hr,Nat.mul_add_mod,Nat.mod_eq_of_lt hlt]
     rw [e1,e2]
     exact ⟨by omega,h⟩
section
variable {H:Type} {enc:TypeId×Value→H} {P:Program} {W:World}
theorem kZ (n:Nat) (ih: ∀ t shs,tN P n t=some shs→ ∀ fuel cs x,DataW.trod enc P W 0 (fun _=>true) true fuel t cs=some x→ ∃ ls,di W ls cs∧nu shs ls) (k:Nat) (cs:List Value):
 ∀ (fds:List Field) (acc:Nat) (shs:List Sh),iL P (tN P n) acc fds=some shs→(∀ f∈fds,∃ x,DataW.trod enc P W 0 (fun _=>true) true k f.type ((cs.drop f.offset).take (P.cellsOf f.type))=some x)→cs.length=acc+shs.length→
   ∃ ls,di W ls (cs.drop acc)∧nu shs ls
 | [],acc,shs,h,_,hl=>by
   simp only [iL,Option.some.injEq] at h
   subst h
   exact ⟨[],List.drop_of_length_le (by simp at hl;omega),rfl⟩
 | f::r,acc,shs,h,ht,hl=>by
   simp only [iL,Option.bind_eq_some_iff] at h
   obtain ⟨s,h1,h2⟩:=h
   split at h2
   · rename_i hc
     simp only [Option.map_eq_some_iff] at h2
     obtain ⟨ss,h3,rfl⟩:=h2
     obtain ⟨x,hx⟩:=ht f (by simp)
     obtain ⟨l1,r1,i1⟩:=ih _ _ h1 _ _ _ hx
     obtain ⟨l2,r2,i2⟩:=kZ n ih k cs r (acc+s.length) ss h3 (fun g hg=>ht g (by simp [hg])) (by simp at hl;omega)
     refine ⟨l1++l2,?_,i1.append i2⟩
     rw [hc.1,hc.2] at r1
     have:cs.drop acc=(cs.drop acc).take s.length++cs.drop (acc+s.length):=by
      rw [←List.drop_drop,List.take_append_drop]
     rw [this]
     exact di.append.2 ⟨_,_,rfl,r1,r2⟩
   · cases h2
theorem gX: ∀ (n:Nat) (t:TypeId) (shs:List Sh),tN P n t=some shs→ ∀ fuel cs x,DataW.trod enc P W 0 (fun _=>true) true fuel t cs=some x→ ∃ ls,di W ls cs∧nu shs ls
 | 0,t,shs,h,_,_,_,_=>by simp [tN] at h
 | n+1,t,shs,h,fuel,cs,x,hx=>by
   unfold tN at h
   split at h
   · rename_i ht
     injection h with h
     subst h
     obtain ⟨b,rfl,_⟩:=DataW.trod_bool ht hx
     exact ⟨[.bool b],⟨_,_,rfl,rfl,rfl⟩,⟨_,_,rfl,⟨b,rfl⟩,rfl⟩⟩
   · rename_i ht
     injection h with h
     subst h
     obtain ⟨k,rfl,_,hw⟩:=DataW.trod_int ht hx
     exact ⟨[.int k],⟨_,_,rfl,rfl,rfl⟩,⟨_,_,rfl,⟨k,rfl,xw hw⟩,rfl⟩⟩
   · rename_i ht
     injection h with h
     subst h
     obtain ⟨s,rfl,_,hz⟩:=DataW.trod_string ht hx
     exact ⟨[.str s.data.toList],⟨_,_,rfl,(mN s).symm,rfl⟩,⟨_,_,rfl,⟨_,rfl,by unfold maxLen at hz;simpa using hz⟩,rfl⟩⟩
   · rename_i e ht
     simp only [Option.bind_eq_some_iff] at h
     obtain ⟨fs,h1,h2⟩:=h
     split at h2
     · rename_i hc
       injection h2 with h2
       subst h2
       rcases open_slice ht hx with ⟨rfl,_⟩ | ⟨a,len,cap,m,k,D,Pl,rfl,_,hl,hm,hmm,_,hel⟩
       · exact ⟨[.rows e fs.length 0 []],⟨_,_,rfl,⟨by simp,none,0,rfl,.inl rfl⟩,rfl⟩,⟨_,_,rfl,⟨[],rfl,by simp,by simp⟩,rfl⟩⟩
       · simp only [if_true] at hmm
         obtain rfl:cap=m:=hmm.symm
         have hk: ∀ i,i < len→ ∃ q:List Lf×List Value,W.cells? 0 (a.add (i * P.cellsOf e)) (P.cellsOf e)=some q.2∧di W q.1 q.2∧nu fs q.1:=by
          intro i hi
          obtain ⟨cs',c1,c2⟩:=hel i (by omega)
          obtain ⟨ls,r1,r2⟩:=gX n e fs h1 _ _ _ c2
          exact ⟨(ls,cs'),c1,r1,r2⟩
         haveI:Inhabited (List Lf×List Value):=⟨([],[])⟩
         obtain ⟨q,hq⟩:=choose_lt hk
         refine ⟨[.rows e fs.length len ((List.range len).flatMap fun i=>(q i).1)],⟨_,_,rfl,?_,rfl⟩,⟨_,_,rfl,⟨(List.range len).map fun i=>(q i).1,?_,?_,?_⟩,rfl⟩⟩
         · have hlen: ∀ i,i < len→((q i).2).length=fs.length:=fun i hi=>by rw [←hc.2];exact (World.cells?_some (hq i hi).1).2.1
           have hfl:((List.range len).flatMap fun i=>(q i).1).length=len * fs.length:=by
            have h1:=di.length (kY (W:=W) (L:=fun i=>(q i).1) (C:=fun i=>(q i).2) len (fun i hi=>(hq i hi).2.1))
            rw [←h1]
            exact gW len hlen
           refine ⟨hfl,some a,cap,rfl,?_⟩
           by_cases h0:len=0
           · exact .inl h0
           · right
             have hc0:=(World.cells?_some (hq 0 (by omega)).1).2.2 0 (by rw [hc.2];exact hc.1)
             rw [Nat.zero_mul] at hc0
             have hex: ∃ u,((q 0).2)[0]? =some u:=⟨_,List.getElem?_eq_getElem (by rw [hlen 0 (by omega)];exact hc.1)⟩
             obtain ⟨u0,hu0⟩:=hex
             rw [hu0] at hc0
             obtain ⟨b,off,spot⟩:=a
             have hsp:spot=none:=by simpa [Addr.add] using World.cell?_spot hc0
             subst hsp
             rw [Addr.add_lit,Addr.add_lit] at hc0
             refine ⟨b,off,rfl,World.block_lt_of_cell? W _ hc0,(List.range len).flatMap fun i=>(q i).2,fun j u hu=> ?_,kY (W:=W) (L:=fun i=>(q i).1) (C:=fun i=>(q i).2) len (fun i hi=>(hq i hi).2.1)⟩
             obtain ⟨g1,g2⟩:=ri (C:=fun i=>(q i).2) hc.1 len hlen j u hu
             have hz:=(World.cells?_some (hq _ g1).1).2.2 (j % fs.length) (by rw [hc.2];exact Nat.mod_lt _ hc.1)
             rw [Addr.add_lit,Addr.add_lit,hc.2,g2] at hz
             have hdm:=Nat.div_add_mod j fs.length
             rw [Nat.mul_comm] at hdm
             rwa [show off+j / fs.length * fs.length+j % fs.length=off+j by omega] at hz
         · simp [List.flatMap]
         · simp;unfold maxLen at hm;omega
         · intro y hy
           obtain ⟨i,hi,rfl⟩:=List.mem_map.1 hy
           exact (hq i (by simpa using hi)).2.2
     · cases h2
   · rename_i fds ht
     simp only [Option.bind_eq_some_iff] at h
     obtain ⟨fs,h1,h2⟩:=h
     split at h2
     · rename_i hc
       injection h2 with h2
       subst h2
       obtain ⟨xs,k,_,_,hlen,hxl,hf⟩:=DataW.trod_struct ht hx
       have:=kZ n (fun t shs h=>gX n t shs h) k cs fds.toList 0 fs h1 (fun f hfm=>by
        obtain ⟨i,hi,he⟩:=List.getElem_of_mem hfm
        have hi2:i < xs.length:=by rw [hxl];simpa using hi
        exact ⟨xs[i],(hf i f (by rw [←he];simp)).trans (List.getElem?_eq_getElem hi2)⟩) (by rw [hlen,hc];simp)
       simpa using this
     · cases h2
   · cases h
theorem k9 {t:TypeId} {v:Value} {d:DataW H} {ps:List MemPlace} (n:Nat) (shs:List Sh) (hs:tN P n t=some shs) (h:DataW.Trod enc P W 0 (fun _=>true) true t v d ps):
 ∃ ls,di W ls v.cells.toList∧nu shs ls:=by
 obtain ⟨fuel,hf⟩:=h
 exact gX n t shs hs fuel _ _ hf
end
mutual
def rj:Lf→Lf→Prop
 | .int a,.int b=>a=b
 | .bool a,.bool b=>a=b
 | .str a,.str b=>a=b
 | .rows _ m n fl,.rows _ m' n' fl'=>m=m'∧n=n'∧ef fl fl'
 | _,_=>False
def ef:List Lf→List Lf→Prop
 | [],[]=>True
 | x::xs,y::ys=>rj x y∧ef xs ys
 | _,_=>False
end
theorem ef.append: ∀ {a b c d:List Lf},ef a b→ef c d→ef (a++c) (b++d)
 | [],[],_,_,_,h=>h
 | _::_,_::_,_,_,h,h2=>⟨h.1,ef.append h.2 h2⟩
 | [],_::_,_,_,h,_=>h.elim
 | _::_,[],_,_,h,_=>h.elim
theorem ef.length: ∀ {a b:List Lf},ef a b→a.length=b.length
 | [],[],_=>rfl
 | _::_,_::_,h=>by simp [ef.length h.2]
 | [],_::_,h=>h.elim
 | _::_,[],h=>h.elim
mutual
theorem az.same {W:World} : ∀ {x y:Lf} {v:Value},rj x y→az W x v→az W y v
 | .int a,.int b,v,h,hr=>by rw [show b=a from h.symm];exact hr
 | .bool a,.bool b,v,h,hr=>by rw [show b=a from h.symm];exact hr
 | .str a,.str b,v,h,hr=>by rw [show b=a from h.symm];exact hr
 | .rows _ m n fl,.rows _ m' n' fl',v,h,hr=>by
   obtain ⟨rfl,rfl,hs⟩:=h
   obtain ⟨hl,p,cap,hv,hc⟩:=hr
   exact ⟨by rw [←hs.length];exact hl,p,cap,hv,hc.imp id fun ⟨b,off,hp,hlt,xs,h1,h2⟩=>⟨b,off,hp,hlt,xs,h1,di.same hs h2⟩⟩
 | .int _,.bool _,_,h,_=>h.elim
 | .int _,.str _,_,h,_=>h.elim
 | .int _,.rows _ _ _ _,_,h,_=>h.elim
 | .bool _,.int _,_,h,_=>h.elim
 | .bool _,.str _,_,h,_=>h.elim
 | .bool _,.rows _ _ _ _,_,h,_=>h.elim
 | .str _,.int _,_,h,_=>h.elim
 | .str _,.bool _,_,h,_=>h.elim
 | .str _,.rows _ _ _ _,_,h,_=>h.elim
 | .rows _ _ _ _,.int _,_,h,_=>h.elim
 | .rows _ _ _ _,.bool _,_,h,_=>h.elim
 | .rows _ _ _ _,.str _,_,h,_=>h.elim
theorem di.same {W:World} : ∀ {xs ys:List Lf} {vs:List Value},ef xs ys→di W xs vs→di W ys vs
 | [],[],_,_,h=>h
 | _::_,_::_,_,hs,h=>by
   obtain ⟨v,us,hv,h1,h2⟩:=h
   exact ⟨v,us,hv,az.same hs.1 h1,di.same hs.2 h2⟩
 | [],_::_,_,h,_=>h.elim
 | _::_,[],_,h,_=>h.elim
end
theorem xx {α:Type} {enc:α→List Lf} {sh:List Sh} {e e':TypeId} {m:Nat} (one: ∀ y,nu sh y→ ∃ x:α,ef y (enc x)∧bs (enc x)) {y:Lf} (h:zC (.rows e m sh) y):
 ∃ l:List α,rj y (.rows e' m l.length (l.flatMap enc))∧kK (.rows e' m l.length (l.flatMap enc)):=by
 obtain ⟨els,rfl,hl,hel⟩:=h
 have: ∀ els:List (List Lf),(∀ y∈els,nu sh y)→ ∃ l:List α,ef els.flatten (l.flatMap enc)∧bs (l.flatMap enc)∧l.length=els.length:=by
  intro els
  induction els with
  | nil=>exact fun _=>⟨[],trivial,trivial,rfl⟩
  | cons a r ih=>
    intro h
    obtain ⟨l,h1,h2,h3⟩:=ih (fun y hy=>h y (by simp [hy]))
    obtain ⟨x,h4,h5⟩:=one a (h a (by simp))
    exact ⟨x::l,by rw [List.flatten_cons,List.flatMap_cons];exact ef.append h4 h1,by rw [List.flatMap_cons];exact bs.append.2 ⟨h5,h2⟩,by simp [h3]⟩
 obtain ⟨l,h1,h2,h3⟩:=this els hel
 exact ⟨l,⟨rfl,h3.symm,h1⟩,⟨by omega,h2⟩⟩
section
variable {H:Type} {enc:TypeId×Value→H} {P:Program} {W:World} {v:Value} {d:DataW H} {ps:List MemPlace} {t:TypeId}
theorem zD {r:Reach} {b0 n:Nat} {fs:Array Field} {shs:List Sh} (hsh:tN P n t=some shs) (hs:P.underlying t=some (.struct fs)) (hv:Value.okWide P W r b0 t v) (h:DataW.Trod enc P W 0 (fun _=>true) true t v d ps):
 ∃ cs ls,v= .agg cs∧di W ls cs.toList∧nu shs ls:=by
 obtain ⟨cs,rfl,_⟩:=okWide_struct hs hv
 obtain ⟨ls,h1,h2⟩:=k9 n shs hsh h
 exact ⟨cs,ls,rfl,by simpa [Value.cells] using h1,h2⟩
theorem vS {r:Reach} {b0 n:Nat} {e:TypeId} {sh:Sh} (hsh:tN P n t=some [sh]) (hs:P.underlying t=some (.slice e)) (hv:Value.okWide P W r b0 t v) (h:DataW.Trod enc P W 0 (fun _=>true) true t v d ps):
 ∃ y,az W y v∧zC sh y:=by
 obtain ⟨ls,h1,h2⟩:=k9 n [sh] hsh h
 obtain ⟨y,r1,rfl,h3,rfl⟩:=h2
 obtain ⟨u,us,h4,h5,_⟩:=h1
 obtain ⟨a,len,cap,rfl⟩:=okWide_slice hs hv
 simp [Value.cells] at h4
 obtain ⟨rfl,rfl⟩:=h4
 exact ⟨y,h5,h3⟩
end
end Go.Proofs.YtmlgkoeacbeopaaGreatDoor
namespace Go.Proofs.YtmlgkoeacbeopaaGreatDoor
open Go.RowKit
def oI (f:FuncId) (G:World→Prop):Prop:= ∀ (x_C:ap) (r_C_5:Value) (r_C_10:Value) (W:World),G W→az W (am x_C.sset) r_C_5→az W (aj x_C.filter.scopes) r_C_10→bg x_C.lf≤1048576→bs x_C.lf→
 Calls Tryz.prog f #[.agg #[sv x_C.tag,.int .i64 x_C.kind,sv x_C.box,sv x_C.dst,.bool x_C.uid,r_C_5,.int .i64 x_C.op,.int .i64 x_C.flags,sv x_C.text,.bool x_C.filter.on,r_C_10]] W fun e w'=>e= .returned (.bool (cg x_C))∧Below W.heap.size W w'
structure mq (T:TypeId) (w X:World) (A:Array Value):Prop where
 a:X.heap[w.heap.size]? =some (.cells A T (0,0))
 b:Below w.heap.size w X
 z:w.heap.size+1≤X.heap.size
theorem mq.of {T:TypeId} {w X:World} {A:Array Value} (h:X=w.alloc (.cells A T)):mq T w X A:=by
 subst h
 exact ⟨heap_alloc_new w _,(Below.refl _ _).alloc (Nat.le_refl _) _,by simp⟩
theorem mq.drew {T:TypeId} {w X:World} {A:Array Value} (h:mq T w X A):mq T w X.drew A:=⟨h.a,h.b.drew,h.z⟩
theorem mq.call {T:TypeId} {w X X':World} {A:Array Value} (h:mq T w X A) (b:Below X.heap.size X X'):mq T w X' A:=by
 have:=h.z
 exact ⟨(b.block _ (by omega)).trans h.a,h.b.trans (b.mono (by omega)),Nat.le_trans h.z b.size⟩
theorem wS {W:World} {n:TypeId} {m:Nat} :az W (.rows n m 0 []) (.slice none 0 0):=⟨by simp,none,0,rfl,.inl rfl⟩
theorem nv {x:ap} {W:World} {r:Value} (h:az W (am x.sset) r):az W (am (aG x).sset) (bK x r):=by
 unfold aG bK
 cases hb:ay x.kind
 · exact wS
 · exact h
theorem lb {x:ap} {W:World} {r:Value} (h:az W (aj x.filter.scopes) r):az W (aj (aG x).filter.scopes) (aU x r):=by
 unfold aG aU
 by_cases hk:x.kind=6
 · rw [if_pos hk];simp only [hk,if_true];exact h
 · rw [if_neg hk];simp only [hk,if_false];exact wS
theorem mr {x:ap} (hs:bg x.lf≤1048576):bg (aG x).lf≤1048576:=by
 have h:=ap.sz x
 have h':=ap.sz (aG x)
 have e1:(aG x).tag=x.tag:=rfl
 have e2:(aG x).box.length≤x.box.length:=by unfold aG;simp only;split <;> simp
 have e3:(aG x).dst.length≤x.dst.length:=by unfold aG;simp only;split <;> simp
 have e4:co (am (aG x).sset)≤co (am x.sset):=by unfold aG;simp only;split;exact Nat.le_refl _;exact Nat.zero_le _
 have e5:(aG x).text.length≤x.text.length:=by unfold aG;simp only;split <;> simp
 have e6:co (aj (aG x).filter.scopes)≤co (aj x.filter.scopes):=by unfold aG;simp only;split;exact Nat.le_refl _;exact Nat.zero_le _
 rw [e1] at h'
 omega
theorem wT:bW 0:=by unfold bW;omega
theorem vT {x:ap} (hb:bs x.lf):bs (aG x).lf:=by
 obtain ⟨h0,h1,h2,h3,h4,h5,h6,h7,h8,h9,h10,_⟩:=hb
 have z:kK (.str []):=Nat.zero_le _
 have zr: ∀ n,kK (.rows n 2 0 []):=fun _=>⟨Nat.zero_le _,trivial⟩
 have zr3: ∀ n,kK (.rows n 3 0 []):=fun _=>⟨Nat.zero_le _,trivial⟩
 unfold aG
 refine ⟨h0,h1,?_,?_,trivial,?_,?_,?_,?_,trivial,?_,trivial⟩
 · simp only;split;exact h2;exact z
 · simp only;split;exact h3;exact z
 · simp only;split;exact h5;exact zr _
 · simp only;split;exact h6;exact wT
 · simp only;split;exact h7;exact wT
 · simp only;split;exact h8;exact z
 · simp only;split;exact h10;exact zr3 _
set_option maxRecDepth 20000 in
theorem j4 (x:ap) (a5 a10:Value) (w:World) (ha:az w (am x.sset) a5) (ha2:az w (aj x.filter.scopes) a10) (hs:bg x.lf≤1048576):
 Calls Tryz.prog 21 #[bQ x a5 a10] w fun e w'=>e= .returned (.bool (cg x))∧Below w.heap.size w w':=by
 obtain ⟨z1,z2,z3,z5,z8,z9,z10⟩:=ap.small hs
 obtain ⟨y1,y2,y3,y5,y8,y9,y10⟩:=ap.small (mr hs)
 have cE:=fun W (h:Below w.heap.size w W)=>gV (aG x) x (bK x a5) (aU x a10) a5 a10 W (nv (az.below h _ _ ha)) (lb (az.below h _ _ ha2)) (az.below h _ _ ha) (az.below h _ _ ha2) (by omega) (by omega) (fun s hm=>by have:=(y10 s hm).1;omega)
 have cset5:=fun W (h:Below w.heap.size w W)=>ir a5 x.sset W (np (az.below h _ _ ha)) (by omega)
 have cfilter9:=fun W (h:Below w.heap.size w W)=>dJ x.filter a10 W (az.below h _ _ ha2) (by omega) (fun s hm=>⟨by have:=(z10 s hm).1;omega,fun y hy=>by have:=(z10 s hm).2 y hy;omega⟩)
 obtain ⟨p,c,rfl,_⟩:=Spn.at ha
 obtain ⟨q,d,rfl,_⟩:=cq ha2
 have cT:=fun W=>nh ⟨x.tag.toArray⟩ W (by unfold maxLen;show x.tag.toArray.size≤_;simp;omega)
 have cS:=fun W=>rW x p q c d W
 have cname2:=fun W=>eB ⟨x.box.toArray⟩ W (by unfold maxLen;show x.box.toArray.size≤_;simp;omega)
 have cname3:=fun W=>eB ⟨x.dst.toArray⟩ W (by unfold maxLen;show x.dst.toArray.size≤_;simp;omega)
 have CE:=aa9 cE
 have Cset5:=aa9 cset5
 have Cfilter9:=aa9 cfilter9
 have CT:=aa9 cT
 have CS:=aa9 cS
 have Cname2:=aa9 cname2
 have Cname3:=aa9 cname3
 have CK:=aa9 (fun W=>bI x.kind 1 15 W)
 have CB:=aa9 (fun W=>ba x.kind W)
 have CZ:=aa9 (fun W=>bu x.kind W)
 have Cop6:=aa9 (fun W=>bI x.op 1 3 W)
 have Cflags7:=aa9 (fun W=>kQ x.flags W)
 clear cE cset5 cfilter9 cT cS cname2 cname3 ha ha2 hs z1 z2 z3 z5 z8 z9 z10 y1 y2 y3 y5 y8 y9 y10
 cases eT:jq x.tag with
 | false=>
   rw [show jq (ByteArray.mk x.tag.toArray).data.toList=false from eT] at CT
   go_enter Tryz.func21,Tryz.ntmps21
   go_wp2
   refine aw ?_
   intro X hX
   have H0:=aa9 (mq.of hX)
   clear hX
   have HS:=aa9 (fun (W:World) (H:mq 29 w W #[sv x.tag,.int .i64 x.kind,sv x.box,sv x.dst,.bool x.uid,.slice p x.sset.length c,.int .i64 x.op,.int .i64 x.flags,sv x.text,.bool x.filter.on,.slice q x.filter.scopes.length d])=>((cC11 H.a):W.cell? ⟨w.heap.size,0,none⟩=some (sv x.tag)∧W.cell? ⟨w.heap.size,1,none⟩=some (.int .i64 x.kind)∧W.cell? ⟨w.heap.size,2,none⟩=some (sv x.box)∧W.cell? ⟨w.heap.size,3,none⟩=some (sv x.dst)∧W.cell? ⟨w.heap.size,4,none⟩=some (.bool x.uid)∧W.cell? ⟨w.heap.size,5,none⟩=some (.slice p x.sset.length c)∧W.cell? ⟨w.heap.size,6,none⟩=some (.int .i64 x.op)∧W.cell? ⟨w.heap.size,7,none⟩=some (.int .i64 x.flags)∧W.cell? ⟨w.heap.size,8,none⟩=some (sv x.text)∧W.cell? ⟨w.heap.size,9,none⟩=some (.bool x.filter.on)∧W.cell? ⟨w.heap.size,10,none⟩=some (.slice q x.filter.scopes.length d)))
   have hs0:=HS.out X.drew H0.out.drew
   refine ah oL12 (fun W=>W.cell? ⟨w.heap.size,0,none⟩=some (sv x.tag)∧W.cell? ⟨w.heap.size,1,none⟩=some (.int .i64 x.kind)∧W.cell? ⟨w.heap.size,2,none⟩=some (sv x.box)∧W.cell? ⟨w.heap.size,3,none⟩=some (sv x.dst)∧W.cell? ⟨w.heap.size,4,none⟩=some (.bool x.uid)∧W.cell? ⟨w.heap.size,5,none⟩=some (.slice p x.sset.length c)∧W.cell? ⟨w.heap.size,6,none⟩=some (.int .i64 x.op)∧W.cell? ⟨w.heap.size,7,none⟩=some (.int .i64 x.flags)∧W.cell? ⟨w.heap.size,8,none⟩=some (sv x.text)∧W.cell? ⟨w.heap.size,9,none⟩=some (.bool x.filter.on)∧W.cell? ⟨w.heap.size,10,none⟩=some (.slice q x.filter.scopes.length d)) (by kernel_rfl) (by kernel_rfl) rfl (by kernel_rfl) ?_
   intro ops' hops
   simp only [oL12,List.map_cons,List.map_nil,ae,ag]
   iterate 2 (refine aa ?_ (fun _ _ _ h=>h) rfl ?_ hs0 ?_;rotate_left;focus (intro W hS;obtain ⟨s0,s1,s2,s3,s4,s5,s6,s7,s8,s9,s10⟩:=hS;go_simp;rfl))
   try go_frame
   refine al rfl ?_
   go_simp
   refine (CT.out _).mono ?_
   rintro e w1 ⟨rfl,rfl⟩
   refine ⟨hs0,?_⟩
   iterate 2 (refine aa ?_ (fun _ _ _ h=>h) rfl ?_ hs0 ?_;rotate_left;focus (intro W hS;obtain ⟨s0,s1,s2,s3,s4,s5,s6,s7,s8,s9,s10⟩:=hS;go_simp;rfl))
   iterate 2 (refine aJ (fun _ _ _ h=>h) (by rw [hops.out];kernel_rfl) hs0 ?_)
   refine bD hs0 (by rw [hops.out];kernel_rfl) ?_
   iterate 1 (refine aJ (fun _ _ _ h=>h) (by rw [hops.out];kernel_rfl) hs0 ?_)
   iterate 2 (refine aa ?_ (fun _ _ _ h=>h) rfl ?_ hs0 ?_;rotate_left;focus (intro W hS;obtain ⟨s0,s1,s2,s3,s4,s5,s6,s7,s8,s9,s10⟩:=hS;go_simp;rfl))
   iterate 2 (refine aJ (fun _ _ _ h=>h) (by rw [hops.out];kernel_rfl) hs0 ?_)
   refine bD hs0 (by rw [hops.out];kernel_rfl) ?_
   refine bD hs0 (by rw [hops.out];kernel_rfl) ?_
   iterate 1 (refine aJ (fun _ _ _ h=>h) (by rw [hops.out];kernel_rfl) hs0 ?_)
   iterate 1 (refine aa ?_ (fun _ _ _ h=>h) rfl ?_ hs0 ?_;rotate_left;focus (intro W hS;obtain ⟨s0,s1,s2,s3,s4,s5,s6,s7,s8,s9,s10⟩:=hS;go_simp;rfl))
   refine ai ?_
   go_simp
   try go_frame
   have HV:=aa9 (show cg x=false from by unfold cg;rw [eT];simp)
   go_wp2
   go_ret
   exact ⟨by rw [HV.out];rfl,H0.out.drew.b⟩
 | true=>
   cases eK:(decide (1≤x.kind) && decide (x.kind≤15)) with
   | false=>
     rw [show jq (ByteArray.mk x.tag.toArray).data.toList=true from eT] at CT
     rw [eK] at CK
     go_enter Tryz.func21,Tryz.ntmps21
     go_wp2
     refine aw ?_
     intro X hX
     have H0:=aa9 (mq.of hX)
     clear hX
     have HS:=aa9 (fun (W:World) (H:mq 29 w W #[sv x.tag,.int .i64 x.kind,sv x.box,sv x.dst,.bool x.uid,.slice p x.sset.length c,.int .i64 x.op,.int .i64 x.flags,sv x.text,.bool x.filter.on,.slice q x.filter.scopes.length d])=>((cC11 H.a):W.cell? ⟨w.heap.size,0,none⟩=some (sv x.tag)∧W.cell? ⟨w.heap.size,1,none⟩=some (.int .i64 x.kind)∧W.cell? ⟨w.heap.size,2,none⟩=some (sv x.box)∧W.cell? ⟨w.heap.size,3,none⟩=some (sv x.dst)∧W.cell? ⟨w.heap.size,4,none⟩=some (.bool x.uid)∧W.cell? ⟨w.heap.size,5,none⟩=some (.slice p x.sset.length c)∧W.cell? ⟨w.heap.size,6,none⟩=some (.int .i64 x.op)∧W.cell? ⟨w.heap.size,7,none⟩=some (.int .i64 x.flags)∧W.cell? ⟨w.heap.size,8,none⟩=some (sv x.text)∧W.cell? ⟨w.heap.size,9,none⟩=some (.bool x.filter.on)∧W.cell? ⟨w.heap.size,10,none⟩=some (.slice q x.filter.scopes.length d)))
     have hs0:=HS.out X.drew H0.out.drew
     refine ah oL12 (fun W=>W.cell? ⟨w.heap.size,0,none⟩=some (sv x.tag)∧W.cell? ⟨w.heap.size,1,none⟩=some (.int .i64 x.kind)∧W.cell? ⟨w.heap.size,2,none⟩=some (sv x.box)∧W.cell? ⟨w.heap.size,3,none⟩=some (sv x.dst)∧W.cell? ⟨w.heap.size,4,none⟩=some (.bool x.uid)∧W.cell? ⟨w.heap.size,5,none⟩=some (.slice p x.sset.length c)∧W.cell? ⟨w.heap.size,6,none⟩=some (.int .i64 x.op)∧W.cell? ⟨w.heap.size,7,none⟩=some (.int .i64 x.flags)∧W.cell? ⟨w.heap.size,8,none⟩=some (sv x.text)∧W.cell? ⟨w.heap.size,9,none⟩=some (.bool x.filter.on)∧W.cell? ⟨w.heap.size,10,none⟩=some (.slice q x.filter.scopes.length d)) (by kernel_rfl) (by kernel_rfl) rfl (by kernel_rfl) ?_
     intro ops' hops
     simp only [oL12,List.map_cons,List.map_nil,ae,ag]
     iterate 2 (refine aa ?_ (fun _ _ _ h=>h) rfl ?_ hs0 ?_;rotate_left;focus (intro W hS;obtain ⟨s0,s1,s2,s3,s4,s5,s6,s7,s8,s9,s10⟩:=hS;go_simp;rfl))
     try go_frame
     refine al rfl ?_
     go_simp
     refine (CT.out _).mono ?_
     rintro e w1 ⟨rfl,rfl⟩
     refine ⟨hs0,?_⟩
     iterate 2 (refine aa ?_ (fun _ _ _ h=>h) rfl ?_ hs0 ?_;rotate_left;focus (intro W hS;obtain ⟨s0,s1,s2,s3,s4,s5,s6,s7,s8,s9,s10⟩:=hS;go_simp;rfl))
     iterate 2 (refine aa ?_ (fun _ _ _ h=>h) (by rw [hops.out];kernel_rfl) ?_ hs0 ?_;rotate_left;focus (intro W hS;obtain ⟨s0,s1,s2,s3,s4,s5,s6,s7,s8,s9,s10⟩:=hS;go_simp;rfl))
     try go_frame
     refine al (by rw [hops.out];kernel_rfl) ?_
     go_simp
     refine (CK.out _).mono ?_
     rintro e w2 ⟨rfl,rfl⟩
     refine ⟨hs0,?_⟩
     iterate 1 (refine aa ?_ (fun _ _ _ h=>h) (by rw [hops.out];kernel_rfl) ?_ hs0 ?_;rotate_left;focus (intro W hS;obtain ⟨s0,s1,s2,s3,s4,s5,s6,s7,s8,s9,s10⟩:=hS;go_simp;rfl))
     iterate 2 (refine aa ?_ (fun _ _ _ h=>h) rfl ?_ hs0 ?_;rotate_left;focus (intro W hS;obtain ⟨s0,s1,s2,s3,s4,s5,s6,s7,s8,s9,s10⟩:=hS;go_simp;rfl))
     iterate 2 (refine aJ (fun _ _ _ h=>h) (by rw [hops.out];kernel_rfl) hs0 ?_)
     refine bD hs0 (by rw [hops.out];kernel_rfl) ?_
     refine bD hs0 (by rw [hops.out];kernel_rfl) ?_
     iterate 1 (refine aJ (fun _ _ _ h=>h) (by rw [hops.out];kernel_rfl) hs0 ?_)
     iterate 1 (refine aa ?_ (fun _ _ _ h=>h) rfl ?_ hs0 ?_;rotate_left;focus (intro W hS;obtain ⟨s0,s1,s2,s3,s4,s5,s6,s7,s8,s9,s10⟩:=hS;go_simp;rfl))
     refine ai ?_
     go_simp
     try go_frame
     have HV:=aa9 (show cg x=false from by unfold cg;rw [eT,eK];simp)
     go_wp2
     go_ret
     exact ⟨by rw [HV.out];rfl,H0.out.drew.b⟩
   | true=>
     cases eE:decide (aG x=x) with
     | false=>
       rw [show jq (ByteArray.mk x.tag.toArray).data.toList=true from eT] at CT
       rw [eK] at CK
       rw [eE] at CE
       go_enter Tryz.func21,Tryz.ntmps21
       go_wp2
       refine aw ?_
       intro X hX
       have H0:=aa9 (mq.of hX)
       clear hX
       have HS:=aa9 (fun (W:World) (H:mq 29 w W #[sv x.tag,.int .i64 x.kind,sv x.box,sv x.dst,.bool x.uid,.slice p x.sset.length c,.int .i64 x.op,.int .i64 x.flags,sv x.text,.bool x.filter.on,.slice q x.filter.scopes.length d])=>((cC11 H.a):W.cell? ⟨w.heap.size,0,none⟩=some (sv x.tag)∧W.cell? ⟨w.heap.size,1,none⟩=some (.int .i64 x.kind)∧W.cell? ⟨w.heap.size,2,none⟩=some (sv x.box)∧W.cell? ⟨w.heap.size,3,none⟩=some (sv x.dst)∧W.cell? ⟨w.heap.size,4,none⟩=some (.bool x.uid)∧W.cell? ⟨w.heap.size,5,none⟩=some (.slice p x.sset.length c)∧W.cell? ⟨w.heap.size,6,none⟩=some (.int .i64 x.op)∧W.cell? ⟨w.heap.size,7,none⟩=some (.int .i64 x.flags)∧W.cell? ⟨w.heap.size,8,none⟩=some (sv x.text)∧W.cell? ⟨w.heap.size,9,none⟩=some (.bool x.filter.on)∧W.cell? ⟨w.heap.size,10,none⟩=some (.slice q x.filter.scopes.length d)))
       have hs0:=HS.out X.drew H0.out.drew
       refine ah oL12 (fun W=>W.cell? ⟨w.heap.size,0,none⟩=some (sv x.tag)∧W.cell? ⟨w.heap.size,1,none⟩=some (.int .i64 x.kind)∧W.cell? ⟨w.heap.size,2,none⟩=some (sv x.box)∧W.cell? ⟨w.heap.size,3,none⟩=some (sv x.dst)∧W.cell? ⟨w.heap.size,4,none⟩=some (.bool x.uid)∧W.cell? ⟨w.heap.size,5,none⟩=some (.slice p x.sset.length c)∧W.cell? ⟨w.heap.size,6,none⟩=some (.int .i64 x.op)∧W.cell? ⟨w.heap.size,7,none⟩=some (.int .i64 x.flags)∧W.cell? ⟨w.heap.size,8,none⟩=some (sv x.text)∧W.cell? ⟨w.heap.size,9,none⟩=some (.bool x.filter.on)∧W.cell? ⟨w.heap.size,10,none⟩=some (.slice q x.filter.scopes.length d)) (by kernel_rfl) (by kernel_rfl) rfl (by kernel_rfl) ?_
       intro ops' hops
       simp only [oL12,List.map_cons,List.map_nil,ae,ag]
       iterate 2 (refine aa ?_ (fun _ _ _ h=>h) rfl ?_ hs0 ?_;rotate_left;focus (intro W hS;obtain ⟨s0,s1,s2,s3,s4,s5,s6,s7,s8,s9,s10⟩:=hS;go_simp;rfl))
       try go_frame
       refine al rfl ?_
       go_simp
       refine (CT.out _).mono ?_
       rintro e w1 ⟨rfl,rfl⟩
       refine ⟨hs0,?_⟩
       iterate 2 (refine aa ?_ (fun _ _ _ h=>h) rfl ?_ hs0 ?_;rotate_left;focus (intro W hS;obtain ⟨s0,s1,s2,s3,s4,s5,s6,s7,s8,s9,s10⟩:=hS;go_simp;rfl))
       iterate 2 (refine aa ?_ (fun _ _ _ h=>h) (by rw [hops.out];kernel_rfl) ?_ hs0 ?_;rotate_left;focus (intro W hS;obtain ⟨s0,s1,s2,s3,s4,s5,s6,s7,s8,s9,s10⟩:=hS;go_simp;rfl))
       try go_frame
       refine al (by rw [hops.out];kernel_rfl) ?_
       go_simp
       refine (CK.out _).mono ?_
       rintro e w2 ⟨rfl,rfl⟩
       refine ⟨hs0,?_⟩
       iterate 1 (refine aa ?_ (fun _ _ _ h=>h) (by rw [hops.out];kernel_rfl) ?_ hs0 ?_;rotate_left;focus (intro W hS;obtain ⟨s0,s1,s2,s3,s4,s5,s6,s7,s8,s9,s10⟩:=hS;go_simp;rfl))
       iterate 2 (refine aa ?_ (fun _ _ _ h=>h) rfl ?_ hs0 ?_;rotate_left;focus (intro W hS;obtain ⟨s0,s1,s2,s3,s4,s5,s6,s7,s8,s9,s10⟩:=hS;go_simp;rfl))
       iterate 2 (refine aa ?_ (fun _ _ _ h=>h) (by rw [hops.out];kernel_rfl) ?_ hs0 ?_;rotate_left;focus (intro W hS;obtain ⟨s0,s1,s2,s3,s4,s5,s6,s7,s8,s9,s10⟩:=hS;go_simp;rfl))
       try go_frame
       refine al (by rw [hops.out];kernel_rfl) ?_
       go_simp
       refine (CS.out _).mono ?_
       rintro e w3 ⟨rfl,b3⟩
       have H3:=aa9 (H0.out.drew.call b3)
       clear b3
       have hs3:=HS.out _ H3.out
       refine ⟨hs3,?_⟩
       try go_frame
       refine al (by rw [hops.out];kernel_rfl) ?_
       go_simp
       refine (CE.out _ H3.out.b).mono ?_
       rintro e w4 ⟨rfl,b4⟩
       have H4:=aa9 (H3.out.call b4)
       clear b4
       have hs4:=HS.out _ H4.out
       refine ⟨hs4,?_⟩
       iterate 1 (refine aa ?_ (fun _ _ _ h=>h) (by rw [hops.out];kernel_rfl) ?_ hs4 ?_;rotate_left;focus (intro W hS;obtain ⟨s0,s1,s2,s3,s4,s5,s6,s7,s8,s9,s10⟩:=hS;go_simp;rfl))
       iterate 1 (refine aa ?_ (fun _ _ _ h=>h) rfl ?_ hs4 ?_;rotate_left;focus (intro W hS;obtain ⟨s0,s1,s2,s3,s4,s5,s6,s7,s8,s9,s10⟩:=hS;go_simp;rfl))
       refine ai ?_
       go_simp
       try go_frame
       have HV:=aa9 (show cg x=false from by unfold cg;rw [eT,eK,eE];simp)
       go_wp2
       go_ret
       exact ⟨by rw [HV.out];rfl,H4.out.b⟩
     | true=>
       rw [show jq (ByteArray.mk x.tag.toArray).data.toList=true from eT] at CT
       rw [eK] at CK
       rw [eE] at CE
       go_enter Tryz.func21,Tryz.ntmps21
       go_wp2
       refine aw ?_
       intro X hX
       have H0:=aa9 (mq.of hX)
       clear hX
       have HS:=aa9 (fun (W:World) (H:mq 29 w W #[sv x.tag,.int .i64 x.kind,sv x.box,sv x.dst,.bool x.uid,.slice p x.sset.length c,.int .i64 x.op,.int .i64 x.flags,sv x.text,.bool x.filter.on,.slice q x.filter.scopes.length d])=>((cC11 H.a):W.cell? ⟨w.heap.size,0,none⟩=some (sv x.tag)∧W.cell? ⟨w.heap.size,1,none⟩=some (.int .i64 x.kind)∧W.cell? ⟨w.heap.size,2,none⟩=some (sv x.box)∧W.cell? ⟨w.heap.size,3,none⟩=some (sv x.dst)∧W.cell? ⟨w.heap.size,4,none⟩=some (.bool x.uid)∧W.cell? ⟨w.heap.size,5,none⟩=some (.slice p x.sset.length c)∧W.cell? ⟨w.heap.size,6,none⟩=some (.int .i64 x.op)∧W.cell? ⟨w.heap.size,7,none⟩=some (.int .i64 x.flags)∧W.cell? ⟨w.heap.size,8,none⟩=some (sv x.text)∧W.cell? ⟨w.heap.size,9,none⟩=some (.bool x.filter.on)∧W.cell? ⟨w.heap.size,10,none⟩=some (.slice q x.filter.scopes.length d)))
       have hs0:=HS.out X.drew H0.out.drew
       refine ah oL12 (fun W=>W.cell? ⟨w.heap.size,0,none⟩=some (sv x.tag)∧W.cell? ⟨w.heap.size,1,none⟩=some (.int .i64 x.kind)∧W.cell? ⟨w.heap.size,2,none⟩=some (sv x.box)∧W.cell? ⟨w.heap.size,3,none⟩=some (sv x.dst)∧W.cell? ⟨w.heap.size,4,none⟩=some (.bool x.uid)∧W.cell? ⟨w.heap.size,5,none⟩=some (.slice p x.sset.length c)∧W.cell? ⟨w.heap.size,6,none⟩=some (.int .i64 x.op)∧W.cell? ⟨w.heap.size,7,none⟩=some (.int .i64 x.flags)∧W.cell? ⟨w.heap.size,8,none⟩=some (sv x.text)∧W.cell? ⟨w.heap.size,9,none⟩=some (.bool x.filter.on)∧W.cell? ⟨w.heap.size,10,none⟩=some (.slice q x.filter.scopes.length d)) (by kernel_rfl) (by kernel_rfl) rfl (by kernel_rfl) ?_
       intro ops' hops
       simp only [oL12,List.map_cons,List.map_nil,ae,ag]
       iterate 2 (refine aa ?_ (fun _ _ _ h=>h) rfl ?_ hs0 ?_;rotate_left;focus (intro W hS;obtain ⟨s0,s1,s2,s3,s4,s5,s6,s7,s8,s9,s10⟩:=hS;go_simp;rfl))
       try go_frame
       refine al rfl ?_
       go_simp
       refine (CT.out _).mono ?_
       rintro e w1 ⟨rfl,rfl⟩
       refine ⟨hs0,?_⟩
       iterate 2 (refine aa ?_ (fun _ _ _ h=>h) rfl ?_ hs0 ?_;rotate_left;focus (intro W hS;obtain ⟨s0,s1,s2,s3,s4,s5,s6,s7,s8,s9,s10⟩:=hS;go_simp;rfl))
       iterate 2 (refine aa ?_ (fun _ _ _ h=>h) (by rw [hops.out];kernel_rfl) ?_ hs0 ?_;rotate_left;focus (intro W hS;obtain ⟨s0,s1,s2,s3,s4,s5,s6,s7,s8,s9,s10⟩:=hS;go_simp;rfl))
       try go_frame
       refine al (by rw [hops.out];kernel_rfl) ?_
       go_simp
       refine (CK.out _).mono ?_
       rintro e w2 ⟨rfl,rfl⟩
       refine ⟨hs0,?_⟩
       iterate 1 (refine aa ?_ (fun _ _ _ h=>h) (by rw [hops.out];kernel_rfl) ?_ hs0 ?_;rotate_left;focus (intro W hS;obtain ⟨s0,s1,s2,s3,s4,s5,s6,s7,s8,s9,s10⟩:=hS;go_simp;rfl))
       iterate 2 (refine aa ?_ (fun _ _ _ h=>h) rfl ?_ hs0 ?_;rotate_left;focus (intro W hS;obtain ⟨s0,s1,s2,s3,s4,s5,s6,s7,s8,s9,s10⟩:=hS;go_simp;rfl))
       iterate 2 (refine aa ?_ (fun _ _ _ h=>h) (by rw [hops.out];kernel_rfl) ?_ hs0 ?_;rotate_left;focus (intro W hS;obtain ⟨s0,s1,s2,s3,s4,s5,s6,s7,s8,s9,s10⟩:=hS;go_simp;rfl))
       try go_frame
       refine al (by rw [hops.out];kernel_rfl) ?_
       go_simp
       refine (CS.out _).mono ?_
       rintro e w3 ⟨rfl,b3⟩
       have H3:=aa9 (H0.out.drew.call b3)
       clear b3
       have hs3:=HS.out _ H3.out
       refine ⟨hs3,?_⟩
       try go_frame
       refine al (by rw [hops.out];kernel_rfl) ?_
       go_simp
       refine (CE.out _ H3.out.b).mono ?_
       rintro e w4 ⟨rfl,b4⟩
       have H4:=aa9 (H3.out.call b4)
       clear b4
       have hs4:=HS.out _ H4.out
       refine ⟨hs4,?_⟩
       iterate 1 (refine aa ?_ (fun _ _ _ h=>h) (by rw [hops.out];kernel_rfl) ?_ hs4 ?_;rotate_left;focus (intro W hS;obtain ⟨s0,s1,s2,s3,s4,s5,s6,s7,s8,s9,s10⟩:=hS;go_simp;rfl))
       iterate 1 (refine aa ?_ (fun _ _ _ h=>h) rfl ?_ hs4 ?_;rotate_left;focus (intro W hS;obtain ⟨s0,s1,s2,s3,s4,s5,s6,s7,s8,s9,s10⟩:=hS;go_simp;rfl))
       refine ai ?_
       go_simp
       try go_frame
       have HB:=aa9 H4.out.b
       have HC:=aa9 H4.out.a
       clear HS hs0 hs3 hs4 H0 H3 H4 CT CK CS CE
       obtain ⟨y0,y1,y2,y3,y4,y5,y6,y7,y8,y9,y10⟩:=cC11 HC.out
       clear HC
       by_cases k14:x.kind=14
       · have hb1:ar x.kind=true:=by unfold ar;simp only [Bool.or_eq_true,beq_iff_eq];omega
         have hb2:ay x.kind=false:=by unfold ay;simp only [Bool.or_eq_false_iff,beq_eq_false_iff_ne];omega
         have t14:(x.kind==14)=true:=cTrue (by omega)
         have t8:(x.kind==8)=false:=cFalse (by omega)
         clear k14
         rw [hb1] at CB
         rw [hb2] at CZ
         go_wp2_with fail
         refine (CB.out _).mono ?_
         rintro e w5 ⟨rfl,rfl⟩
         cases e0:aH x.box with
         | true=>
           rw [show aH (ByteArray.mk x.box.toArray).data.toList=true from e0] at Cname2
           go_wp2_with fail
           refine (Cname2.out _).mono ?_
           rintro e w7 ⟨rfl,rfl⟩
           cases e1:aH x.dst with
           | true=>
             rw [show aH (ByteArray.mk x.dst.toArray).data.toList=true from e1] at Cname3
             go_wp2_with fail
             refine (Cname3.out _).mono ?_
             rintro e w7 ⟨rfl,rfl⟩
             go_wp2_with fail
             refine (CZ.out _).mono ?_
             rintro e w6 ⟨rfl,rfl⟩
             cases e2:flB x.flags with
             | true=>
               rw [e2] at Cflags7
               go_wp2_with fail
               refine (Cflags7.out _).mono ?_
               rintro e w7 ⟨rfl,rfl⟩
               by_cases hl:(x.text.length:Int)≤40
               · have el:decide ((x.text.length:Int)≤40)=true:=decide_eq_true hl
                 have HV:=aa9 (show cg x=aN x.filter from by unfold cg;rw [eT,eK,eE,hb1,hb2,t14,t8,e0,e1,e2,el];simp)
                 go_wp2_with fail
                 refine (Cfilter9.out _ HB.out).mono ?_
                 rintro e w9 ⟨rfl,b9⟩
                 have hbz:=HB.out.trans (b9.mono HB.out.size)
                 clear b9
                 go_wp2
                 go_ret
                 exact ⟨by rw [HV.out];rfl,hbz⟩
               · have el:decide ((x.text.length:Int)≤40)=false:=decide_eq_false hl
                 have HV:=aa9 (show cg x=false from by unfold cg;rw [eT,eK,eE,hb1,hb2,t14,t8,e0,e1,e2,el];simp)
                 go_wp2
                 go_ret
                 exact ⟨by rw [HV.out];rfl,HB.out⟩
             | false=>
               rw [e2] at Cflags7
               go_wp2_with fail
               refine (Cflags7.out _).mono ?_
               rintro e w7 ⟨rfl,rfl⟩
               have HV:=aa9 (show cg x=false from by unfold cg;rw [eT,eK,eE,hb1,hb2,t14,t8,e0,e1,e2];simp)
               go_wp2
               go_ret
               exact ⟨by rw [HV.out];rfl,HB.out⟩
           | false=>
             rw [show aH (ByteArray.mk x.dst.toArray).data.toList=false from e1] at Cname3
             go_wp2_with fail
             refine (Cname3.out _).mono ?_
             rintro e w7 ⟨rfl,rfl⟩
             have HV:=aa9 (show cg x=false from by unfold cg;rw [eT,eK,eE,hb1,hb2,t14,t8,e0,e1];simp)
             go_wp2
             go_ret
             exact ⟨by rw [HV.out];rfl,HB.out⟩
         | false=>
           rw [show aH (ByteArray.mk x.box.toArray).data.toList=false from e0] at Cname2
           go_wp2_with fail
           refine (Cname2.out _).mono ?_
           rintro e w7 ⟨rfl,rfl⟩
           have HV:=aa9 (show cg x=false from by unfold cg;rw [eT,eK,eE,hb1,hb2,t14,t8,e0];simp)
           go_wp2
           go_ret
           exact ⟨by rw [HV.out];rfl,HB.out⟩
       by_cases k10:x.kind=10
       · have hb1:ar x.kind=true:=by unfold ar;simp only [Bool.or_eq_true,beq_iff_eq];omega
         have hb2:ay x.kind=true:=by unfold ay;simp only [Bool.or_eq_true,beq_iff_eq];omega
         have t14:(x.kind==14)=false:=cFalse (by omega)
         have t8:(x.kind==8)=false:=cFalse (by omega)
         clear k10
         rw [hb1] at CB
         rw [hb2] at CZ
         go_wp2_with fail
         refine (CB.out _).mono ?_
         rintro e w5 ⟨rfl,rfl⟩
         cases e0:aH x.box with
         | true=>
           rw [show aH (ByteArray.mk x.box.toArray).data.toList=true from e0] at Cname2
           go_wp2_with fail
           refine (Cname2.out _).mono ?_
           rintro e w7 ⟨rfl,rfl⟩
           go_wp2_with fail
           refine (CZ.out _).mono ?_
           rintro e w6 ⟨rfl,rfl⟩
           cases e1:setB x.sset with
           | true=>
             rw [e1] at Cset5
             go_wp2_with fail
             refine (Cset5.out _ HB.out).mono ?_
             rintro e w7 ⟨rfl,rfl⟩
             cases e2:flB x.flags with
             | true=>
               rw [e2] at Cflags7
               go_wp2_with fail
               refine (Cflags7.out _).mono ?_
               rintro e w7 ⟨rfl,rfl⟩
               by_cases hl:(x.text.length:Int)≤40
               · have el:decide ((x.text.length:Int)≤40)=true:=decide_eq_true hl
                 have HV:=aa9 (show cg x=aN x.filter from by unfold cg;rw [eT,eK,eE,hb1,hb2,t14,t8,e0,e1,e2,el];simp)
                 go_wp2_with fail
                 refine (Cfilter9.out _ HB.out).mono ?_
                 rintro e w9 ⟨rfl,b9⟩
                 have hbz:=HB.out.trans (b9.mono HB.out.size)
                 clear b9
                 go_wp2
                 go_ret
                 exact ⟨by rw [HV.out];rfl,hbz⟩
               · have el:decide ((x.text.length:Int)≤40)=false:=decide_eq_false hl
                 have HV:=aa9 (show cg x=false from by unfold cg;rw [eT,eK,eE,hb1,hb2,t14,t8,e0,e1,e2,el];simp)
                 go_wp2
                 go_ret
                 exact ⟨by rw [HV.out];rfl,HB.out⟩
             | false=>
               rw [e2] at Cflags7
               go_wp2_with fail
               refine (Cflags7.out _).mono ?_
               rintro e w7 ⟨rfl,rfl⟩
               have HV:=aa9 (show cg x=false from by unfold cg;rw [eT,eK,eE,hb1,hb2,t14,t8,e0,e1,e2];simp)
               go_wp2
               go_ret
               exact ⟨by rw [HV.out];rfl,HB.out⟩
           | false=>
             rw [e1] at Cset5
             go_wp2_with fail
             refine (Cset5.out _ HB.out).mono ?_
             rintro e w7 ⟨rfl,rfl⟩
             have HV:=aa9 (show cg x=false from by unfold cg;rw [eT,eK,eE,hb1,hb2,t14,t8,e0,e1];simp)
             go_wp2
             go_ret
             exact ⟨by rw [HV.out];rfl,HB.out⟩
         | false=>
           rw [show aH (ByteArray.mk x.box.toArray).data.toList=false from e0] at Cname2
           go_wp2_with fail
           refine (Cname2.out _).mono ?_
           rintro e w7 ⟨rfl,rfl⟩
           have HV:=aa9 (show cg x=false from by unfold cg;rw [eT,eK,eE,hb1,hb2,t14,t8,e0];simp)
           go_wp2
           go_ret
           exact ⟨by rw [HV.out];rfl,HB.out⟩
       by_cases k8:x.kind=8
       · have hb1:ar x.kind=false:=by unfold ar;simp only [Bool.or_eq_false_iff,beq_eq_false_iff_ne];omega
         have hb2:ay x.kind=true:=by unfold ay;simp only [Bool.or_eq_true,beq_iff_eq];omega
         have t14:(x.kind==14)=false:=cFalse (by omega)
         have t8:(x.kind==8)=true:=cTrue (by omega)
         clear k8
         rw [hb1] at CB
         rw [hb2] at CZ
         go_wp2_with fail
         refine (CB.out _).mono ?_
         rintro e w5 ⟨rfl,rfl⟩
         go_wp2_with fail
         refine (CZ.out _).mono ?_
         rintro e w6 ⟨rfl,rfl⟩
         cases e0:setB x.sset with
         | true=>
           rw [e0] at Cset5
           go_wp2_with fail
           refine (Cset5.out _ HB.out).mono ?_
           rintro e w7 ⟨rfl,rfl⟩
           cases e1:(decide (1≤x.op) && decide (x.op≤3)) with
           | true=>
             rw [e1] at Cop6
             go_wp2_with fail
             refine (Cop6.out _).mono ?_
             rintro e w7 ⟨rfl,rfl⟩
             cases e2:flB x.flags with
             | true=>
               rw [e2] at Cflags7
               go_wp2_with fail
               refine (Cflags7.out _).mono ?_
               rintro e w7 ⟨rfl,rfl⟩
               by_cases hl:(x.text.length:Int)≤40
               · have el:decide ((x.text.length:Int)≤40)=true:=decide_eq_true hl
                 have HV:=aa9 (show cg x=aN x.filter from by unfold cg;rw [eT,eK,eE,hb1,hb2,t14,t8,e0,e1,e2,el];simp)
                 go_wp2_with fail
                 refine (Cfilter9.out _ HB.out).mono ?_
                 rintro e w9 ⟨rfl,b9⟩
                 have hbz:=HB.out.trans (b9.mono HB.out.size)
                 clear b9
                 go_wp2
                 go_ret
                 exact ⟨by rw [HV.out];rfl,hbz⟩
               · have el:decide ((x.text.length:Int)≤40)=false:=decide_eq_false hl
                 have HV:=aa9 (show cg x=false from by unfold cg;rw [eT,eK,eE,hb1,hb2,t14,t8,e0,e1,e2,el];simp)
                 go_wp2
                 go_ret
                 exact ⟨by rw [HV.out];rfl,HB.out⟩
             | false=>
               rw [e2] at Cflags7
               go_wp2_with fail
               refine (Cflags7.out _).mono ?_
               rintro e w7 ⟨rfl,rfl⟩
               have HV:=aa9 (show cg x=false from by unfold cg;rw [eT,eK,eE,hb1,hb2,t14,t8,e0,e1,e2];simp)
               go_wp2
               go_ret
               exact ⟨by rw [HV.out];rfl,HB.out⟩
           | false=>
             rw [e1] at Cop6
             go_wp2_with fail
             refine (Cop6.out _).mono ?_
             rintro e w7 ⟨rfl,rfl⟩
             have HV:=aa9 (show cg x=false from by unfold cg;rw [eT,eK,eE,hb1,hb2,t14,t8,e0,e1];simp)
             go_wp2
             go_ret
             exact ⟨by rw [HV.out];rfl,HB.out⟩
         | false=>
           rw [e0] at Cset5
           go_wp2_with fail
           refine (Cset5.out _ HB.out).mono ?_
           rintro e w7 ⟨rfl,rfl⟩
           have HV:=aa9 (show cg x=false from by unfold cg;rw [eT,eK,eE,hb1,hb2,t14,t8,e0];simp)
           go_wp2
           go_ret
           exact ⟨by rw [HV.out];rfl,HB.out⟩
       by_cases k7:x.kind=7
       · have hb1:ar x.kind=false:=by unfold ar;simp only [Bool.or_eq_false_iff,beq_eq_false_iff_ne];omega
         have hb2:ay x.kind=true:=by unfold ay;simp only [Bool.or_eq_true,beq_iff_eq];omega
         have t14:(x.kind==14)=false:=cFalse (by omega)
         have t8:(x.kind==8)=false:=cFalse (by omega)
         clear k7
         rw [hb1] at CB
         rw [hb2] at CZ
         go_wp2_with fail
         refine (CB.out _).mono ?_
         rintro e w5 ⟨rfl,rfl⟩
         go_wp2_with fail
         refine (CZ.out _).mono ?_
         rintro e w6 ⟨rfl,rfl⟩
         cases e0:setB x.sset with
         | true=>
           rw [e0] at Cset5
           go_wp2_with fail
           refine (Cset5.out _ HB.out).mono ?_
           rintro e w7 ⟨rfl,rfl⟩
           cases e1:flB x.flags with
           | true=>
             rw [e1] at Cflags7
             go_wp2_with fail
             refine (Cflags7.out _).mono ?_
             rintro e w7 ⟨rfl,rfl⟩
             by_cases hl:(x.text.length:Int)≤40
             · have el:decide ((x.text.length:Int)≤40)=true:=decide_eq_true hl
               have HV:=aa9 (show cg x=aN x.filter from by unfold cg;rw [eT,eK,eE,hb1,hb2,t14,t8,e0,e1,el];simp)
               go_wp2_with fail
               refine (Cfilter9.out _ HB.out).mono ?_
               rintro e w9 ⟨rfl,b9⟩
               have hbz:=HB.out.trans (b9.mono HB.out.size)
               clear b9
               go_wp2
               go_ret
               exact ⟨by rw [HV.out];rfl,hbz⟩
             · have el:decide ((x.text.length:Int)≤40)=false:=decide_eq_false hl
               have HV:=aa9 (show cg x=false from by unfold cg;rw [eT,eK,eE,hb1,hb2,t14,t8,e0,e1,el];simp)
               go_wp2
               go_ret
               exact ⟨by rw [HV.out];rfl,HB.out⟩
           | false=>
             rw [e1] at Cflags7
             go_wp2_with fail
             refine (Cflags7.out _).mono ?_
             rintro e w7 ⟨rfl,rfl⟩
             have HV:=aa9 (show cg x=false from by unfold cg;rw [eT,eK,eE,hb1,hb2,t14,t8,e0,e1];simp)
             go_wp2
             go_ret
             exact ⟨by rw [HV.out];rfl,HB.out⟩
         | false=>
           rw [e0] at Cset5
           go_wp2_with fail
           refine (Cset5.out _ HB.out).mono ?_
           rintro e w7 ⟨rfl,rfl⟩
           have HV:=aa9 (show cg x=false from by unfold cg;rw [eT,eK,eE,hb1,hb2,t14,t8,e0];simp)
           go_wp2
           go_ret
           exact ⟨by rw [HV.out];rfl,HB.out⟩
       by_cases kb:x.kind=2∨x.kind=11∨x.kind=12∨x.kind=13
       · have hb1:ar x.kind=true:=by unfold ar;simp only [Bool.or_eq_true,beq_iff_eq];omega
         have hb2:ay x.kind=false:=by unfold ay;simp only [Bool.or_eq_false_iff,beq_eq_false_iff_ne];omega
         have t14:(x.kind==14)=false:=cFalse (by omega)
         have t8:(x.kind==8)=false:=cFalse (by omega)
         clear kb
         rw [hb1] at CB
         rw [hb2] at CZ
         go_wp2_with fail
         refine (CB.out _).mono ?_
         rintro e w5 ⟨rfl,rfl⟩
         cases e0:aH x.box with
         | true=>
           rw [show aH (ByteArray.mk x.box.toArray).data.toList=true from e0] at Cname2
           go_wp2_with fail
           refine (Cname2.out _).mono ?_
           rintro e w7 ⟨rfl,rfl⟩
           go_wp2_with fail
           refine (CZ.out _).mono ?_
           rintro e w6 ⟨rfl,rfl⟩
           cases e1:flB x.flags with
           | true=>
             rw [e1] at Cflags7
             go_wp2_with fail
             refine (Cflags7.out _).mono ?_
             rintro e w7 ⟨rfl,rfl⟩
             by_cases hl:(x.text.length:Int)≤40
             · have el:decide ((x.text.length:Int)≤40)=true:=decide_eq_true hl
               have HV:=aa9 (show cg x=aN x.filter from by unfold cg;rw [eT,eK,eE,hb1,hb2,t14,t8,e0,e1,el];simp)
               go_wp2_with fail
               refine (Cfilter9.out _ HB.out).mono ?_
               rintro e w9 ⟨rfl,b9⟩
               have hbz:=HB.out.trans (b9.mono HB.out.size)
               clear b9
               go_wp2
               go_ret
               exact ⟨by rw [HV.out];rfl,hbz⟩
             · have el:decide ((x.text.length:Int)≤40)=false:=decide_eq_false hl
               have HV:=aa9 (show cg x=false from by unfold cg;rw [eT,eK,eE,hb1,hb2,t14,t8,e0,e1,el];simp)
               go_wp2
               go_ret
               exact ⟨by rw [HV.out];rfl,HB.out⟩
           | false=>
             rw [e1] at Cflags7
             go_wp2_with fail
             refine (Cflags7.out _).mono ?_
             rintro e w7 ⟨rfl,rfl⟩
             have HV:=aa9 (show cg x=false from by unfold cg;rw [eT,eK,eE,hb1,hb2,t14,t8,e0,e1];simp)
             go_wp2
             go_ret
             exact ⟨by rw [HV.out];rfl,HB.out⟩
         | false=>
           rw [show aH (ByteArray.mk x.box.toArray).data.toList=false from e0] at Cname2
           go_wp2_with fail
           refine (Cname2.out _).mono ?_
           rintro e w7 ⟨rfl,rfl⟩
           have HV:=aa9 (show cg x=false from by unfold cg;rw [eT,eK,eE,hb1,hb2,t14,t8,e0];simp)
           go_wp2
           go_ret
           exact ⟨by rw [HV.out];rfl,HB.out⟩
       have hb1:ar x.kind=false:=by unfold ar;simp only [Bool.or_eq_false_iff,beq_eq_false_iff_ne];omega
       have hb2:ay x.kind=false:=by unfold ay;simp only [Bool.or_eq_false_iff,beq_eq_false_iff_ne];omega
       have t14:(x.kind==14)=false:=cFalse (by omega)
       have t8:(x.kind==8)=false:=cFalse (by omega)
       rw [hb1] at CB
       rw [hb2] at CZ
       go_wp2_with fail
       refine (CB.out _).mono ?_
       rintro e w5 ⟨rfl,rfl⟩
       go_wp2_with fail
       refine (CZ.out _).mono ?_
       rintro e w6 ⟨rfl,rfl⟩
       cases e0:flB x.flags with
       | true=>
         rw [e0] at Cflags7
         go_wp2_with fail
         refine (Cflags7.out _).mono ?_
         rintro e w7 ⟨rfl,rfl⟩
         by_cases hl:(x.text.length:Int)≤40
         · have el:decide ((x.text.length:Int)≤40)=true:=decide_eq_true hl
           have HV:=aa9 (show cg x=aN x.filter from by unfold cg;rw [eT,eK,eE,hb1,hb2,t14,t8,e0,el];simp)
           go_wp2_with fail
           refine (Cfilter9.out _ HB.out).mono ?_
           rintro e w9 ⟨rfl,b9⟩
           have hbz:=HB.out.trans (b9.mono HB.out.size)
           clear b9
           go_wp2
           go_ret
           exact ⟨by rw [HV.out];rfl,hbz⟩
         · have el:decide ((x.text.length:Int)≤40)=false:=decide_eq_false hl
           have HV:=aa9 (show cg x=false from by unfold cg;rw [eT,eK,eE,hb1,hb2,t14,t8,e0,el];simp)
           go_wp2
           go_ret
           exact ⟨by rw [HV.out];rfl,HB.out⟩
       | false=>
         rw [e0] at Cflags7
         go_wp2_with fail
         refine (Cflags7.out _).mono ?_
         rintro e w7 ⟨rfl,rfl⟩
         have HV:=aa9 (show cg x=false from by unfold cg;rw [eT,eK,eE,hb1,hb2,t14,t8,e0];simp)
         go_wp2
         go_ret
         exact ⟨by rw [HV.out];rfl,HB.out⟩
theorem vU (x:ap) (hk:1≤x.kind∧x.kind≤15):(bO x && jq x.tag && decide (aG x=x))=cg x:=by
 by_cases hd:aG x=x
 · have hf: ¬(x.kind=8∨x.kind=11)→x.flags=0:=fun h=>by
    have h1:=congrArg ap.flags hd
    change (if x.kind=8∨x.kind=11 then x.flags else 0)=x.flags at h1
    rw [if_neg h] at h1;exact h1.symm
   have ht: ¬x.kind=11→x.text=[]:=fun h=>by
    have h1:=congrArg ap.text hd
    change (if x.kind=11 then x.text else [])=x.text at h1
    rw [if_neg h] at h1;exact h1.symm
   have hfi: ¬x.kind=6→x.filter=⟨false,[]⟩:=fun h=>by
    have h1:=congrArg ap.filter hd
    change (if x.kind=6 then x.filter else ⟨false,[]⟩)=x.filter at h1
    rw [if_neg h] at h1;exact h1.symm
   have ho: ∀ n,opB n=(decide (1≤n) && decide (n≤3)):=fun _=>rfl
   unfold cg
   rw [decide_eq_true hd,decide_eq_true hk.1,decide_eq_true hk.2,←ho]
   by_cases k14:x.kind=14
   · have hb1:ar x.kind=true:=by unfold ar;simp only [Bool.or_eq_true,beq_iff_eq];omega
     have hb2:ay x.kind=false:=by unfold ay;simp only [Bool.or_eq_false_iff,beq_eq_false_iff_ne];omega
     have t14:(x.kind==14)=true:=cTrue (by omega)
     have t8:(x.kind==8)=false:=cFalse (by omega)
     have eo:bO x=(aH x.box && aH x.dst):=by unfold bO;rw [if_pos (by omega)]
     rw [eo,hb1,hb2,t14,t8,hf (by omega),ht (by omega),hfi (by omega)]
     generalize jq x.tag=b0
     generalize aH x.box=b1
     generalize aH x.dst=b2
     cases b0 <;> cases b1 <;> cases b2 <;> rfl
   by_cases k11:x.kind=11
   · have hb1:ar x.kind=true:=by unfold ar;simp only [Bool.or_eq_true,beq_iff_eq];omega
     have hb2:ay x.kind=false:=by unfold ay;simp only [Bool.or_eq_false_iff,beq_eq_false_iff_ne];omega
     have t14:(x.kind==14)=false:=cFalse (by omega)
     have t8:(x.kind==8)=false:=cFalse (by omega)
     have eo:bO x=(aH x.box && flB x.flags && decide ((x.text.length:Int)≤40)):=by unfold bO;rw [if_neg (by omega),if_pos (by omega)]
     rw [eo,hb1,hb2,t14,t8,hfi (by omega)]
     generalize jq x.tag=b0
     generalize aH x.box=b1
     generalize flB x.flags=b2
     generalize decide ((x.text.length:Int)≤40)=b3
     cases b0 <;> cases b1 <;> cases b2 <;> cases b3 <;> rfl
   by_cases k7:x.kind=7
   · have hb1:ar x.kind=false:=by unfold ar;simp only [Bool.or_eq_false_iff,beq_eq_false_iff_ne];omega
     have hb2:ay x.kind=true:=by unfold ay;simp only [Bool.or_eq_true,beq_iff_eq];omega
     have t14:(x.kind==14)=false:=cFalse (by omega)
     have t8:(x.kind==8)=false:=cFalse (by omega)
     have eo:bO x=(setB x.sset):=by unfold bO;rw [if_neg (by omega),if_neg (by omega),if_pos (by omega)]
     rw [eo,hb1,hb2,t14,t8,hf (by omega),ht (by omega),hfi (by omega)]
     generalize jq x.tag=b0
     generalize setB x.sset=b1
     cases b0 <;> cases b1 <;> rfl
   by_cases k10:x.kind=10
   · have hb1:ar x.kind=true:=by unfold ar;simp only [Bool.or_eq_true,beq_iff_eq];omega
     have hb2:ay x.kind=true:=by unfold ay;simp only [Bool.or_eq_true,beq_iff_eq];omega
     have t14:(x.kind==14)=false:=cFalse (by omega)
     have t8:(x.kind==8)=false:=cFalse (by omega)
     have eo:bO x=(setB x.sset && aH x.box):=by unfold bO;rw [if_neg (by omega),if_neg (by omega),if_neg (by omega),if_pos (by omega)]
     rw [eo,hb1,hb2,t14,t8,hf (by omega),ht (by omega),hfi (by omega)]
     generalize jq x.tag=b0
     generalize aH x.box=b1
     generalize setB x.sset=b2
     cases b0 <;> cases b1 <;> cases b2 <;> rfl
   by_cases k8:x.kind=8
   · have hb1:ar x.kind=false:=by unfold ar;simp only [Bool.or_eq_false_iff,beq_eq_false_iff_ne];omega
     have hb2:ay x.kind=true:=by unfold ay;simp only [Bool.or_eq_true,beq_iff_eq];omega
     have t14:(x.kind==14)=false:=cFalse (by omega)
     have t8:(x.kind==8)=true:=cTrue (by omega)
     have eo:bO x=(setB x.sset && opB x.op && flB x.flags):=by unfold bO;rw [if_neg (by omega),if_neg (by omega),if_neg (by omega),if_neg (by omega),if_pos (by omega)]
     rw [eo,hb1,hb2,t14,t8,ht (by omega),hfi (by omega)]
     generalize jq x.tag=b0
     generalize setB x.sset=b1
     generalize opB x.op=b2
     generalize flB x.flags=b3
     cases b0 <;> cases b1 <;> cases b2 <;> cases b3 <;> rfl
   by_cases k6:x.kind=6
   · have hb1:ar x.kind=false:=by unfold ar;simp only [Bool.or_eq_false_iff,beq_eq_false_iff_ne];omega
     have hb2:ay x.kind=false:=by unfold ay;simp only [Bool.or_eq_false_iff,beq_eq_false_iff_ne];omega
     have t14:(x.kind==14)=false:=cFalse (by omega)
     have t8:(x.kind==8)=false:=cFalse (by omega)
     have eo:bO x=(aN x.filter):=by unfold bO;rw [if_neg (by omega),if_neg (by omega),if_neg (by omega),if_neg (by omega),if_neg (by omega),if_pos (by omega)]
     rw [eo,hb1,hb2,t14,t8,hf (by omega),ht (by omega)]
     generalize jq x.tag=b0
     generalize aN x.filter=b1
     cases b0 <;> cases b1 <;> rfl
   by_cases kb:x.kind=2∨x.kind=12∨x.kind=13
   · have hb1:ar x.kind=true:=by unfold ar;simp only [Bool.or_eq_true,beq_iff_eq];omega
     have hb2:ay x.kind=false:=by unfold ay;simp only [Bool.or_eq_false_iff,beq_eq_false_iff_ne];omega
     have t14:(x.kind==14)=false:=cFalse (by omega)
     have t8:(x.kind==8)=false:=cFalse (by omega)
     have eo:bO x=(aH x.box):=by unfold bO;rw [if_neg (by omega),if_neg (by omega),if_neg (by omega),if_neg (by omega),if_neg (by omega),if_neg (by omega),if_pos (by rw [hb1])]
     rw [eo,hb1,hb2,t14,t8,hf (by omega),ht (by omega),hfi (by omega)]
     generalize jq x.tag=b0
     generalize aH x.box=b1
     cases b0 <;> cases b1 <;> rfl
   have hb1:ar x.kind=false:=by unfold ar;simp only [Bool.or_eq_false_iff,beq_eq_false_iff_ne];omega
   have hb2:ay x.kind=false:=by unfold ay;simp only [Bool.or_eq_false_iff,beq_eq_false_iff_ne];omega
   have t14:(x.kind==14)=false:=cFalse (by omega)
   have t8:(x.kind==8)=false:=cFalse (by omega)
   have eo:bO x=(true):=by unfold bO;rw [if_neg (by omega),if_neg (by omega),if_neg (by omega),if_neg (by omega),if_neg (by omega),if_neg (by omega),if_neg (by rw [hb1];decide)]
   rw [eo,hb1,hb2,t14,t8,hf (by omega),ht (by omega),hfi (by omega)]
   generalize jq x.tag=b0
   cases b0 <;> rfl
 · rw [decide_eq_false hd]
   unfold cg
   rw [decide_eq_false hd]
   simp
set_option maxRecDepth 20000 in
theorem bn (x:ap) (a5 a10:Value) (w:World) (ha:az w (am x.sset) a5) (ha2:az w (aj x.filter.scopes) a10) (hs:bg x.lf≤1048576) (hbd:bs x.lf):
 Calls Tryz.prog 13 #[bQ x a5 a10] w fun e w'=>e= .returned (.bool (cg x))∧Below w.heap.size w w':=by
 have cE:=fun W (h:Below w.heap.size w W)=>iK x (aG x) a5 a10 (bK x a5) (aU x a10) W (az.below h _ _ ha) (az.below h _ _ ha2) (nv (az.below h _ _ ha)) (lb (az.below h _ _ ha2)) hs hbd (mr hs) (vT hbd)
 have hsw:decide (x=aG x)=decide (aG x=x):=by
  by_cases h:x=aG x
  · rw [decide_eq_true h,decide_eq_true h.symm]
  · rw [decide_eq_false h,decide_eq_false (fun e=>h e.symm)]
 simp only [hsw] at cE
 have ha':=ha
 have ha2':=ha2
 obtain ⟨p,c,rfl,_⟩:=Spn.at ha
 obtain ⟨q,d,rfl,_⟩:=cq ha2
 obtain ⟨p5,c5,e5,_⟩:=Spn.at (nv (x:=x) ha')
 obtain ⟨p10,c10,e10,_⟩:=cq (lb (x:=x) ha2')
 rw [e5,e10] at cE
 have cT:=fun W=>jV ⟨x.tag.toArray⟩ W (by have:=(ap.small hs).1;unfold maxLen;show x.tag.toArray.size≤_;simp;omega)
 have CE:=aa9 cE
 have CT:=aa9 cT
 clear cE cT
 by_cases hk:1≤x.kind∧x.kind≤15
 · have cO:=fun W (h:Below w.heap.size w W)=>nr x p q c d W hk (az.below h _ _ ha') (az.below h _ _ ha2') hs hbd
   rw [e5,e10] at cO
   simp only [bQ] at cO
   have CO:=aa9 cO
   have HV:=aa9 (vU x hk)
   clear cO ha' ha2' hs hbd hk hsw
   cases eO:bO x with
   | false=>
     rw [eO] at CO HV
     go_enter Tryz.func13,Tryz.ntmps13
     go_wp2_with fail
     refine (CO.out _ ((Below.refl _ _).alloc (Nat.le_refl _) _)).mono ?_
     rintro e w1 ⟨rfl,b1⟩
     have H1:=aa9 ((mq.of (w:=w) rfl).call b1)
     clear b1
     go_upto_region 2 with fail
     refine aw ?_
     intro X hX
     have H2:=aa9 (H1.out.call (show Below w1.heap.size w1 X from by rw [hX];exact (Below.refl _ _).alloc (Nat.le_refl _) _))
     have HBX:=aa9 H2.out.b
     clear hX
     go_wp2
     go_ret
     exact ⟨by rw [←HV.out];simp,HBX.out⟩
   | true=>
     cases eT:jq x.tag with
     | false=>
       rw [eO] at CO HV
       rw [eT] at HV
       rw [show jq (ByteArray.mk x.tag.toArray).data.toList=false from eT] at CT
       go_enter Tryz.func13,Tryz.ntmps13
       go_wp2_with fail
       refine (CO.out _ ((Below.refl _ _).alloc (Nat.le_refl _) _)).mono ?_
       rintro e w1 ⟨rfl,b1⟩
       have H1:=aa9 ((mq.of (w:=w) rfl).call b1)
       clear b1
       go_upto_region 2 with fail
       refine aw ?_
       intro X hX
       have H2:=aa9 (H1.out.call (show Below w1.heap.size w1 X from by rw [hX];exact (Below.refl _ _).alloc (Nat.le_refl _) _))
       have O2:=aa9 (show X.heap[w1.heap.size]? =some (.cells #[sv (aG x).tag,.int .i64 (aG x).kind,sv (aG x).box,sv (aG x).dst,.bool (aG x).uid,(.slice p5 (aG x).sset.length c5),.int .i64 (aG x).op,.int .i64 (aG x).flags,sv (aG x).text,.bool (aG x).filter.on,(.slice p10 (aG x).filter.scopes.length c10)] 29 (0,0)) from by rw [hX];exact heap_alloc_new _ _)
       clear hX
       have a0:=(aa8 H2.out.a 0).trans (show _=some (sv x.tag) from rfl)
       go_wp2_with fail
       refine (CT.out _).mono ?_
       rintro e w3 ⟨rfl,b3⟩
       have hbz:=H2.out.call b3
       clear b3
       go_wp2
       go_ret
       exact ⟨by rw [←HV.out];simp,hbz.b⟩
     | true=>
       rw [eO] at CO HV
       rw [eT] at HV
       rw [show jq (ByteArray.mk x.tag.toArray).data.toList=true from eT] at CT
       go_enter Tryz.func13,Tryz.ntmps13
       go_wp2_with fail
       refine (CO.out _ ((Below.refl _ _).alloc (Nat.le_refl _) _)).mono ?_
       rintro e w1 ⟨rfl,b1⟩
       have H1:=aa9 ((mq.of (w:=w) rfl).call b1)
       clear b1
       go_upto_region 2 with fail
       refine aw ?_
       intro X hX
       have H2:=aa9 (H1.out.call (show Below w1.heap.size w1 X from by rw [hX];exact (Below.refl _ _).alloc (Nat.le_refl _) _))
       have O2:=aa9 (show X.heap[w1.heap.size]? =some (.cells #[sv (aG x).tag,.int .i64 (aG x).kind,sv (aG x).box,sv (aG x).dst,.bool (aG x).uid,(.slice p5 (aG x).sset.length c5),.int .i64 (aG x).op,.int .i64 (aG x).flags,sv (aG x).text,.bool (aG x).filter.on,(.slice p10 (aG x).filter.scopes.length c10)] 29 (0,0)) from by rw [hX];exact heap_alloc_new _ _)
       clear hX
       have a0:=(aa8 H2.out.a 0).trans (show _=some (sv x.tag) from rfl)
       go_wp2_with fail
       refine (CT.out _).mono ?_
       rintro e w3 ⟨rfl,b3⟩
       have H3:=aa9 (H2.out.call b3)
       have O3:=aa9 ((b3.block w1.heap.size (Array.getElem?_eq_some_iff.1 O2.out).1).trans O2.out)
       clear b3 a0
       obtain ⟨a0,a1,a2,a3,a4,a5,a6,a7,a8,a9,a10⟩:=cC11 H3.out.a
       obtain ⟨o0,o1,o2,o3,o4,o5,o6,o7,o8,o9,o10⟩:=cC11 O3.out
       go_wp2_with fail
       refine (CE.out _ H3.out.b).mono ?_
       rintro e w4 ⟨rfl,b4⟩
       have hbz:=H3.out.call b4
       clear b4 a0 a1 a2 a3 a4 a5 a6 a7 a8 a9 a10 o0 o1 o2 o3 o4 o5 o6 o7 o8 o9 o10
       go_wp2
       go_ret
       exact ⟨by rw [←HV.out];simp,hbz.b⟩
 · have CO:=aa9 (fun W=>yO x p q c d W hk)
   have HV:=aa9 (show cg x=false from by
    unfold cg
    by_cases h1:1≤x.kind
    · rw [decide_eq_false (show ¬x.kind≤15 from fun h2=>hk ⟨h1,h2⟩)];simp
    · rw [decide_eq_false h1];simp)
   clear ha' ha2' hs hbd hk hsw CE CT
   go_enter Tryz.func13,Tryz.ntmps13
   go_wp2_with fail
   refine (CO.out _).mono ?_
   rintro e w1 ⟨rfl,b1⟩
   have H1:=aa9 ((mq.of (w:=w) rfl).call b1)
   clear b1
   go_upto_region 2 with fail
   refine aw ?_
   intro X hX
   have H2:=aa9 (H1.out.call (show Below w1.heap.size w1 X from by rw [hX];exact (Below.refl _ _).alloc (Nat.le_refl _) _))
   clear hX
   go_wp2
   go_ret
   exact ⟨by rw [HV.out];rfl,H2.out.b⟩
theorem tP {G:World→Prop} :oI 13 G:=fun x r5 r10 W _ h1 h2 hs hb=>bn x r5 r10 W h1 h2 hs hb
end Go.Proofs.YtmlgkoeacbeopaaGreatDoor
