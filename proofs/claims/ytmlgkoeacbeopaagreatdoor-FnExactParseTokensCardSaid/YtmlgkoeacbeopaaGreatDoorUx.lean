/- Ux -/
import Derived.Test.YtmlgkoeacbeopaaGreatDoorUu
import Derived.Test.YtmlgkoeacbeopaaGreatDoorUv
set_option maxHeartbeats 12800000
namespace Go.Proofs.YtmlgkoeacbeopaaGreatDoor
open Go.RowKit
def oL21 : List (Nat × Bool) := [(0, true), (1, true), (2, true), (3, true), (4, true), (5, true), (6, true), (7, true)]
def oL20 : List (Nat × Bool) := [(0, true), (1, true), (2, true), (3, false), (4, false), (5, false)]
theorem uB: ∀ i:Fin 4,∀ j:Fin 4,an (evW i.val)=an (evW j.val)→i=j:=by decide+kernel
theorem sk {x:List UInt8} {j:Nat} (hj:j < 4) (h:an (evW j)=an x):cu x 4=(j:Int):=by
 have hi: ∀ n,n≤4→j < n→cu x n=(j:Int):=by
  intro n
  induction n with
  | zero=>intro _ h;omega
  | succ n ih=>
    intro hn hjn
    unfold cu
    by_cases he:an (evW n)=an x
    · have e:=uB ⟨j,hj⟩ ⟨n,by omega⟩ (h.trans he.symm)
      have:j=n:=congrArg Fin.val e
      rw [if_pos he,this]
    · rw [if_neg he]
      exact ih (by omega) (by
       by_cases hjn':j=n
       · subst hjn';exact absurd h he
       · omega)
 exact hi 4 (by omega) hj
theorem mC {x:List UInt8} {last:Int} (h0: -1≤last): ∀ n:Nat,(∀ j:Nat,last < (j:Int)→j < n→ ¬an x=an (evW j))→cu x n≤last
 | 0,_=>by simpa [cu] using h0
 | n+1,h=>by
   unfold cu
   by_cases he:an (evW n)=an x
   · rw [if_pos he]
     by_cases hl:last < (n:Int)
     · exact absurd he.symm (h n hl (by omega))
     · omega
   · rw [if_neg he]
     exact mC h0 n fun j h1 h2=>h j h1 (by omega)
def EvI (ws:List (List UInt8)) (k:Nat) (b:Int) (a:Nat):Prop:=
 a≤ws.length∧ ∃ last:Int,-1≤last∧last < (k:Int)∧dp (-1) 0 ws=dp last b (ws.drop a)∧ ∀ x,ws[a]? =some x→ ∀ j:Nat,last < (j:Int)→j < k→ ¬an x=an (evW j)
theorem EvI.start (ws:List (List UInt8)):EvI ws 0 0 0:=⟨Nat.zero_le _,-1,by omega,by omega,by rw [List.drop_zero],fun _ _ j _ h=>by omega⟩
theorem EvI.yes {ws:List (List UInt8)} {k a:Nat} {b:Int} {x:List UInt8} (h:EvI ws k b a) (hk:k < 4) (hx:ws[a]? =some x) (hu:an x=an (evW k)):EvI ws (k+1) (orB b (k:Int)) (a+1):=by
 obtain ⟨ha,last,h1,h2,h3,h4⟩:=h
 have hlt:=(List.getElem?_eq_some_iff.1 hx).1
 refine ⟨hlt,(k:Int),by omega,by omega,?_,fun _ _ j h5 h6=>by omega⟩
 rw [h3,jG hx,sk hk hu.symm,if_neg (by omega)]
theorem EvI.no {ws:List (List UInt8)} {k a:Nat} {b:Int} (h:EvI ws k b a) (hu: ∀ x,ws[a]? =some x→ ¬an x=an (evW k)):EvI ws (k+1) b a:=by
 obtain ⟨ha,last,h1,h2,h3,h4⟩:=h
 refine ⟨ha,last,h1,by omega,h3,fun x hx j h5 h6=> ?_⟩
 by_cases hj:j=k
 · subst hj;exact hu x hx
 · exact h4 x hx j h5 (by omega)
def eN (ws:List (List UInt8)):Int:=(dp (-1) 0 ws).getD 0
theorem EvI.done_yes {ws:List (List UInt8)} {b:Int} {a:Nat} (h:EvI ws 4 b a) (ha: ¬a < ws.length):eN ws=b:=by
 obtain ⟨h0,last,h1,h2,h3,h4⟩:=h
 unfold eN
 rw [h3,List.drop_of_length_le (by omega)]
 rfl
theorem EvI.done_no {ws:List (List UInt8)} {b:Int} {a:Nat} (h:EvI ws 4 b a) (ha:a < ws.length):eN ws=0:=by
 obtain ⟨h0,last,h1,h2,h3,h4⟩:=h
 obtain ⟨x,hx⟩: ∃ x,ws[a]? =some x:=⟨_,List.getElem?_eq_getElem ha⟩
 unfold eN
 rw [h3,jG hx,if_pos (mC h1 4 (h4 x hx))]
 rfl
theorem rz: ∀ (ws:List (List UInt8)) (last:Int) (m:Nat),-1≤last→m≤15→ ∀ v,dp last (m:Int) ws=some v→0≤v∧v≤15
 | [],last,m,_,hm,v,h=>by simp [dp] at h;omega
 | w::r,last,m,h0,hm,v,h=>by
   unfold dp at h
   split at h
   · cases h
   · rename_i hn
     have hf:=lj w 4
     obtain ⟨j,hj⟩: ∃ j:Nat,cu w 4=(j:Int):=⟨(cu w 4).toNat,by omega⟩
     rw [hj] at h hn hf
     have ho: ∀ m:Fin 16,∀ j:Fin 4,∃ q:Fin 16,orB (m.val:Int) (j.val:Int)=(q.val:Int):=by decide+kernel
     obtain ⟨q,hq⟩:=ho ⟨m,by omega⟩ ⟨j,by omega⟩
     simp only at hq
     rw [hq] at h
     exact rz r _ q.val (by omega) (by omega) v h
theorem aal (ws:List (List UInt8)):0≤eN ws∧eN ws≤15:=by
 unfold eN
 cases h:dp (-1) 0 ws with
 | none=>simp
 | some v=>exact rz ws (-1) 0 (by omega) (by omega) v (by simpa using h)
theorem uC: ∀ i:Fin 4,∀ j:Fin 4,an (scW (i.val+1))=an (scW (j.val+1))→i=j:=by decide+kernel
theorem gC {u:List UInt8} {j:Nat} (hj:j < 4) (h:an (scW (j+1))=u):bJ u 4=((j+1:Nat):Int):=by
 have hi: ∀ n,n≤4→j < n→bJ u n=((j+1:Nat):Int):=by
  intro n
  induction n with
  | zero=>intro _ h;omega
  | succ n ih=>
    intro hn hjn
    unfold bJ
    by_cases he:an (scW (n+1))=u
    · have e:=uC ⟨j,hj⟩ ⟨n,by omega⟩ (h.trans he.symm)
      have:j=n:=congrArg Fin.val e
      rw [if_pos he,this]
    · rw [if_neg he]
      exact ih (by omega) (by
       by_cases hjn':j=n
       · subst hjn';exact absurd h he
       · omega)
 exact hi 4 (by omega) hj
theorem lz {u:List UInt8} : ∀ n,(∀ j,j < n→ ¬an (scW (j+1))=u)→bJ u n=0
 | 0,_=>rfl
 | n+1,h=>by
   unfold bJ
   rw [if_neg (h n (by omega))]
   exact lz n fun j hj=>h j (by omega)
theorem po (u:List UInt8): ∀ n,0≤bJ u n∧bJ u n≤(n:Int)
 | 0=>by simp [bJ]
 | n+1=>by
   have:=po u n
   unfold bJ
   split <;> omega
def dc (t:Tok):Int:=if t.kind=1 then bJ (an t.text) 4 else 0
theorem rA (t:Tok):0≤dc t∧dc t≤4:=by
 unfold dc
 split
 · exact po _ 4
 · omega
def de (r:List Tok):Option (Scp×List Tok):=
 (aq 3 r).bind fun q0=>match q0.2 with
  | []=>none
  | t::r2=>(nmP (dc t) r2).bind fun q2=>(bc q2.2).bind fun q3=>(aq 4 q3.2).bind fun q4=>some (⟨dc t,q2.1,eN q3.1⟩,q4.2)
def aam (o:Option (Scp×List Tok)) (i:Option (Scp×List Tok)):Prop:=match o with
 | some q=>i=some q
 | none=>i=none∨ ∃ s r,i=some (s,r)∧bp s=false
theorem pp {nm:List (List UInt8)} {ev:Int} :bp ⟨0,nm,ev⟩=false:=by simp [bp]
theorem sm {kd:Int} {nm:List (List UInt8)} :bp ⟨kd,nm,0⟩=false:=by simp [bp]
theorem uD (r:List Tok):aam (fV r) (de r):=by
 unfold fV de
 cases h0:aq 3 r with
 | none=>exact .inl rfl
 | some q0=>
   obtain ⟨x0,r1⟩:=q0
   simp only [Option.bind_some]
   cases r1 with
   | nil=>exact .inl rfl
   | cons t r2=>
     by_cases ht:t.kind=1
     · have h1:aq 1 (t::r2)=some (t.text,r2):=by simp [aq,ht]
       have hk:dc t=bJ (an t.text) 4:=by unfold dc;rw [if_pos ht]
       simp only [h1,Option.bind_some,hk]
       cases h2:nmP (bJ (an t.text) 4) r2 with
       | none=>exact .inl rfl
       | some q2=>
         simp only [Option.bind_some]
         cases h3:bc q2.2 with
         | none=>exact .inl rfl
         | some q3=>
           simp only [Option.bind_some]
           cases h4:aq 4 q3.2 with
           | none=>exact .inl rfl
           | some q4=>
             simp only [Option.bind_some]
             unfold sa eN
             cases h5:dp (-1) 0 q3.1 with
             | none=>exact .inr ⟨_,_,rfl,sm⟩
             | some b=>rfl
     · have h1:aq 1 (t::r2)=none:=by simp [aq,ht]
       have hk:dc t=0:=by unfold dc;rw [if_neg ht]
       simp only [h1,Option.bind_none,hk]
       show _∨_
       cases h2:nmP 0 r2 with
       | none=>exact .inl rfl
       | some q2=>
         simp only [Option.bind_some]
         cases h3:bc q2.2 with
         | none=>exact .inl rfl
         | some q3=>
           simp only [Option.bind_some]
           cases h4:aq 4 q3.2 with
           | none=>exact .inl rfl
           | some q4=>exact .inr ⟨_,_,rfl,pp⟩
def cU:Nat→List Tok→Option (List Scp)
 | 0,_=>none
 | n+1,r=>if r=[] then some [] else (de r).bind fun q=>(cU n q.2).map (q.1:: ·)
def zb (o:Option (List Scp)) (i:Option (List Scp)):Prop:=match o with
 | some q=>i=some q
 | none=>i=none∨ ∃ ss,i=some ss∧ss.all bp=false
theorem mD: ∀ (n:Nat) (r:List Tok),zb (cF n r) (cU n r)
 | 0,r=> .inl rfl
 | n+1,r=>by
   unfold cF cU
   by_cases hr:r=[]
   · rw [if_pos hr,if_pos hr];rfl
   · rw [if_neg hr,if_neg hr]
     have h1:=uD r
     cases hp:fV r with
     | some q=>
       rw [hp] at h1
       rw [show de r=some q from h1]
       simp only [Option.bind_some]
       have h2:=mD n q.2
       cases hq:cF n q.2 with
       | some ss=>
         rw [hq] at h2
         rw [show cU n q.2=some ss from h2]
         rfl
       | none=>
         rw [hq] at h2
         rcases h2 with h2 | ⟨ss,h2,h3⟩
         · rw [h2];exact .inl rfl
         · rw [h2];exact .inr ⟨_,rfl,by simp [h3]⟩
     | none=>
       rw [hp] at h1
       simp only [Option.bind_none]
       rcases h1 with h1 | ⟨s,r',h1,h3⟩
       · rw [h1];exact .inl rfl
       · rw [h1]
         simp only [Option.bind_some]
         cases hq:cU n r' with
         | none=>exact .inl rfl
         | some ss=>exact .inr ⟨_,rfl,by simp [h3]⟩
theorem xR (n:Nat) (r:List Tok):((cU n r).bind fun ss=>nQ ⟨true,ss⟩)=(cF n r).bind fun ss=>nQ ⟨true,ss⟩:=by
 have h:=mD n r
 cases hp:cF n r with
 | some ss=>
   rw [hp] at h
   rw [show cU n r=some ss from h]
 | none=>
   rw [hp] at h
   rcases h with h | ⟨ss,h,h2⟩
   · rw [h]
   · rw [h]
     simp only [Option.bind_some,Option.bind_none]
     unfold nQ aN
     rw [h2]
     rfl
theorem uE {t:Tok} {r:List Tok} (hk:t.kind=1) (hu:an t.text=wg):bL (t::r)=(cU (r.length+2) r).bind fun ss=>nQ ⟨true,ss⟩:=by
 unfold bL
 have h1:aq 1 (t::r)=some (t.text,r):=by simp [aq,hk]
 rw [h1]
 simp only [Option.bind_some,List.length_cons]
 rw [if_pos hu,xR]
theorem sn {t:Tok} (hk:t.kind=1) (hu:an t.text=lk):bL [t]=some ⟨false,[]⟩:=by
 unfold bL
 have h1:aq 1 [t]=some (t.text,[]):=by simp [aq,hk]
 rw [h1]
 simp only [Option.bind_some]
 rw [if_neg (by rw [hu];decide),if_pos hu]
 rfl
theorem uF {t:Tok} {r:List Tok} (hs:(t.kind==1 && an t.text==wg)=false) (hn:r=[]→(t.kind==1 && an t.text==lk)=false):bL (t::r)=none:=by
 unfold bL
 by_cases hk:t.kind=1
 · have h1:aq 1 (t::r)=some (t.text,r):=by simp [aq,hk]
   rw [h1]
   simp only [Option.bind_some]
   rw [if_neg (by intro e;rw [e,hk] at hs;simp at hs)]
   by_cases hu:an t.text=lk
   · rw [if_pos hu,if_neg (fun e=>by have:=hn e;rw [hu,hk] at this;simp at this)]
   · rw [if_neg hu]
 · have h1:aq 1 (t::r)=none:=by simp [aq,hk]
   rw [h1]
   rfl
theorem pq {r r':List Tok} {s:Scp} (h:de r=some (s,r')):r'.length < r.length:=by
 unfold de at h
 obtain ⟨⟨x0,r1⟩,h0,h⟩:=Option.bind_eq_some_iff.1 h
 have e0:=dT h0
 cases r1 with
 | nil=>cases h
 | cons t r2=>
   simp only at h
   obtain ⟨q2,h2,h⟩:=Option.bind_eq_some_iff.1 h
   obtain ⟨q3,h3,h⟩:=Option.bind_eq_some_iff.1 h
   obtain ⟨q4,h4,h⟩:=Option.bind_eq_some_iff.1 h
   injection h with h
   injection h with _ h
   have e2:=wW h2
   have e3:=fW h3
   have e4:=dT h4
   simp only [List.length_cons] at e0
   rw [←h]
   omega
theorem iX {r r':List Tok} {x:List (List UInt8)} (h:bc r=some (x,r')):x.length≤r.length∧(∀ y∈x,∃ t∈r,y=t.text)∧ ∀ t∈r',t∈r:=by
 unfold bc at h
 obtain ⟨q,h1,h2⟩:=Option.bind_eq_some_iff.1 h
 obtain ⟨z,h3,h4⟩:=Option.bind_eq_some_iff.1 h2
 injection h4 with h4
 injection h4 with h5 h6
 have hq: ∀ t∈q.2,t∈r:=by
  cases r with
  | nil=>simp [aq] at h1
  | cons a r=>
    simp only [aq] at h1
    split at h1
    · injection h1 with h1;rw [←h1];exact fun t ht=>List.mem_cons_of_mem _ ht
    · cases h1
 have hz: ∀ t∈z.2,t∈q.2.dropWhile fE:=by
  generalize q.2.dropWhile fE=Z at h3
  cases Z with
  | nil=>simp [aq] at h3
  | cons a Z=>
    simp only [aq] at h3
    split at h3
    · injection h3 with h3;rw [←h3];exact fun t ht=>List.mem_cons_of_mem _ ht
    · cases h3
 have e1:=dT h1
 have e2:=(List.takeWhile_sublist (l:=q.2) (p:=fE)).length_le
 refine ⟨by rw [←h5,List.length_map];omega,fun y hy=> ?_,fun t ht=> ?_⟩
 · rw [←h5] at hy
   obtain ⟨t,ht,rfl⟩:=List.mem_map.1 hy
   exact ⟨t,hq t ((List.takeWhile_sublist _).subset ht),rfl⟩
 · rw [←h6] at ht
   exact hq t ((List.dropWhile_sublist _).subset (hz t ht))
theorem pt {r r':List Tok} {s:Scp} (h:de r=some (s,r')):s.names.length≤r.length∧(∀ y∈s.names,∃ t∈r,y=t.text)∧(∀ t∈r',t∈r)∧0≤s.kind∧s.kind≤4∧0≤s.events∧s.events≤15:=by
 unfold de at h
 obtain ⟨⟨x0,r1⟩,h0,h⟩:=Option.bind_eq_some_iff.1 h
 have e0:=dT h0
 have hr1: ∀ t∈r1,t∈r:=by
  cases r with
  | nil=>simp [aq] at h0
  | cons a r=>
    simp only [aq] at h0
    split at h0
    · injection h0 with h0;injection h0 with _ h0;rw [←h0];exact fun t ht=>List.mem_cons_of_mem _ ht
    · cases h0
 cases r1 with
 | nil=>cases h
 | cons t r2=>
   simp only at h
   obtain ⟨q2,h2,h⟩:=Option.bind_eq_some_iff.1 h
   obtain ⟨q3,h3,h⟩:=Option.bind_eq_some_iff.1 h
   obtain ⟨q4,h4,h⟩:=Option.bind_eq_some_iff.1 h
   injection h with h
   injection h with hs h
   have hk:=rA t
   have he:=aal q3.1
   have hn:q2.1.length≤r2.length∧(∀ y∈q2.1,∃ t∈r2,y=t.text)∧ ∀ t∈q2.2,t∈r2:=by
    unfold nmP at h2
    split at h2
    · exact iX h2
    · injection h2 with h2;rw [←h2];exact ⟨by simp,by simp,fun t ht=>ht⟩
   obtain ⟨n1,n2,n3⟩:=hn
   obtain ⟨_,_,m3⟩:=iX h3
   have hz: ∀ t∈q4.2,t∈q3.2:=by
    generalize q3.2=Z at h4
    cases Z with
    | nil=>simp [aq] at h4
    | cons a Z=>
      simp only [aq] at h4
      split at h4
      · injection h4 with h4;rw [←h4];exact fun t ht=>List.mem_cons_of_mem _ ht
      · cases h4
   simp only [List.length_cons] at e0
   rw [←hs,←h]
   exact ⟨by show q2.1.length≤_;omega,fun y hy=>by obtain ⟨u,hu,e⟩:=n2 y hy;exact ⟨u,hr1 u (List.mem_cons_of_mem _ hu),e⟩,fun u hu=>hr1 u (List.mem_cons_of_mem _ (n3 u (m3 u (hz u hu)))),hk.1,hk.2,he.1,he.2⟩
theorem df (t:Tok) (wd:List UInt8) (w:World) (hx:t.text.length≤1048576) (hw:wd.length≤1048576):
 Calls Tryz.prog 179 #[mj t,sv wd] w fun e w'=>e= .returned (.bool (t.kind==1 && an t.text==an wd))∧Below w.heap.size w w':=by
 obtain ⟨kd,x⟩:=t
 simp only at *
 have C1:=aa9 (fun W=>cG ⟨x.toArray⟩ W (by unfold maxLen;show x.toArray.size≤_;simp;omega))
 have C2:=aa9 (fun W=>cG ⟨wd.toArray⟩ W (by unfold maxLen;show wd.toArray.size≤_;simp;omega))
 rw [show (ByteArray.mk x.toArray).data.toList=x from rfl] at C1
 rw [show (ByteArray.mk wd.toArray).data.toList=wd from rfl] at C2
 have hb1:Below w.heap.size w (w.alloc (.cells #[.int .i64 kd,sv x] 80)):=(Below.refl _ _).alloc (Nat.le_refl _) _
 cases h1:(kd==1) with
 | false=>
   clear C1 C2
   go_enter Tryz.func179,Tryz.ntmps179
   go_wp2
   go_ret
   exact ⟨rfl,hb1⟩
 | true=>
   cases h2:(an x==an wd) with
   | true=>
     go_enter Tryz.func179,Tryz.ntmps179
     go_wp2_with fail
     refine (C1.out _).mono ?_
     rintro e w1 ⟨rfl,b1⟩
     have hb2:=hb1.trans (b1.mono hb1.size)
     clear b1 hb1 C1
     go_wp2_with fail
     refine (C2.out _).mono ?_
     rintro e w2 ⟨rfl,b2⟩
     have hb3:=hb2.trans (b2.mono hb2.size)
     clear b2 hb2 C2
     go_wp2
     go_ret
     exact ⟨rfl,hb3⟩
   | false=>
     go_enter Tryz.func179,Tryz.ntmps179
     go_wp2_with fail
     refine (C1.out _).mono ?_
     rintro e w1 ⟨rfl,b1⟩
     have hb2:=hb1.trans (b1.mono hb1.size)
     clear b1 hb1 C1
     go_wp2_with fail
     refine (C2.out _).mono ?_
     rintro e w2 ⟨rfl,b2⟩
     have hb3:=hb2.trans (b2.mono hb2.size)
     clear b2 hb2 C2
     go_wp2
     go_ret
     exact ⟨rfl,hb3⟩
set_option maxRecDepth 20000 in
theorem nK (t:Tok) (w:World) (hx:t.text.length≤1048576):
 Calls Tryz.prog 225 #[mj t] w fun e w'=>e= .returned (.int .i64 (dc t))∧Below w.heap.size w w':=by
 obtain ⟨kd,x⟩:=t
 simp only at *
 have hb1:Below w.heap.size w (w.alloc (.cells #[.int .i64 kd,sv x] 80)):=(Below.refl _ _).alloc (Nat.le_refl _) _
 have hA:(w.alloc (.cells #[.int .i64 kd,sv x] 80)).heap[w.heap.size]? =some (.cells #[.int .i64 kd,sv x] 80 (0,0)):=heap_alloc_new w _
 have HA:=aa9 hA
 have hz1:(w.alloc (.cells #[.int .i64 kd,sv x] 80)).heap.size=w.heap.size+1:=by simp
 have HZ:=aa9 hz1
 have HB1:=aa9 hb1
 have hbb:Below (w.heap.size+1) (w.alloc (.cells #[.int .i64 kd,sv x] 80)) (w.alloc (.cells #[.int .i64 kd,sv x] 80)):=Below.refl _ _
 have C:=aa9 (fun wd W (h:wd.length≤1048576)=>df ⟨kd,x⟩ wd W hx h)
 clear hA hz1
 go_enter Tryz.func225,Tryz.ntmps225
 go_wp2
 go_loopw [3] (fun i wr=> ∃ k:Nat,k≤4∧i= .int .i64 ((k+1:Nat):Int)∧(∀ j,j < k→(kd==1 && an x==an (scW (j+1)))=false)∧Below (w.heap.size+1) (w.alloc (.cells #[.int .i64 kd,sv x] 80)) wr) (fun i _=>(5 - intOf i).toNat)
 case atStart=>exact ⟨0,by omega,rfl,fun j h=>by omega,hbb⟩
 case round=>
  obtain ⟨k,hk,rfl,hno,hbr⟩:=hrel
  have hbw:=hb1.trans (hbr.mono (by omega))
  have hzr:w.heap.size+1≤wr.heap.size:=by have:=hbr.size;rw [HZ.out] at this;exact this
  have hbrd:=hbr.drew
  have d0:wr.drew.cell? ⟨w.heap.size,0,none⟩=some (.int .i64 kd):=(aa8 ((hbrd.block w.heap.size (by omega)).trans HA.out) 0).trans rfl
  have d1:wr.drew.cell? ⟨w.heap.size,1,none⟩=some (sv x):=(aa8 ((hbrd.block w.heap.size (by omega)).trans HA.out) 1).trans rfl
  have HNO:=aa9 hno
  clear hno hbb hb1
  have h5:k=0∨k=1∨k=2∨k=3∨k=4:=by omega
  rcases h5 with rfl | rfl | rfl | rfl | rfl
  · have hm:=wk
    clear hbr
    go_wp2
    refine ah oL20 (fun W=>W.cell? ⟨w.heap.size,0,none⟩=some (.int .i64 kd)∧W.cell? ⟨w.heap.size,1,none⟩=some (sv x)) (by kernel_rfl) (by kernel_rfl) rfl (by kernel_rfl) ?_
    intro ops' hops
    clear hops
    simp only [oL20,List.map_cons,List.map_nil,ae,ag]
    iterate 3 (refine aa ?_ (fun _ _ _ h=>h) rfl ?_ ⟨d0,d1⟩ ?_;rotate_left;focus (intro W hS;obtain ⟨s0,s1⟩:=hS;go_simp;rfl))
    refine al rfl ?_
    go_simp
    refine (qi (.slice none 0 0) 0 _ ⟨_,_,_,rfl⟩).mono ?_
    rintro e w1 ⟨rfl,b1⟩
    have hb2:=hbrd.trans (b1.mono hzr)
    have z1:=b1.cell (p:=⟨w.heap.size,0,none⟩) (by show w.heap.size < wr.heap.size;omega) |>.trans d0
    have z2:=b1.cell (p:=⟨w.heap.size,1,none⟩) (by show w.heap.size < wr.heap.size;omega) |>.trans d1
    have hz2:=Nat.le_trans hzr b1.size
    refine ⟨⟨z1,z2⟩,?_⟩
    clear b1 d0 d1 hbrd
    refine al rfl ?_
    go_simp
    refine (ud _).mono ?_
    rintro e w2 ⟨rfl,b2⟩
    have hb3:=hb2.trans (b2.mono hz2)
    have y1:=b2.cell (p:=⟨w.heap.size,0,none⟩) (by show w.heap.size < w1.heap.size;omega) |>.trans z1
    have y2:=b2.cell (p:=⟨w.heap.size,1,none⟩) (by show w.heap.size < w1.heap.size;omega) |>.trans z2
    have hz3:=Nat.le_trans hz2 b2.size
    refine ⟨⟨y1,y2⟩,?_⟩
    clear b2 z1 z2 hb2 hm
    refine al rfl ?_
    go_simp
    refine (C.out (scW 1) _ (by decide)).mono ?_
    rintro e w3 ⟨rfl,b3⟩
    have hb4:=hb3.trans (b3.mono hz3)
    have x1:=b3.cell (p:=⟨w.heap.size,0,none⟩) (by show w.heap.size < w2.heap.size;omega) |>.trans y1
    have x2:=b3.cell (p:=⟨w.heap.size,1,none⟩) (by show w.heap.size < w2.heap.size;omega) |>.trans y2
    refine ⟨⟨x1,x2⟩,?_⟩
    clear b3 y1 y2 hb3
    refine ai ?_
    go_simp
    have hb5:=(HB1.out).trans (hb4.mono (Nat.le_succ _))
    cases hit:(kd==1 && an x==an (scW 1)) with
    | true=>
      have HV:=aa9 (show dc ⟨kd,x⟩=1 by
       rw [Bool.and_eq_true,beq_iff_eq,beq_iff_eq] at hit
       unfold dc
       rw [if_pos hit.1]
       exact gC (j:=0) (by omega) hit.2.symm)
      clear x1 x2
      go_wp2
      go_ret
      exact ⟨by rw [HV.out];rfl,hb5⟩
    | false=>
      have HNX:=aa9 (show ∀ j,j < 1→(kd==1 && an x==an (scW (j+1)))=false from fun j hj=>by
       by_cases e:j=0
       · subst e;exact hit
       · exact HNO.out j (by omega))
      clear x1 x2 hit HNO
      go_wp2
      go_roundw
      case rel=>exact ⟨1,by omega,rfl,HNX.out,hb4⟩
      case measure=>simp [intOf]
  · have hm:=wl
    clear hbr
    go_wp2
    refine ah oL20 (fun W=>W.cell? ⟨w.heap.size,0,none⟩=some (.int .i64 kd)∧W.cell? ⟨w.heap.size,1,none⟩=some (sv x)) (by kernel_rfl) (by kernel_rfl) rfl (by kernel_rfl) ?_
    intro ops' hops
    clear hops
    simp only [oL20,List.map_cons,List.map_nil,ae,ag]
    iterate 3 (refine aa ?_ (fun _ _ _ h=>h) rfl ?_ ⟨d0,d1⟩ ?_;rotate_left;focus (intro W hS;obtain ⟨s0,s1⟩:=hS;go_simp;rfl))
    refine al rfl ?_
    go_simp
    refine (qj (.slice none 0 0) 0 _ ⟨_,_,_,rfl⟩).mono ?_
    rintro e w1 ⟨rfl,b1⟩
    have hb2:=hbrd.trans (b1.mono hzr)
    have z1:=b1.cell (p:=⟨w.heap.size,0,none⟩) (by show w.heap.size < wr.heap.size;omega) |>.trans d0
    have z2:=b1.cell (p:=⟨w.heap.size,1,none⟩) (by show w.heap.size < wr.heap.size;omega) |>.trans d1
    have hz2:=Nat.le_trans hzr b1.size
    refine ⟨⟨z1,z2⟩,?_⟩
    clear b1 d0 d1 hbrd
    refine al rfl ?_
    go_simp
    refine (ue _).mono ?_
    rintro e w2 ⟨rfl,b2⟩
    have hb3:=hb2.trans (b2.mono hz2)
    have y1:=b2.cell (p:=⟨w.heap.size,0,none⟩) (by show w.heap.size < w1.heap.size;omega) |>.trans z1
    have y2:=b2.cell (p:=⟨w.heap.size,1,none⟩) (by show w.heap.size < w1.heap.size;omega) |>.trans z2
    have hz3:=Nat.le_trans hz2 b2.size
    refine ⟨⟨y1,y2⟩,?_⟩
    clear b2 z1 z2 hb2 hm
    refine al rfl ?_
    go_simp
    refine (C.out (scW 2) _ (by decide)).mono ?_
    rintro e w3 ⟨rfl,b3⟩
    have hb4:=hb3.trans (b3.mono hz3)
    have x1:=b3.cell (p:=⟨w.heap.size,0,none⟩) (by show w.heap.size < w2.heap.size;omega) |>.trans y1
    have x2:=b3.cell (p:=⟨w.heap.size,1,none⟩) (by show w.heap.size < w2.heap.size;omega) |>.trans y2
    refine ⟨⟨x1,x2⟩,?_⟩
    clear b3 y1 y2 hb3
    refine ai ?_
    go_simp
    have hb5:=(HB1.out).trans (hb4.mono (Nat.le_succ _))
    cases hit:(kd==1 && an x==an (scW 2)) with
    | true=>
      have HV:=aa9 (show dc ⟨kd,x⟩=2 by
       rw [Bool.and_eq_true,beq_iff_eq,beq_iff_eq] at hit
       unfold dc
       rw [if_pos hit.1]
       exact gC (j:=1) (by omega) hit.2.symm)
      clear x1 x2
      go_wp2
      go_ret
      exact ⟨by rw [HV.out];rfl,hb5⟩
    | false=>
      have HNX:=aa9 (show ∀ j,j < 2→(kd==1 && an x==an (scW (j+1)))=false from fun j hj=>by
       by_cases e:j=1
       · subst e;exact hit
       · exact HNO.out j (by omega))
      clear x1 x2 hit HNO
      go_wp2
      go_roundw
      case rel=>exact ⟨2,by omega,rfl,HNX.out,hb4⟩
      case measure=>simp [intOf]
  · have hm:=wm
    clear hbr
    go_wp2
    refine ah oL20 (fun W=>W.cell? ⟨w.heap.size,0,none⟩=some (.int .i64 kd)∧W.cell? ⟨w.heap.size,1,none⟩=some (sv x)) (by kernel_rfl) (by kernel_rfl) rfl (by kernel_rfl) ?_
    intro ops' hops
    clear hops
    simp only [oL20,List.map_cons,List.map_nil,ae,ag]
    iterate 3 (refine aa ?_ (fun _ _ _ h=>h) rfl ?_ ⟨d0,d1⟩ ?_;rotate_left;focus (intro W hS;obtain ⟨s0,s1⟩:=hS;go_simp;rfl))
    refine al rfl ?_
    go_simp
    refine (qk (.slice none 0 0) 0 _ ⟨_,_,_,rfl⟩).mono ?_
    rintro e w1 ⟨rfl,b1⟩
    have hb2:=hbrd.trans (b1.mono hzr)
    have z1:=b1.cell (p:=⟨w.heap.size,0,none⟩) (by show w.heap.size < wr.heap.size;omega) |>.trans d0
    have z2:=b1.cell (p:=⟨w.heap.size,1,none⟩) (by show w.heap.size < wr.heap.size;omega) |>.trans d1
    have hz2:=Nat.le_trans hzr b1.size
    refine ⟨⟨z1,z2⟩,?_⟩
    clear b1 d0 d1 hbrd
    refine al rfl ?_
    go_simp
    refine (uf none 0 0 _).mono ?_
    rintro e w2 ⟨rfl,b2⟩
    have hb3:=hb2.trans (b2.mono hz2)
    have y1:=b2.cell (p:=⟨w.heap.size,0,none⟩) (by show w.heap.size < w1.heap.size;omega) |>.trans z1
    have y2:=b2.cell (p:=⟨w.heap.size,1,none⟩) (by show w.heap.size < w1.heap.size;omega) |>.trans z2
    have hz3:=Nat.le_trans hz2 b2.size
    refine ⟨⟨y1,y2⟩,?_⟩
    clear b2 z1 z2 hb2 hm
    refine al rfl ?_
    go_simp
    refine (C.out (scW 3) _ (by decide)).mono ?_
    rintro e w3 ⟨rfl,b3⟩
    have hb4:=hb3.trans (b3.mono hz3)
    have x1:=b3.cell (p:=⟨w.heap.size,0,none⟩) (by show w.heap.size < w2.heap.size;omega) |>.trans y1
    have x2:=b3.cell (p:=⟨w.heap.size,1,none⟩) (by show w.heap.size < w2.heap.size;omega) |>.trans y2
    refine ⟨⟨x1,x2⟩,?_⟩
    clear b3 y1 y2 hb3
    refine ai ?_
    go_simp
    have hb5:=(HB1.out).trans (hb4.mono (Nat.le_succ _))
    cases hit:(kd==1 && an x==an (scW 3)) with
    | true=>
      have HV:=aa9 (show dc ⟨kd,x⟩=3 by
       rw [Bool.and_eq_true,beq_iff_eq,beq_iff_eq] at hit
       unfold dc
       rw [if_pos hit.1]
       exact gC (j:=2) (by omega) hit.2.symm)
      clear x1 x2
      go_wp2
      go_ret
      exact ⟨by rw [HV.out];rfl,hb5⟩
    | false=>
      have HNX:=aa9 (show ∀ j,j < 3→(kd==1 && an x==an (scW (j+1)))=false from fun j hj=>by
       by_cases e:j=2
       · subst e;exact hit
       · exact HNO.out j (by omega))
      clear x1 x2 hit HNO
      go_wp2
      go_roundw
      case rel=>exact ⟨3,by omega,rfl,HNX.out,hb4⟩
      case measure=>simp [intOf]
  · have hm:=wn
    clear hbr
    go_wp2
    refine ah oL20 (fun W=>W.cell? ⟨w.heap.size,0,none⟩=some (.int .i64 kd)∧W.cell? ⟨w.heap.size,1,none⟩=some (sv x)) (by kernel_rfl) (by kernel_rfl) rfl (by kernel_rfl) ?_
    intro ops' hops
    clear hops
    simp only [oL20,List.map_cons,List.map_nil,ae,ag]
    iterate 3 (refine aa ?_ (fun _ _ _ h=>h) rfl ?_ ⟨d0,d1⟩ ?_;rotate_left;focus (intro W hS;obtain ⟨s0,s1⟩:=hS;go_simp;rfl))
    refine al rfl ?_
    go_simp
    refine (ql (.slice none 0 0) 0 _ ⟨_,_,_,rfl⟩).mono ?_
    rintro e w1 ⟨rfl,b1⟩
    have hb2:=hbrd.trans (b1.mono hzr)
    have z1:=b1.cell (p:=⟨w.heap.size,0,none⟩) (by show w.heap.size < wr.heap.size;omega) |>.trans d0
    have z2:=b1.cell (p:=⟨w.heap.size,1,none⟩) (by show w.heap.size < wr.heap.size;omega) |>.trans d1
    have hz2:=Nat.le_trans hzr b1.size
    refine ⟨⟨z1,z2⟩,?_⟩
    clear b1 d0 d1 hbrd
    refine al rfl ?_
    go_simp
    refine (ug none 0 0 _).mono ?_
    rintro e w2 ⟨rfl,b2⟩
    have hb3:=hb2.trans (b2.mono hz2)
    have y1:=b2.cell (p:=⟨w.heap.size,0,none⟩) (by show w.heap.size < w1.heap.size;omega) |>.trans z1
    have y2:=b2.cell (p:=⟨w.heap.size,1,none⟩) (by show w.heap.size < w1.heap.size;omega) |>.trans z2
    have hz3:=Nat.le_trans hz2 b2.size
    refine ⟨⟨y1,y2⟩,?_⟩
    clear b2 z1 z2 hb2 hm
    refine al rfl ?_
    go_simp
    refine (C.out (scW 4) _ (by decide)).mono ?_
    rintro e w3 ⟨rfl,b3⟩
    have hb4:=hb3.trans (b3.mono hz3)
    have x1:=b3.cell (p:=⟨w.heap.size,0,none⟩) (by show w.heap.size < w2.heap.size;omega) |>.trans y1
    have x2:=b3.cell (p:=⟨w.heap.size,1,none⟩) (by show w.heap.size < w2.heap.size;omega) |>.trans y2
    refine ⟨⟨x1,x2⟩,?_⟩
    clear b3 y1 y2 hb3
    refine ai ?_
    go_simp
    have hb5:=(HB1.out).trans (hb4.mono (Nat.le_succ _))
    cases hit:(kd==1 && an x==an (scW 4)) with
    | true=>
      have HV:=aa9 (show dc ⟨kd,x⟩=4 by
       rw [Bool.and_eq_true,beq_iff_eq,beq_iff_eq] at hit
       unfold dc
       rw [if_pos hit.1]
       exact gC (j:=3) (by omega) hit.2.symm)
      clear x1 x2
      go_wp2
      go_ret
      exact ⟨by rw [HV.out];rfl,hb5⟩
    | false=>
      have HNX:=aa9 (show ∀ j,j < 4→(kd==1 && an x==an (scW (j+1)))=false from fun j hj=>by
       by_cases e:j=3
       · subst e;exact hit
       · exact HNO.out j (by omega))
      clear x1 x2 hit HNO
      go_wp2
      go_roundw
      case rel=>exact ⟨4,by omega,rfl,HNX.out,hb4⟩
      case measure=>simp [intOf]
  · have HV:=aa9 (show dc ⟨kd,x⟩=0 by
     unfold dc
     by_cases hk1:kd=1
     · rw [if_pos hk1]
       refine lz 4 fun j hj e=> ?_
       have:=HNO.out j hj
       subst hk1
       simp only [BEq.rfl,Bool.true_and,beq_eq_false_iff_ne] at this
       exact this e.symm
     · rw [if_neg hk1])
    clear d0 d1
    go_wp2
    go_ret
    exact ⟨by rw [HV.out];rfl,hbw⟩
def dw (U:Option (List (List UInt8)×List Tok)) (w0 w:World) (e:Ending) (w':World):Prop:=match U with
 | some (ws,r)=> ∃ vn vr,e= .returned (.tuple #[vn,vr,.bool true])∧w'.ownsRow w.heap.size 9 1 vn ws.length (ws.map sv)∧Rd 2 dh w0 vr r∧c7 vr∧Below w.heap.size w w'
 | none=>e= .returned (.tuple #[.slice none 0 0,.slice none 0 0,.bool false])∧Below w.heap.size w w'
theorem dw.some_ {ws:List (List UInt8)} {r:List Tok} {w0 w w':World} {e:Ending} (h: ∃ vn vr,e= .returned (.tuple #[vn,vr,.bool true])∧w'.ownsRow w.heap.size 9 1 vn ws.length (ws.map sv)∧Rd 2 dh w0 vr r∧c7 vr∧Below w.heap.size w w'):dw (some (ws,r)) w0 w e w':=h
theorem dw.none_ {w0 w w':World} {e:Ending} (h:e= .returned (.tuple #[.slice none 0 0,.slice none 0 0,.bool false])∧Below w.heap.size w w'):dw none w0 w e w':=h
theorem hD {α:Type} {m:Nat} {enc:α→List Value} {w:World} {p:Option Addr} {c k:Nat} {l:List α} (h:Rd m enc w (.slice p l.length c) l) (hc:l.length≤c) (hk:k≤l.length):
 Rd m enc w (.slice (if c=k then p else Option.map (fun x=>x.add (k * m)) p) (l.length - k) (c - k)) (l.drop k)∧c7 (.slice (if c=k then p else Option.map (fun x=>x.add (k * m)) p) (l.length - k) (c - k)):=by
 refine ⟨?_,fun p' n' c' hv=>by injection hv with _ h1 h2;omega⟩
 by_cases e:c=k
 · have hd:l.drop k=[]:=List.drop_of_length_le (by omega)
   rw [hd,if_pos e]
   exact ⟨p,c - k,by rw [List.length_nil,show l.length - k=0 by omega],.inl rfl⟩
 · rw [if_neg e]
   obtain ⟨q,d,hv,hq⟩:=h.ex
   injection hv with hp _ _
   subst hp
   rcases hq with h0 | ⟨b,off,rfl,hlt,hcell⟩
   · subst h0
     exact ⟨Option.map (fun x=>x.add (k * m)) p,c - k,by simp,.inl (by simp)⟩
   · have:=Rd.dropS (k:=k) ⟨_,c,rfl,.inr ⟨b,off,rfl,hlt,hcell⟩⟩ (c - k)
     simpa [Addr.add_lit] using this
def AtB (l:List Tok) (k:Nat) (ws:List (List UInt8)):Prop:=k≤l.length∧ws=(l.take k).map (·.text)∧(∀ t∈l.take k,t.kind=1)
theorem AtB.start (l:List Tok):AtB l 0 []:=⟨Nat.zero_le _,rfl,fun t ht=>by simp at ht⟩
theorem AtB.step {l:List Tok} {k:Nat} {ws:List (List UInt8)} {t:Tok} (h:AtB l k ws) (ht:l[k]? =some t) (hk:t.kind=1):AtB l (k+1) (ws++[t.text]):=by
 obtain ⟨h1,h2,h3⟩:=h
 obtain ⟨h4,h5⟩:=List.getElem?_eq_some_iff.1 ht
 refine ⟨h4,?_,?_⟩
 · rw [List.take_succ_eq_append_getElem h4,h5,List.map_append,h2];rfl
 · intro u hu
   rw [List.take_succ_eq_append_getElem h4,h5] at hu
   rcases List.mem_append.1 hu with hu | hu
   · exact h3 u hu
   · rw [List.mem_singleton.1 hu];exact hk
theorem uG {l:List Tok} {k:Nat} (h: ∀ t∈l.take k,t.kind=1) (hn: ∀ t,l[k]? =some t→ ¬t.kind=1):l.takeWhile fE=l.take k∧l.dropWhile fE=l.drop k:=by
 induction l generalizing k with
 | nil=>simp
 | cons a l ih=>
   cases k with
   | zero=>
     have ha:fE a=false:=by unfold fE;rw [beq_eq_false_iff_ne];exact hn a rfl
     simp [ha]
   | succ k=>
     have ha:fE a=true:=by unfold fE;rw [beq_iff_eq];exact h a (by simp)
     obtain ⟨e1,e2⟩:=ih (k:=k) (fun t ht=>h t (by simp [ht])) (fun t ht=>hn t (by simpa using ht))
     simp [ha,e1,e2]
theorem so {a:Tok} {l:List Tok} {k:Nat} {ws:List (List UInt8)} {t:Tok} (ha:a.kind=3∧a.text=[]) (h:AtB l k ws) (ht:l[k]? =some t) (hk:t.kind=4∧t.text=[]):bc (a::l)=some (ws,l.drop (k+1)):=by
 obtain ⟨h1,h2,h3⟩:=h
 obtain ⟨e1,e2⟩:=uG h3 (fun u hu=>by rw [ht] at hu;injection hu with hu;rw [←hu,hk.1];decide)
 obtain ⟨h4,h5⟩:=List.getElem?_eq_some_iff.1 ht
 unfold bc
 have e0:aq 3 (a::l)=some (a.text,l):=by simp [aq,ha.1,ha.2]
 rw [e0]
 simp only [Option.bind_some]
 rw [e1,e2,List.drop_eq_getElem_cons h4,h5]
 have e3:aq 4 (t::l.drop (k+1))=some (t.text,l.drop (k+1)):=by simp [aq,hk.1,hk.2]
 rw [e3,h2]
 rfl
theorem gD {a:Tok} {l:List Tok} {k:Nat} {ws:List (List UInt8)} (h:AtB l k ws) (ht: ∀ t,l[k]? =some t→ ¬t.kind=1∧ ¬(t.kind=4∧t.text=[])):bc (a::l)=none:=by
 obtain ⟨h1,h2,h3⟩:=h
 obtain ⟨e1,e2⟩:=uG h3 (fun u hu=>(ht u hu).1)
 unfold bc
 cases h0:aq 3 (a::l) with
 | none=>rfl
 | some q=>
   have hq:q.2=l:=by
    simp only [aq] at h0
    split at h0
    · injection h0 with h0;rw [←h0]
    · cases h0
   simp only [Option.bind_some]
   rw [hq,e2]
   by_cases hlt:k < l.length
   · rw [List.drop_eq_getElem_cons hlt]
     have:=(ht _ (List.getElem?_eq_getElem hlt)).2
     have e3:aq 4 (l[k]::l.drop (k+1))=none:=by simp only [aq];rw [if_neg (by intro e;exact this ⟨e.1,by simpa using e.2⟩)]
     rw [e3];rfl
   · rw [List.drop_of_length_le (by omega)];rfl
theorem lA {l:List Tok} (h: ∀ t,l[0]? =some t→ ¬(t.kind=3∧t.text=[])):bc l=none:=by
 unfold bc
 cases l with
 | nil=>rfl
 | cons a l=>
   have:=h a rfl
   have e3:aq 3 (a::l)=none:=by simp only [aq];rw [if_neg (by intro e;exact this ⟨e.1,by simpa using e.2⟩)]
   rw [e3];rfl
set_option maxRecDepth 20000 in
theorem lB (v:Value) (ws:List (List UInt8)) (w:World) (hr:Rd1 sv w v ws) (hl:ws.length≤1048576) (hx: ∀ x∈ws,x.length≤1048576) (hF:Ew w):
 Calls Tryz.prog 226 #[v] w fun e w'=>e= .returned (.int .i64 (eN ws))∧Below w.heap.size w w':=by
 obtain ⟨p,c,rfl,hp⟩:=hr.ex
 have HP:=aa9 hp
 have HX:=aa9 hx
 obtain ⟨q0,q1,q2,q3⟩:=hF.cells
 clear hF hr hp hx
 go_enter Tryz.func226,Tryz.ntmps226
 go_wp2
 clear q0 q1 q2 q3
 go_loopw [3,4,5,6,8] (fun bv av u5 u6 i wr=> ∃ (k a:Nat) (b:Int),k≤4∧bv= .int .i64 b∧av= .int .i64 a∧i= .int .i64 k∧EvI ws k b a∧Below w.heap.size w wr) (fun _ _ _ _ i _=>4 - (intOf i).toNat)
 case atStart=>exact ⟨0,0,0,by omega,rfl,rfl,rfl,EvI.start ws,Below.refl _ _⟩
 case round=>
  obtain ⟨k,a,b,hk,rfl,rfl,rfl,hev,hbr⟩:=hrel
  have hbr0:=hbr.size
  have HE:=aa9 hev
  have hal:=hev.1
  clear hev
  by_cases hlt:k < 4
  · obtain ⟨i0,i1,i2,i3⟩:=yW
    have CE:=aa9 (fun W=>cG ⟨(evW k).toArray⟩ W (by have:=tX k;unfold maxLen;show (evW k).toArray.size≤_;simp;omega))
    rw [show (ByteArray.mk (evW k).toArray).data.toList=evW k from rfl] at CE
    have h5:k=0∨k=1∨k=2∨k=3:=by omega
    obtain ⟨k1,hk1⟩: ∃ k1,k1=k+1:=⟨_,rfl⟩
    have HK:=aa9 hk1
    by_cases hlt2:a < ws.length
    · obtain ⟨bb,off,rfl,hbb,hcell⟩:=HP.out.resolve_left (by intro h;subst h;simp at hlt2)
      obtain ⟨x,hx⟩: ∃ x,ws[a]? =some x:=⟨_,List.getElem?_eq_getElem hlt2⟩
      have hlt2i:(a:Int) < (ws.length:Int):=by omega
      have e1:wr.cell? ⟨bb,off+a,none⟩=some (sv x):=(hbr.cell (p:=⟨bb,off+a,none⟩) hbb).trans (hcell a x hx)
      have CX:=aa9 (fun W=>cG ⟨x.toArray⟩ W (by have:=HX.out x (List.mem_of_getElem? hx);unfold maxLen;show x.toArray.size≤_;simp;omega))
      rw [show (ByteArray.mk x.toArray).data.toList=x from rfl] at CX
      have HXA:=aa9 hx
      clear hcell hx
      cases hu:(an x==an (evW k)) with
      | true=>
        have HN:=aa9 (hk1 ▸ HE.out.yes hlt HXA.out (beq_iff_eq.1 hu))
        clear HE hk1
        rcases h5 with rfl | rfl | rfl | rfl
        all_goals
         go_wp2_with fail
         refine (CX.out _).mono ?_
         rintro e w1 ⟨rfl,b1⟩
         go_wp2_with fail
         refine (CE.out _).mono ?_
         rintro e w2 ⟨rfl,b2⟩
         have hb2:=hbr.trans ((b1.trans (b2.mono b1.size)).mono hbr0)
         clear b1 b2 hbr CX CE e1
         go_wp2
         go_roundw
         case rel=>exact ⟨k1,a+1,_,by have:=HK.out;omega,rfl,by go_num,by rw [HK.out];rfl,HN.out,hb2⟩
         case measure=>simp [intOf]
      | false=>
        have HN:=aa9 (hk1 ▸ HE.out.no (fun y hy=>by rw [HXA.out] at hy;injection hy with hy;rw [←hy];exact beq_eq_false_iff_ne.1 hu))
        clear HE hk1
        rcases h5 with rfl | rfl | rfl | rfl
        all_goals
         go_wp2_with fail
         refine (CX.out _).mono ?_
         rintro e w1 ⟨rfl,b1⟩
         go_wp2_with fail
         refine (CE.out _).mono ?_
         rintro e w2 ⟨rfl,b2⟩
         have hb2:=hbr.trans ((b1.trans (b2.mono b1.size)).mono hbr0)
         clear b1 b2 hbr CX CE e1
         go_wp2
         go_roundw
         case rel=>exact ⟨k1,a,b,by have:=HK.out;omega,rfl,rfl,by rw [HK.out];rfl,HN.out,hb2⟩
         case measure=>simp [intOf]
    · have hlt2i: ¬(a:Int) < (ws.length:Int):=by omega
      have HN:=aa9 (hk1 ▸ HE.out.no (fun y hy=>by rw [List.getElem?_eq_none (by omega)] at hy;cases hy))
      clear HE hk1 CE
      rcases h5 with rfl | rfl | rfl | rfl
      all_goals
       go_wp2
       go_roundw
       case rel=>exact ⟨k1,a,b,by have:=HK.out;omega,rfl,rfl,by rw [HK.out];rfl,HN.out,hbr⟩
       case measure=>simp [intOf]
  · obtain rfl:k=4:=by omega
    by_cases hlt2:a < ws.length
    · have hlt2i:(a:Int) < (ws.length:Int):=by omega
      have HV:=aa9 (HE.out.done_no hlt2)
      go_wp2
      go_ret
      exact ⟨by rw [HV.out];rfl,hbr⟩
    · have hlt2i: ¬(a:Int) < (ws.length:Int):=by omega
      have HV:=aa9 (HE.out.done_yes hlt2)
      go_wp2
      go_ret
      exact ⟨by rw [HV.out];rfl,hbr⟩
set_option maxRecDepth 20000 in
theorem dV (v:Value) (l:List Tok) (w0 w:World) (hr:Rd 2 dh w0 v l) (hw:Below w0.heap.size w0 w) (hcp:c7 v) (hl:l.length≤1048576):
 Calls Tryz.prog 181 #[v] w (dw (bc l) w0 w):=by
 have hr0:=hr
 replace hr:=hr.below hw
 clear hw
 obtain ⟨p,c,rfl,hp⟩:=hr.ex
 have hc:l.length≤c:=hcp _ _ _ rfl
 have HR:=aa9 hr0
 clear hr hr0 hcp
 cases l with
 | nil=>
   have HV:=aa9 (lA (l:=[]) (fun t h=>by simp at h))
   rw [HV.out]
   go_enter Tryz.func181,Tryz.ntmps181
   go_wp2
   exact bodyPost_ret (v:= .tuple #[.slice none 0 0,.slice none 0 0,.bool false]) (by simp [results,Tryz.results181,go_sem]) rfl (dw.none_ ⟨rfl,Below.refl _ _⟩)
 | cons a r=>
   obtain ⟨b,off,rfl,hb,hcell⟩:=hp.resolve_left (by simp)
   have a0:w.cell? ⟨b,off,none⟩=some (.int .i64 a.kind):=hcell 0 a rfl 0 _ rfl
   have a1:w.cell? ⟨b,off+1,none⟩=some (sv a.text):=hcell 0 a rfl 1 _ rfl
   have HC:=aa9 (show ∀ k t,r[k]? =some t→w.cell? ⟨b,off+2+k * 2,none⟩=some (.int .i64 t.kind)∧w.cell? ⟨b,off+2+k * 2+1,none⟩=some (sv t.text) from fun k t ht=>by
    have h1:=hcell (k+1) t (by simpa using ht) 0 _ rfl
    have h2:=hcell (k+1) t (by simpa using ht) 1 _ rfl
    rw [show off+(k+1) * 2+0=off+2+k * 2 by omega] at h1
    rw [show off+(k+1) * 2+1=off+2+k * 2+1 by omega] at h2
    exact ⟨h1,h2⟩)
   have hlen:(a::r).length=r.length+1:=rfl
   generalize hn:(a::r).length=n at *
   have hne:((n:Int)==0)=false:=cFalse (by omega)
   have HN:=aa9 hlen
   clear hcell hp hlen
   by_cases hop:a.kind=3∧a.text=[]
   · have HOP:=aa9 hop
     rw [hop.1] at a0
     rw [hop.2] at a1
     clear hop
     have hcc:c=1∨ ¬c=1:=Classical.em _
     rcases hcc with hc1 | hc1
     · have hr0:r=[]:=List.eq_nil_of_length_eq_zero (by have:=HN.out;omega)
       subst hr0
       have HV:=aa9 (gD (a:=a) (AtB.start []) (fun t h=>by simp at h))
       rw [HV.out]
       obtain rfl:n=1:=HN.out
       subst hc1
       go_enter Tryz.func181,Tryz.ntmps181
       go_wp2
       refine wp_loop_rounds 1 ?_
       rw [rounds_succ]
       go_wp2
       exact bodyPost_ret (v:= .tuple #[.slice none 0 0,.slice none 0 0,.bool false]) (by simp [results,Tryz.results181,go_sem]) rfl (dw.none_ ⟨rfl,Below.refl _ _⟩)
     · obtain rfl:n=r.length+1:=HN.out
       go_enter Tryz.func181,Tryz.ntmps181
       go_wp2
       clear a0 a1 hne
       go_loopw [5,6,7,21] (fun u5 u6 u7 i wr=> ∃ (k n:Nat) (ws:List (List UInt8)),k≤r.length∧n=ws.length∧n≤k∧i= .int .i64 k∧AtB r k ws∧wr.ownsRow w.heap.size 9 1 u5 n (ws.map sv)∧Below w.heap.size w wr) (fun _ _ _ i _=>r.length - (intOf i).toNat)
       case atStart=>exact ⟨0,0,[],by omega,rfl,by omega,rfl,AtB.start r,World.ownsRow_nil _ _ _ _,Below.refl _ _⟩
       case round=>
        obtain ⟨k,n,ws,hk,hn,hnk,rfl,hat,hown,hbr⟩:=hrel
        have HAT:=aa9 hat
        have HNW:=aa9 hn
        have hz:=hbr.size
        clear hat hn
        by_cases hlt:k < r.length
        · obtain ⟨t,ht⟩: ∃ t,r[k]? =some t:=⟨_,List.getElem?_eq_getElem hlt⟩
          obtain ⟨h0,h1⟩:=HC.out k t ht
          have e0:wr.cell? ⟨b,off+2+k * 2,none⟩=some (.int .i64 t.kind):=(hbr.cell (p:=⟨b,off+2+k * 2,none⟩) hb).trans h0
          have e1:wr.cell? ⟨b,off+2+k * 2+1,none⟩=some (sv t.text):=(hbr.cell (p:=⟨b,off+2+k * 2+1,none⟩) hb).trans h1
          have HTK:=aa9 ht
          clear h0 h1 ht
          by_cases hcl:t.kind=4∧t.text=[]
          · have HV:=aa9 (so HOP.out HAT.out HTK.out hcl)
            rw [HV.out]
            rw [hcl.1] at e0
            rw [hcl.2] at e1
            have HD:=aa9 (show Rd 2 dh w0 (.slice (if c=k+2 then some (⟨b,off,none⟩:Addr) else Option.map (fun x:Addr=>x.add ((k+2) * 2)) (some (⟨b,off,none⟩:Addr))) (r.length+1 - (k+2)) (c - (k+2))) (r.drop (k+1))∧c7 (.slice (if c=k+2 then some (⟨b,off,none⟩:Addr) else Option.map (fun x:Addr=>x.add ((k+2) * 2)) (some (⟨b,off,none⟩:Addr))) (r.length+1 - (k+2)) (c - (k+2))) from hD (l:=a::r) (k:=k+2) (show Rd 2 dh w0 (.slice (some ⟨b,off,none⟩) (a::r).length c) (a::r) from HR.out) hc (by show k+2≤r.length+1;omega))
            clear hcl
            have hwr:IntKind.i64.wrap ((k:Int)+2)=(k:Int)+2:=IntWalk.i64_in _ (by omega)
            have hw0:0≤(k:Int)+2:=by omega
            have hwt:((k:Int)+2).toNat=k+2:=by omega
            have ho2:=(hown.alloc (.cells #[.int .i64 4,sv []] 80)).drew
            have hb2:=(hbr.alloc hz (.cells #[.int .i64 4,sv []] 80)).drew
            go_wp2
            refine ah oL21 (fun _=>True) (by kernel_rfl) (by kernel_rfl) rfl (by kernel_rfl) ?_
            intro ops' hops
            clear hops
            simp only [oL21,List.map_cons,List.map_nil,ae,ag]
            iterate 4 (refine aa ?_ (fun _ _ _ h=>h) rfl ?_ trivial ?_;rotate_left;focus (intro _ _;go_simp;rfl))
            refine aa (.slice (if c=k+2 then some (⟨b,off,none⟩:Addr) else Option.map (fun x:Addr=>x.add ((k+2) * 2)) (some (⟨b,off,none⟩:Addr))) (r.length+1 - (k+2)) (c - (k+2))) (fun _ _ _ h=>h) rfl ?_ trivial ?_
            · intro W hS
              go_simp
              try (intro h;omega)
            generalize (Value.slice (if c=k+2 then some (⟨b,off,none⟩:Addr) else Option.map (fun x:Addr=>x.add ((k+2) * 2)) (some (⟨b,off,none⟩:Addr))) (r.length+1 - (k+2)) (c - (k+2)))=vr at *
            iterate 3 (refine aa ?_ (fun _ _ _ h=>h) rfl ?_ trivial ?_;rotate_left;focus (intro _ _;go_simp;rfl))
            refine ai ?_
            go_simp
            go_wp2
            exact bodyPost_ret (v:= .tuple #[u5,vr,.bool true]) (by simp [results,Tryz.results181,go_sem]) rfl (dw.some_ ⟨_,_,rfl,by rw [←HNW.out];exact ho2,HD.out.1,HD.out.2,hb2⟩)
          · cases g4:(t.kind==4) with
            | true=>
              have g5:(t.text==([]:List UInt8))=false:=by rw [beq_eq_false_iff_ne];exact fun h=>hcl ⟨beq_iff_eq.1 g4,h⟩
              have hk4:t.kind=4:=beq_iff_eq.1 g4
              have HV:=aa9 (gD (a:=a) HAT.out (fun u hu=>by rw [HTK.out] at hu;injection hu with hu;rw [←hu];exact ⟨by omega,hcl⟩))
              rw [HV.out]
              have hb2:=hbr.alloc hz (.cells #[.int .i64 4,sv t.text] 80)
              rw [hk4] at e0
              clear hcl g4 hk4 hown
              go_wp2
              exact bodyPost_ret (v:= .tuple #[.slice none 0 0,.slice none 0 0,.bool false]) (by simp [results,Tryz.results181,go_sem]) rfl (dw.none_ ⟨rfl,hb2⟩)
            | false=>
              cases g1:(t.kind==1) with
              | false=>
                have g1n:=dm g1
                have HV:=aa9 (gD (a:=a) HAT.out (fun u hu=>by rw [HTK.out] at hu;injection hu with hu;rw [←hu];exact ⟨beq_eq_false_iff_ne.1 g1,hcl⟩))
                rw [HV.out]
                have hb2:=hbr.alloc hz (.cells #[.int .i64 t.kind,sv t.text] 80)
                clear hcl hown
                go_wp2
                exact bodyPost_ret (v:= .tuple #[.slice none 0 0,.slice none 0 0,.bool false]) (by simp [results,Tryz.results181,go_sem]) rfl (dw.none_ ⟨rfl,hb2⟩)
              | true=>
                have hk1:t.kind=1:=beq_iff_eq.1 g1
                have HAN:=aa9 (HAT.out.step HTK.out hk1)
                rw [hk1] at e0
                have ho2:=hown.alloc (.cells #[.int .i64 1,sv t.text] 80)
                have hb2:=hbr.alloc hz (.cells #[.int .i64 1,sv t.text] 80)
                have hz2:=hb2.size
                have HSZ:=aa9 (show (wr.alloc (.cells #[.int .i64 1,sv t.text] 80)).heap.size=wr.heap.size+1 by simp)
                have HO2:=aa9 ho2
                have HB2:=aa9 hb2
                clear hcl g4 g1 hk1 hown ho2 hb2 hbr
                go_wp2_with (at_builtin;refine aE Tryz.el_string rfl (.tmp 37) (.tmp 40) rfl w _ u5 n _ rfl HO2.out HB2.out hz2 #[sv t.text] (.inr rfl) 1 1 (by rw [HSZ.out];rfl) rfl (by simp [Value.oneCell']) (by omega) (by omega) (by omega) ?_)
                intro g cap w3 o3 hb3 _ _ _
                clear HO2 HB2 e0 e1
                go_wp2
                go_roundw
                case rel=>exact ⟨k+1,n+1,ws++[t.text],by omega,by rw [HNW.out];simp,by omega,by go_num,HAN.out,by rw [List.map_append];exact o3,hb3⟩
                case measure=>simp [intOf];omega
        · obtain rfl:k=r.length:=by omega
          have HV:=aa9 (gD (a:=a) HAT.out (fun u hu=>by rw [List.getElem?_eq_none (Nat.le_refl _)] at hu;cases hu))
          clear hown
          go_wp2
          exact bodyPost_ret (v:= .tuple #[.slice none 0 0,.slice none 0 0,.bool false]) (by simp [results,Tryz.results181,go_sem]) rfl (by rw [HV.out];exact dw.none_ ⟨rfl,hbr⟩)
   · have HV:=aa9 (lA (l:=a::r) (fun t h=>by simp only [List.getElem?_cons_zero,Option.some.injEq] at h;rw [←h];exact hop))
     rw [HV.out]
     obtain rfl:n=r.length+1:=HN.out
     cases g3:(a.kind==3) with
     | false=>
       clear hop
       go_enter Tryz.func181,Tryz.ntmps181
       go_wp2
       exact bodyPost_ret (v:= .tuple #[.slice none 0 0,.slice none 0 0,.bool false]) (by simp [results,Tryz.results181,go_sem]) rfl (dw.none_ ⟨rfl,Below.refl _ _⟩)
     | true=>
       have g5:(a.text==([]:List UInt8))=false:=by rw [beq_eq_false_iff_ne];exact fun h=>hop ⟨beq_iff_eq.1 g3,h⟩
       rw [beq_iff_eq.1 g3] at a0
       clear hop g3
       go_enter Tryz.func181,Tryz.ntmps181
       go_wp2
       exact bodyPost_ret (v:= .tuple #[.slice none 0 0,.slice none 0 0,.bool false]) (by simp [results,Tryz.results181,go_sem]) rfl (dw.none_ ⟨rfl,Below.refl _ _⟩)
def eu (U:Option (Scp×List Tok)) (w0 w:World) (e:Ending) (w':World):Prop:=match U with
 | some (s,r)=> ∃ vn vr,e= .returned (.tuple #[.agg #[.int .i64 s.kind,vn,.int .i64 s.events],vr,.bool true])∧w'.ownsRow w.heap.size 9 1 vn s.names.length (s.names.map sv)∧Rd 2 dh w0 vr r∧c7 vr∧Below w.heap.size w w'
 | none=>e= .returned (.tuple #[.agg #[.int .i64 0,.slice none 0 0,.int .i64 0],.slice none 0 0,.bool false])∧Below w.heap.size w w'
theorem eu.none_ {w0 w w':World} {e:Ending} (h:e= .returned (.tuple #[.agg #[.int .i64 0,.slice none 0 0,.int .i64 0],.slice none 0 0,.bool false])∧Below w.heap.size w w'):eu none w0 w e w':=h
theorem eu.some_ {s:Scp} {r:List Tok} {w0 w w':World} {e:Ending} (h: ∃ vn vr,e= .returned (.tuple #[.agg #[.int .i64 s.kind,vn,.int .i64 s.events],vr,.bool true])∧w'.ownsRow w.heap.size 9 1 vn s.names.length (s.names.map sv)∧Rd 2 dh w0 vr r∧c7 vr∧Below w.heap.size w w'):eu (some (s,r)) w0 w e w':=h
structure ScF (w:World) (sB:Nat) (kd:Int) (vn:Value) (nm:List (List UInt8)) (ev:Int) (W:World):Prop where
 blks:W.heap[sB]? =some (.cells #[.int .i64 kd,vn,.int .i64 ev] 123 (0,0))
 blkr:W.heap[w.heap.size]? =some (.cells #[.int .i64 0,.slice none 0 0,.int .i64 0] 123 (0,0))
 nam:W.ownsRow w.heap.size 9 1 vn nm.length (nm.map sv)
 below:Below w.heap.size w W
 lt:w.heap.size < sB
 apart: ∀ k,vn.ownBlock=some k→k ≠ sB∧k ≠ w.heap.size
section
variable {w W W':World} {sB:Nat} {kd ev:Int} {vn:Value} {nm:List (List UInt8)}
theorem ScF.slt (h:ScF w sB kd vn nm ev W):sB < W.heap.size:=(Array.getElem?_eq_some_iff.1 h.blks).1
theorem ScF.call (h:ScF w sB kd vn nm ev W) (hb:Below W.heap.size W W'):ScF w sB kd vn nm ev W' where
 blks:=(hb.block sB h.slt).trans h.blks
 blkr:=(hb.block w.heap.size (by have:=h.slt;have:=h.lt;omega)).trans h.blkr
 nam:=ao h.nam hb
 below:=h.below.trans (hb.mono h.below.size)
 lt:=h.lt
 apart:=h.apart
theorem ScF.drew (h:ScF w sB kd vn nm ev W):ScF w sB kd vn nm ev W.drew:=h.call ((Below.refl _ _).drew)
theorem ScF.cells (h:ScF w sB kd vn nm ev W):W.cell? ⟨sB,0,none⟩=some (.int .i64 kd)∧W.cell? ⟨sB,1,none⟩=some vn∧W.cell? ⟨sB,2,none⟩=some (.int .i64 ev):=oD h.blks
theorem ScF.free (h:ScF w sB kd vn nm ev W) (j:Nat):W.frozen? ⟨sB,j,none⟩=false:=Lib.frozen_of_heap h.blks j
theorem ScF.setN {vn':Value} {nm':List (List UInt8)} {B:Nat} (h:ScF w sB kd vn nm ev W) (hn:W.ownsRow B 9 1 vn' nm'.length (nm'.map sv)) (hB:sB < B):ScF w sB kd vn' nm' ev (W.setCell ⟨sB,1,none⟩ vn') where
 blks:=by rw [bz h.blks];rfl
 blkr:=(aD (by have:=h.lt;omega)).trans h.blkr
 nam:=dR (eV hn (by have:=h.lt;omega)) (fun k hk=>by have:=(hn.lt k hk).1;omega)
 below:=h.below.setCell (p:=⟨sB,1,none⟩) (by have:=h.lt;show w.heap.size≤sB;omega) _
 lt:=h.lt
 apart:=fun k hk=>by have h1:=(hn.lt k hk).1;have h2:=h.lt;exact ⟨by omega,by omega⟩
theorem ScF.clrN (h:ScF w sB kd vn nm ev W):ScF w sB kd (.slice none 0 0) [] ev (W.setCell ⟨sB,1,none⟩ (.slice none 0 0)) where
 blks:=by rw [bz h.blks];rfl
 blkr:=(aD (by have:=h.lt;omega)).trans h.blkr
 nam:=World.ownsRow_nil _ _ _ _
 below:=h.below.setCell (p:=⟨sB,1,none⟩) (by have:=h.lt;show w.heap.size≤sB;omega) _
 lt:=h.lt
 apart:=fun k hk=>by simp [Value.ownBlock] at hk
theorem ScF.setE (h:ScF w sB kd vn nm ev W) (ev':Int):ScF w sB kd vn nm ev' (W.setCell ⟨sB,2,none⟩ (.int .i64 ev')) where
 blks:=by rw [bz h.blks];rfl
 blkr:=(aD (by have:=h.lt;omega)).trans h.blkr
 nam:=dR h.nam (fun k hk=>(h.apart k hk).1)
 below:=h.below.setCell (p:=⟨sB,2,none⟩) (by have:=h.lt;show w.heap.size≤sB;omega) _
 lt:=h.lt
 apart:=h.apart
theorem ScF.res (h:ScF w sB kd vn nm ev W):(((W.setCell ⟨w.heap.size,0,none⟩ (.int .i64 kd)).setCell ⟨w.heap.size,1,none⟩ vn).setCell ⟨w.heap.size,2,none⟩ (.int .i64 ev)).ownsRow w.heap.size 9 1 vn nm.length (nm.map sv)∧Below w.heap.size w (((W.setCell ⟨w.heap.size,0,none⟩ (.int .i64 kd)).setCell ⟨w.heap.size,1,none⟩ vn).setCell ⟨w.heap.size,2,none⟩ (.int .i64 ev)):=
 ⟨dR (dR (dR h.nam (fun k hk=>(h.apart k hk).2)) (fun k hk=>(h.apart k hk).2)) (fun k hk=>(h.apart k hk).2),((h.below.setCell (p:=⟨w.heap.size,0,none⟩) (Nat.le_refl _) _).setCell (p:=⟨w.heap.size,1,none⟩) (Nat.le_refl _) _).setCell (p:=⟨w.heap.size,2,none⟩) (Nat.le_refl _) _⟩
theorem ScF.zero (h:ScF w sB kd vn nm ev W) (a b c:Value):Below w.heap.size w (((W.setCell ⟨w.heap.size,0,none⟩ a).setCell ⟨w.heap.size,1,none⟩ b).setCell ⟨w.heap.size,2,none⟩ c):=
 ((h.below.setCell (p:=⟨w.heap.size,0,none⟩) (Nat.le_refl _) _).setCell (p:=⟨w.heap.size,1,none⟩) (Nat.le_refl _) _).setCell (p:=⟨w.heap.size,2,none⟩) (Nat.le_refl _) _
end
def GrS (U:Option (List (List UInt8)×List Tok)) (w0 w:World) (sB:Nat) (kd:Int) (u6 u7:Value) (W:World):Prop:=match U with
 | some (nm,r)=> ∃ vn,u7= .bool true∧Rd 2 dh w0 u6 r∧c7 u6∧ScF w sB kd vn nm 0 W
 | none=>u7= .bool false∧ScF w sB kd (.slice none 0 0) [] 0 W
def mF (kd:Int) (vn:Value):Value:=if kd=1 then .iface 221 (.agg #[]) else if kd=2 then .iface 222 (.agg #[]) else if kd=3 then .iface 204 (.agg #[vn]) else if kd=4 then .iface 206 (.agg #[vn]) else .nilIface
theorem sq (kd:Int) (vn:Value) (ev:Int) (w:World) (hv: ∃ p n c,vn= .slice p n c) (h0:0≤kd) (h4:kd≤4):
 Calls Tryz.prog 194 #[.agg #[.int .i64 kd,vn,.int .i64 ev]] w fun e w'=>e= .returned (mF kd vn)∧Below w.heap.size w w':=by
 have h:kd=0∨kd=1∨kd=2∨kd=3∨kd=4:=by omega
 rcases h with rfl | rfl | rfl | rfl | rfl
 · exact tM 0 vn ev w hv rfl rfl rfl rfl
 · exact qi vn ev w hv
 · exact qj vn ev w hv
 · exact qk vn ev w hv
 · exact ql vn ev w hv
theorem pu {l:List Tok} (h:l.length < 2):de l=none:=by
 match l,h with
 | [],_=>rfl
 | [a],_=>
   unfold de
   simp only [aq]
   split <;> rfl
theorem qC {a:Tok} {r:List Tok} (h: ¬(a.kind=3∧a.text=[])):de (a::r)=none:=by
 unfold de
 have e3:aq 3 (a::r)=none:=by simp only [aq];rw [if_neg (by intro e;exact h ⟨e.1,by simpa using e.2⟩)]
 rw [e3];rfl
theorem sr {a t:Tok} {r:List Tok} (h:a.kind=3∧a.text=[]):de (a::t::r)=(nmP (dc t) r).bind fun q2=>(bc q2.2).bind fun q3=>(aq 4 q3.2).bind fun q4=>some (⟨dc t,q2.1,eN q3.1⟩,q4.2):=by
 unfold de
 have e0:aq 3 (a::t::r)=some (a.text,t::r):=by simp [aq,h.1,h.2]
 rw [e0];rfl
def uH:Prop:= ∀ (v:Value) (l:List Tok) (w0 w:World),Rd 2 dh w0 v l→Below w0.heap.size w0 w→c7 v→l.length≤1048576→(∀ t∈l,t.text.length≤1048576)→Ew w→
 Calls Tryz.prog 213 #[v] w (eu (de l) w0 w)
structure RfM (w:World) (cf lo:Nat) (vsc:Value) (scs:List Scp) (fp:List Nat) (W:World):Prop where
 blkf:W.heap[cf]? =some (.cells #[.bool true,vsc] 27 (0,0))
 blkr:W.heap[w.heap.size]? =some (.cells #[.bool false,.slice none 0 0] 27 (0,0))
 tree:cx W lo (aj scs) vsc fp
 below:Below w.heap.size w W
 o1:w.heap.size < cf
 o3:cf < lo
 o4:lo≤W.heap.size
section
variable {w W W':World} {cf lo:Nat} {vsc vn:Value} {scs:List Scp} {fp:List Nat} {kd ev:Int} {nm:List (List UInt8)}
theorem RfM.call (h:RfM w cf lo vsc scs fp W) (hb:Below W.heap.size W W'):RfM w cf lo vsc scs fp W' where
 blkf:=(hb.block cf (by have:=h.o3;have:=h.o4;omega)).trans h.blkf
 blkr:=(hb.block w.heap.size (by have:=h.o1;have:=h.o3;have:=h.o4;omega)).trans h.blkr
 tree:=h.tree.apart (ac.of_below hb:ac W W' []) (fun k _ hm=>by cases hm)
 below:=h.below.trans (hb.mono h.below.size)
 o1:=h.o1
 o3:=h.o3
 o4:=Nat.le_trans h.o4 hb.size
theorem RfM.row (h:RfM w cf lo vsc scs fp W): ∃ xs fq,W.ownsRow lo 123 3 vsc scs.length xs∧bS W (scs.flatMap Scp.lf) xs fq∧fp=vsc.ownBlock.toList++fq:=by
 obtain ⟨_,xs,fq,ho,hx,hf⟩:=h.tree.is
 exact ⟨xs,fq,mn ho (fun k hk=>h.tree.low k (by rw [hf,hk];simp)),hx,hf⟩
theorem RfM.app (h:RfM w cf lo vsc scs fp W) (hnm:W.ownsRow 0 9 1 vn nm.length (nm.map sv)) (hv: ∀ k,vn.ownBlock=some k→lo≤k∧k ∉ fp) {xs:List Value} {fq:List Nat} (hx:bS W (scs.flatMap Scp.lf) xs fq) (hf:fp=vsc.ownBlock.toList++fq) {gn capn:Nat}
 (ho:W'.ownsRow lo 123 3 (.slice (some ⟨gn,0,none⟩) (scs.length+1) capn) (scs.length+1) (xs++[.int .i64 kd,vn,.int .i64 ev])) (hg:W.grownBy W' vsc.ownBlock) (hor:vsc.ownBlock=some gn∨W.heap.size≤gn):
 ∃ fp',RfM w cf lo (.slice (some ⟨gn,0,none⟩) (scs.length+1) capn) (scs++[⟨kd,nm,ev⟩]) fp' (W'.setCell ⟨cf,1,none⟩ (.slice (some ⟨gn,0,none⟩) (scs.length+1) capn))∧W'.heap[cf]? =some (.cells #[.bool true,vsc] 27 (0,0)):=by
 have hgi:ac W W' vsc.ownBlock.toList:=ac.of_row hg
 have hvl: ∀ k∈vsc.ownBlock.toList,lo≤k:=fun k hk=>h.tree.low k (by rw [hf];exact List.mem_append_left _ hk)
 have hfql: ∀ k∈fq,lo≤k∧k < W.heap.size:=fun k hk=>⟨h.tree.low k (by rw [hf];exact List.mem_append_right _ hk),bS.lt _ _ _ hx k hk⟩
 have hnd:=h.tree.nodup
 rw [hf] at hnd
 have hfqv: ∀ k∈fq,k ∉ vsc.ownBlock.toList:=fun k hk hm=>(List.nodup_append.1 hnd).2.2 k hm k hk rfl
 have o1:=h.o1
 have o3:=h.o3
 have o4:=h.o4
 have hcfl:cf ∉ vsc.ownBlock.toList:=fun hm=>by have:=hvl _ hm;omega
 have hblkf:W'.heap[cf]? =some (.cells #[.bool true,vsc] 27 (0,0)):=(hgi.block cf (by omega) hcfl).trans h.blkf
 have hnam:W'.ownsRow 0 9 1 vn nm.length (nm.map sv):=iz hnm hgi (fun k hk hm=>by
  have:=(hv k hk).2
  rw [hf] at this
  exact this (List.mem_append_left _ hm))
 have hgn:lo≤gn:=(ho.lt gn rfl).1
 have hgnfq:gn ∉ fq:=fun hm=>by
  rcases hor with e | e
  · exact hfqv gn hm (by rw [e];simp)
  · have:=(hfql gn hm).2;omega
 have hgnv: ∀ k,vn.ownBlock=some k→k ≠ gn∧k ∉ fq∧lo≤k:=fun k hk=>by
  obtain ⟨c1,c2⟩:=hv k hk
  rw [hf] at c2
  refine ⟨fun e=> ?_,fun hm=>c2 (List.mem_append_right _ hm),c1⟩
  subst e
  rcases hor with e | e
  · exact c2 (List.mem_append_left _ (by rw [e];simp))
  · have:=(hnm.lt k hk).2;omega
 have hls:bS W' ((scs++[(⟨kd,nm,ev⟩:Scp)]).flatMap Scp.lf) (xs++[.int .i64 kd,vn,.int .i64 ev]) (fq++vn.ownBlock.toList):=by
  rw [List.flatMap_append]
  refine bS.append.2 ⟨xs,_,fq,vn.ownBlock.toList,rfl,bS.apart hx hgi hfqv,?_,rfl⟩
  simpa using wO (s:=⟨kd,nm,ev⟩) hnam rfl
 refine ⟨gn::(fq++vn.ownBlock.toList),⟨?_,?_,⟨?_,?_,?_⟩,?_,o1,o3,?_⟩,hblkf⟩
 · rw [bz hblkf];rfl
 · exact (aD (by omega)).trans ((hgi.block w.heap.size (by omega) (fun hm=>by have:=hvl _ hm;omega)).trans h.blkr)
 · have hsc: ∀ k∈gn::(fq++vn.ownBlock.toList),k ≠ cf:=by
    intro k hk
    have:lo≤k:=by
     rcases List.mem_cons.1 hk with rfl | hk
     · exact hgn
     · rcases List.mem_append.1 hk with hk | hk
       · exact (hfql k hk).1
       · exact (hgnv k (by simpa using hk)).2.2
    omega
   refine au.frame (W:=W') _ _ _ (fun k hk=>aD (hsc k hk)) ?_
   refine ⟨ce pW _,_,fq++vn.ownBlock.toList,?_,hls,rfl⟩
   rw [List.length_append]
   exact dz ho
 · rw [List.nodup_cons]
   refine ⟨fun hm=> ?_,?_⟩
   · rcases List.mem_append.1 hm with hm | hm
     · exact hgnfq hm
     · exact (hgnv gn (by simpa using hm)).1 rfl
   · rw [List.nodup_append]
     refine ⟨(List.nodup_append.1 hnd).2.1,by cases vn.ownBlock <;> simp,fun a ha b hb e=> ?_⟩
     subst e
     exact (hgnv a (by simpa using hb)).2.1 ha
 · intro k hk
   rcases List.mem_cons.1 hk with rfl | hk
   · exact hgn
   · rcases List.mem_append.1 hk with hk | hk
     · exact (hfql k hk).1
     · exact (hgnv k (by simpa using hk)).2.2
 · exact (ac.below h.below hgi h.below.size (fun k hk=>by have:=hvl k hk;omega)).setCell (p:=⟨cf,1,none⟩) (by show w.heap.size≤cf;omega) _
 · have:=hg.size
   simp
   omega
end
def ScG (s:Scp):Prop:=s.names.length≤1048576∧(∀ x∈s.names,x.length≤1048576)∧0≤s.kind∧s.kind≤4∧0≤s.events∧s.events≤15
theorem su:an [110,111,110,101]=lk:=by decide
theorem uI:an [115,101,116]=wg:=by decide
theorem gG {w w':World} {e:Ending} {U:Option Flt} (hU:U=none) (he:e= .returned (.tuple #[.agg #[.bool false,.slice none 0 0],.bool false])) (hb:Below w.heap.size w w'):qx U w e w':=by
 subst hU
 exact ⟨.slice none 0 0,[],he,aC _ _,hb⟩
def uJ (r:List Tok) (scs:List Scp) (r':List Tok):Prop:=r'.length+scs.length≤r.length∧(∀ t∈r',t∈r)∧cU (r.length+2) r=(cU (r.length+2 - scs.length) r').map (scs++ ·)
theorem uJ.start (r:List Tok):uJ r [] r:=⟨by simp,fun _ h=>h,by simp⟩
theorem uJ.step {r r' r'':List Tok} {scs:List Scp} {s:Scp} (h:uJ r scs r') (hs:de r'=some (s,r'')):uJ r (scs++[s]) r'':=by
 obtain ⟨h1,h2,h3⟩:=h
 have hlt:=pq hs
 have hin:=(pt hs).2.2.1
 have hne: ¬r'=[]:=by rintro rfl;simp at hlt
 refine ⟨by simp;omega,fun t ht=>h2 t (hin t ht),?_⟩
 rw [h3,show r.length+2 - scs.length=(r.length+2 - (scs++[s]).length)+1 by simp;omega]
 simp only [cU,if_neg hne,hs,Option.bind_some,Option.map_map]
 congr 1
 funext y
 simp
theorem uJ.bad {r r':List Tok} {scs:List Scp} (h:uJ r scs r') (hne: ¬r'=[]) (hs:de r'=none):cU (r.length+2) r=none:=by
 obtain ⟨h1,h2,h3⟩:=h
 rw [h3,show r.length+2 - scs.length=(r.length+1 - scs.length)+1 by omega]
 simp only [cU,if_neg hne,hs,Option.bind_none,Option.map_none]
theorem uJ.done {r:List Tok} {scs:List Scp} (h:uJ r scs []):cU (r.length+2) r=some scs:=by
 obtain ⟨h1,h2,h3⟩:=h
 rw [h3,show r.length+2 - scs.length=(r.length+1 - scs.length)+1 by simp at h1;omega]
 simp [cU]
theorem fx {w W:World} (hb:Below w.heap.size w W) (a b:Value):Below w.heap.size w ((W.setCell ⟨w.heap.size,0,none⟩ a).setCell ⟨w.heap.size,1,none⟩ b):=
 (hb.setCell (p:=⟨w.heap.size,0,none⟩) (Nat.le_refl _) a).setCell (p:=⟨w.heap.size,1,none⟩) (Nat.le_refl _) b
set_option maxRecDepth 20000 in
theorem jL (SF:uH):gQ Ew:=by
 intro v l w hF hr hcp hl hx
 obtain ⟨p,c,rfl,hp⟩:=hr.ex
 have hc:l.length≤c:=hcp _ _ _ rfl
 have HR:=aa9 hr
 have HX:=aa9 hx
 have HF:=aa9 hF
 have hbr0:Below w.heap.size w (w.alloc (.cells #[.bool false,.slice none 0 0] 27)):=(Below.refl _ _).alloc (Nat.le_refl _) _
 have hblk:(w.alloc (.cells #[.bool false,.slice none 0 0] 27)).heap[w.heap.size]? =some (.cells #[.bool false,.slice none 0 0] 27 (0,0)):=heap_alloc_new w _
 have HBK:=aa9 hblk
 have hz0:(w.alloc (.cells #[.bool false,.slice none 0 0] 27)).heap.size=w.heap.size+1:=by simp
 have HZ0:=aa9 hz0
 have HB0:=aa9 hbr0
 clear hr hcp hx hF hz0
 cases l with
 | nil=>
   obtain ⟨c0,c1,f0,f1,_,_⟩:=cI hblk
   clear hblk hp
   go_enter Tryz.func185,Tryz.ntmps185
   go_wp2
   exact bodyPost_ret (v:= .tuple #[.agg #[.bool false,.slice none 0 0],.bool false]) (by simp [results,Tryz.results185,go_sem]) rfl (gG rfl rfl HB0.out)
 | cons t r=>
   obtain ⟨b,off,rfl,hb,hcell⟩:=hp.resolve_left (by simp)
   have ht0:w.cell? ⟨b,off,none⟩=some (.int .i64 t.kind):=hcell 0 t rfl 0 _ rfl
   have ht1:w.cell? ⟨b,off+1,none⟩=some (sv t.text):=hcell 0 t rfl 1 _ rfl
   have htx:=HX.out t (by simp)
   have cn:=fun W=>df t [110,111,110,101] W htx (by decide)
   have cs:=fun W=>df t [115,101,116] W htx (by decide)
   rw [su] at cn
   rw [uI] at cs
   have HT:=aa9 (fun W (h:Below w.heap.size w W)=>(⟨(h.cell (p:=⟨b,off,none⟩) hb).trans ht0,(h.cell (p:=⟨b,off+1,none⟩) hb).trans ht1⟩:W.cell? ⟨b,off,none⟩=some (.int .i64 t.kind)∧W.cell? ⟨b,off+1,none⟩=some (sv t.text)))
   have HK0:=aa9 (fun W (h:Below (w.heap.size+1) (w.alloc (.cells #[.bool false,.slice none 0 0] 27)) W)=>(h.block w.heap.size (by omega)).trans HBK.out)
   clear hp hcell ht0 ht1 htx hblk
   have hlen:(t::r).length=r.length+1:=rfl
   rw [hlen] at hl hc HR
   rw [hlen]
   clear hlen
   obtain ⟨t0,t1⟩:=HT.out _ HB0.out
   cases hS:(t.kind==1 && an t.text==wg) with
   | false=>
     rw [hS] at cs
     have CS:=aa9 cs
     have HB1:=aa9 (fun h=>uF (r:=r) hS h)
     clear cs hS
     by_cases hr0:r=[]
     · subst hr0
       cases hN:(t.kind==1 && an t.text==lk) with
       | true=>
         rw [hN] at cn
         have CN:=aa9 cn
         have HV:=aa9 (show bL [t]=some ⟨false,[]⟩ by rw [Bool.and_eq_true,beq_iff_eq,beq_iff_eq] at hN;exact sn hN.1 hN.2)
         clear cn hN
         go_enter Tryz.func185,Tryz.ntmps185
         go_wp2_with fail
         refine (CN.out _).mono ?_
         rintro e w1 ⟨rfl,b1⟩
         have hb1:=HB0.out.trans (b1.mono HB0.out.size)
         obtain ⟨c0,c1,f0,f1,s0,s1⟩:=cI (HK0.out w1 (b1.mono (by rw [HZ0.out];omega)))
         clear b1 t0 t1
         go_wp2
         exact bodyPost_ret (v:= .tuple #[.agg #[.bool false,.slice none 0 0],.bool true]) (by simp [results,Tryz.results185,go_sem,s0,s1]) rfl ⟨.slice none 0 0,[],by rw [HV.out];rfl,by rw [HV.out];exact aC _ _,fx hb1 _ _⟩
       | false=>
         rw [hN] at cn
         have CN:=aa9 cn
         have HV:=aa9 (HB1.out (fun _=>hN))
         clear cn hN
         go_enter Tryz.func185,Tryz.ntmps185
         go_wp2_with fail
         refine (CN.out _).mono ?_
         rintro e w1 ⟨rfl,b1⟩
         have hb1:=HB0.out.trans (b1.mono HB0.out.size)
         have hk1:=b1.mono (Nat.le_of_eq HZ0.out.symm)
         clear t0 t1
         obtain ⟨t0,t1⟩:=HT.out _ hb1
         go_wp2_with fail
         refine (CS.out _).mono ?_
         rintro e w2 ⟨rfl,b2⟩
         have hb2:=hb1.trans (b2.mono hb1.size)
         obtain ⟨c0,c1,f0,f1,s0,s1⟩:=cI (HK0.out w2 (hk1.trans (b2.mono (by have:=b1.size;rw [HZ0.out] at this;exact this))))
         clear b1 b2 t0 t1 hk1
         go_wp2
         exact bodyPost_ret (v:= .tuple #[.agg #[.bool false,.slice none 0 0],.bool false]) (by simp [results,Tryz.results185,go_sem,s0,s1]) rfl (gG HV.out rfl (fx hb2 _ _))
     · have hrl:1≤r.length:=by cases r with | nil=>exact absurd rfl hr0 | cons _ _=>simp
       have hn1:((r.length:Int)+1==1)=false:=cFalse (by omega)
       have HV:=aa9 (HB1.out (fun h=>absurd h hr0))
       clear cn
       go_enter Tryz.func185,Tryz.ntmps185
       go_wp2_with fail
       refine (CS.out _).mono ?_
       rintro e w2 ⟨rfl,b2⟩
       have hb2:=HB0.out.trans (b2.mono HB0.out.size)
       obtain ⟨c0,c1,f0,f1,s0,s1⟩:=cI (HK0.out w2 (b2.mono (Nat.le_of_eq HZ0.out.symm)))
       clear b2 t0 t1
       go_wp2
       exact bodyPost_ret (v:= .tuple #[.agg #[.bool false,.slice none 0 0],.bool false]) (by simp [results,Tryz.results185,go_sem,s0,s1]) rfl (gG HV.out rfl (fx hb2 _ _))
   | true=>
     have hS2:=hS
     rw [Bool.and_eq_true,beq_iff_eq,beq_iff_eq] at hS2
     have hN:(t.kind==1 && an t.text==lk)=false:=by rw [hS2.2];simp [wg,lk]
     rw [hN] at cn
     rw [hS] at cs
     have CN:=aa9 cn
     have CS:=aa9 cs
     have HRF:=aa9 (uE (r:=r) hS2.1 hS2.2)
     clear cn cs hN hS hS2
     by_cases hr0:r=[]
     · subst hr0
       have HV:=aa9 (show bL [t]=none from HRF.out)
       have CF:=aa9 (fun W=>dK ⟨true,[]⟩ (.slice none 0 0) W trivial (aC W 0).rd (by simp) (by simp) (by simp))
       rw [show aN ⟨true,[]⟩=false from rfl] at CF
       simp only at CF
       have hcc:c=1∨ ¬c=1:=Classical.em _
       go_enter Tryz.func185,Tryz.ntmps185
       go_wp2_with fail
       refine (CN.out _).mono ?_
       rintro e w1 ⟨rfl,b1⟩
       have hb1:=HB0.out.trans (b1.mono HB0.out.size)
       have hk1:=b1.mono (Nat.le_of_eq HZ0.out.symm)
       clear t0 t1
       obtain ⟨t0,t1⟩:=HT.out _ hb1
       go_wp2_with fail
       refine (CS.out _).mono ?_
       rintro e w2 ⟨rfl,b2⟩
       have hb2:=hb1.trans (b2.mono hb1.size)
       have hk2:=hk1.trans (b2.mono (by have:=b1.size;rw [HZ0.out] at this;exact this))
       have hb3:=hb2.alloc hb2.size (.cells #[.bool true,.slice none 0 0] 27)
       have hk3:=hk2.alloc (by have:=hk2.size;rw [HZ0.out] at this;exact this) (.cells #[.bool true,.slice none 0 0] 27)
       have hz3:=hb3.size
       have HK3:=aa9 (HK0.out _ hk3)
       have HZ3:=aa9 (show w.heap.size+1≤w2.heap.size by have:=hk2.size;rw [HZ0.out] at this;exact this)
       clear b1 b2 t0 t1 hk1 hk2 hk3 hb1
       rcases hcc with hc1 | hc1
       all_goals
        (try subst hc1)
        go_wp2
        refine wp_loop_rounds 1 ?_
        rw [rounds_succ]
        go_wp2_with fail
        refine (CF.out _).mono ?_
        rintro e w4 ⟨rfl,b4⟩
        have hb4:=hb3.trans (b4.mono hz3)
        obtain ⟨c0,c1,f0,f1,s0,s1⟩:=cI ((b4.block w.heap.size (by have:=HZ3.out;simp;omega)).trans HK3.out)
        clear b4 hb3
        go_wp2
        exact bodyPost_ret (v:= .tuple #[.agg #[.bool false,.slice none 0 0],.bool false]) (by simp [results,Tryz.results185,go_sem,s0,s1]) rfl (gG HV.out rfl (fx hb4 _ _))
     · have hrl:1≤r.length:=by cases r with | nil=>exact absurd rfl hr0 | cons _ _=>simp
       have hn1:((r.length:Int)+1==1)=false:=cFalse (by omega)
       have hc1: ¬c=1:=by omega
       have HTL:=aa9 (show Rd 2 dh w (.slice (some ⟨b,off+2,none⟩) r.length (c - 1)) r∧c7 (.slice (some ⟨b,off+2,none⟩) r.length (c - 1)) by
        have:=hD (l:=t::r) (k:=1) (show Rd 2 dh w (.slice (some ⟨b,off,none⟩) (t::r).length c) (t::r) from HR.out) hc (by show 1≤r.length+1;omega)
        rw [if_neg hc1] at this
        simpa [Addr.add_lit] using this)
       go_enter Tryz.func185,Tryz.ntmps185
       go_wp2_with fail
       refine (CS.out _).mono ?_
       rintro e w2 ⟨rfl,b2⟩
       have hb2:=HB0.out.trans (b2.mono HB0.out.size)
       have hk2:=b2.mono (Nat.le_of_eq HZ0.out.symm)
       have hz2:w.heap.size+1≤w2.heap.size:=by have:=hk2.size;rw [HZ0.out] at this;exact this
       have RF0:=aa9 (show RfM w w2.heap.size (w2.heap.size+1) (.slice none 0 0) [] [] (w2.alloc (.cells #[.bool true,.slice none 0 0] 27)) from
        ⟨heap_alloc_new w2 _,(Below.heap_alloc w2 _ _ (by omega)).trans (HK0.out _ hk2),aC _ _,hb2.alloc hb2.size _,by omega,by omega,by simp⟩)
       clear b2 t0 t1 hk2 CN CS
       go_wp2
       generalize (w2.alloc (.cells #[.bool true,.slice none 0 0] 27))=X at *
       generalize w2.heap.size=cf at *
       go_loopg [5,6,7,8] r.length (fun gk u5 u6 u7 u8 wr=> ∃ (r':List Tok) (scs:List Scp) (vsc:Value) (fp:List Nat),gk=r'.length∧Rd 2 dh w u5 r'∧c7 u5∧RfM w cf (cf+1) vsc scs fp wr∧uJ r scs r'∧ ∀ s∈scs,ScG s)
       case atStart=>exact ⟨r,[],.slice none 0 0,[],rfl,HTL.out.1,HTL.out.2,RF0.out,uJ.start r,by simp⟩
       case round=>
        obtain ⟨r',scs,vsc,fp,rfl,hrd,hcap,hrf,hfar,hsg⟩:=hrel
        have RF:=aa9 hrf
        have FA:=aa9 hfar
        have HG:=aa9 hsg
        have HRD:=aa9 hrd
        have HCP:=aa9 hcap
        obtain ⟨pr,cr,rfl,_⟩:=hrd.ex
        clear hrf hfar hsg hrd hcap RF0 HTL
        have hz:=RF.out.below.size
        by_cases hne:r'=[]
        · subst hne
          have HV0:=aa9 (HRF.out.trans (by rw [FA.out.done];rfl:_=nQ ⟨true,scs⟩))
          have hsl:scs.length≤r.length:=by have:=FA.out.1;simp at this;omega
          have CF:=aa9 (fun W h=>dK ⟨true,scs⟩ vsc W trivial h (by show scs.length≤1048576;omega) (fun s hs=>⟨(HG.out s hs).1,(HG.out s hs).2.1⟩) (fun s hs=>by have:=(HG.out s hs).2.2;unfold bW;omega))
          simp only at CF
          obtain ⟨q0,q1⟩:=nl RF.out.blkf
          obtain ⟨psc,csc,rfl,_⟩:=cq RF.out.tree.rd
          go_wp2_with fail
          refine (CF.out _ RF.out.tree.rd).mono ?_
          rintro e w3 ⟨rfl,b3⟩
          have RF3:=aa9 (RF.out.call b3)
          clear q0 q1 b3 CF
          obtain ⟨q0,q1⟩:=nl RF3.out.blkf
          obtain ⟨c0,c1,f0,f1,s0,s1⟩:=cI RF3.out.blkr
          cases hok:aN ⟨true,scs⟩ with
          | false=>
            have HV:=aa9 (show bL (t::r)=none by rw [HV0.out];unfold nQ;rw [hok];rfl)
            go_wp2
            exact bodyPost_ret (v:= .tuple #[.agg #[.bool false,.slice none 0 0],.bool false]) (by simp [results,Tryz.results185,go_sem,s0,s1]) rfl (gG HV.out rfl (fx RF3.out.below _ _))
          | true=>
            have HV:=aa9 (show bL (t::r)=some ⟨true,scs⟩ by rw [HV0.out];unfold nQ;rw [hok];rfl)
            have HTR:=aa9 (show cx ((w3.setCell ⟨w.heap.size,0,none⟩ (.bool true)).setCell ⟨w.heap.size,1,none⟩ (.slice psc scs.length csc)) w.heap.size (aj scs) (.slice psc scs.length csc) fp by
             have hlow: ∀ k∈fp,w.heap.size < k:=fun k hk=>by have h1:=RF3.out.tree.low k hk;have h2:=RF3.out.o1;omega
             refine ⟨au.frame _ _ _ (fun k hk=> ?_) RF3.out.tree.is,RF3.out.tree.nodup,fun k hk=>Nat.le_of_lt (hlow k hk)⟩
             have:=hlow k hk
             exact (aD (by omega)).trans (aD (by omega)))
            go_wp2
            exact bodyPost_ret (v:= .tuple #[.agg #[.bool true,.slice psc scs.length csc],.bool true]) (by simp [results,Tryz.results185,go_sem,s0,s1]) rfl ⟨.slice psc scs.length csc,fp,by rw [HV.out];rfl,by rw [HV.out];exact HTR.out,fx RF3.out.below _ _⟩
        · have hpos:0 < (r'.length:Int):=by have:r'.length ≠ 0:=fun h=>hne (List.eq_nil_of_length_eq_zero h);omega
          have hrl':r'.length≤r.length:=by have:=FA.out.1;omega
          have hC:=SF (.slice pr r'.length cr) r' w wr HRD.out RF.out.below HCP.out (by omega) (fun u hu=>HX.out u (List.mem_cons_of_mem _ (FA.out.2.1 u hu))) (HF.out.below RF.out.below)
          cases hsc:de r' with
          | none=>
            have HV:=aa9 (show bL (t::r)=none by rw [HRF.out,FA.out.bad hne hsc];rfl)
            rw [hsc] at hC
            have C:=aa9 hC
            clear hC hsc
            go_wp2_with fail
            refine (C.out).mono ?_
            rintro e w3 ⟨rfl,b3⟩
            have RF3:=aa9 ((RF.out.call b3).call ((Below.refl _ _).alloc (Nat.le_refl _) (.cells #[.int .i64 0,.slice none 0 0,.int .i64 0] 123)))
            clear b3 C
            obtain ⟨c0,c1,f0,f1,s0,s1⟩:=cI RF3.out.blkr
            go_wp2
            exact bodyPost_ret (v:= .tuple #[.agg #[.bool false,.slice none 0 0],.bool false]) (by simp [results,Tryz.results185,go_sem,s0,s1]) rfl (gG HV.out rfl (fx RF3.out.below _ _))
          | some q=>
            obtain ⟨s,r''⟩:=q
            have HFA:=aa9 (FA.out.step hsc)
            obtain ⟨i1,i2,i3,i4,i5,i6,i7⟩:=pt hsc
            have HLT:=aa9 (pq hsc)
            have HGS:=aa9 (show ∀ s'∈scs++[s],ScG s' from fun s' hs'=>by
             rcases List.mem_append.1 hs' with h | h
             · exact HG.out s' h
             · rw [List.mem_singleton.1 h]
               exact ⟨by omega,fun y hy=>by obtain ⟨u,hu,e⟩:=i2 y hy;rw [e];exact HX.out u (List.mem_cons_of_mem _ (FA.out.2.1 u hu)),i4,i5,i6,i7⟩)
            rw [hsc] at hC
            have C:=aa9 hC
            obtain ⟨kd,nm,ev⟩:=s
            clear hC hsc i1 i2 i3 i4 i5 i6 i7 FA HG
            go_wp2_with fail
            refine (C.out).mono ?_
            rintro e w3 ⟨vn,vr,rfl,on,rr,cr',b3⟩
            obtain ⟨pn,cn,rfl⟩:=oh on
            have RF3:=aa9 (RF.out.call b3)
            have hzr:=RF.out.o4
            have HN:=aa9 (show ∀ k,(Value.slice pn nm.length cn).ownBlock=some k→cf+1≤k∧k ∉ fp from fun k hk=>⟨by have:=(on.lt k hk).1;omega,fun hm=>by have h1:=(on.lt k hk).1;have h2:=RF.out.tree.lt k hm;omega⟩)
            have RFa:=aa9 (RF3.out.call ((Below.refl _ _).alloc (Nat.le_refl _) (.cells #[.int .i64 kd,.slice pn nm.length cn,.int .i64 ev] 123)))
            have ONa:=aa9 (dz (on.alloc (.cells #[.int .i64 kd,.slice pn nm.length cn,.int .i64 ev] 123)))
            have RRa:=aa9 rr
            have HCR:=aa9 cr'
            have HSZ:=aa9 (show (w3.alloc (.cells #[.int .i64 kd,.slice pn nm.length cn,.int .i64 ev] 123)).heap.size=w3.heap.size+1 by simp)
            clear on rr b3 cr' C RF3
            obtain ⟨psc,csc,rfl,_⟩:=cq RFa.out.tree.rd
            obtain ⟨xs,fq,ho,hxx,hf⟩:=RFa.out.row
            have HAP:=aa9 (fun W' gn capn=>RFa.out.app (W':=W') (kd:=kd) (ev:=ev) ONa.out HN.out hxx hf (gn:=gn) (capn:=capn))
            obtain ⟨q0,q1⟩:=nl RFa.out.blkf
            have HO:=aa9 ho
            have hlo:=RFa.out.o4
            have hsl:scs.length≤r.length:=by have:=HFA.out.1;simp at this;omega
            clear ho hxx hf
            go_wp2_with (at_builtin;refine aE Tryz.el_scp rfl (.tmp 46) (.tmp 48) rfl _ _ (.slice psc scs.length csc) scs.length xs rfl HO.out (Below.refl _ _) hlo #[.int .i64 kd,.slice pn nm.length cn,.int .i64 ev] (.inr rfl) 1 1 (by rw [HSZ.out];rfl) rfl (by simp [Value.oneCell']) (by omega) (by omega) (by omega) ?_)
            intro gn capn w5 o5 b5 g5 hor _
            obtain ⟨fp',rf',hcf'⟩:=HAP.out w5 gn capn o5 g5 (by rw [HSZ.out];exact hor)
            have RF':=aa9 rf'
            have y1:w5.cell? ⟨cf,1,none⟩=some (.slice psc scs.length csc):=(aa8 hcf' 1).trans rfl
            have y2:w5.frozen? ⟨cf,1,none⟩=false:=Lib.frozen_of_heap hcf' 1
            clear o5 b5 g5 hor rf' hcf' q0 q1 HO hlo
            go_wp2
            go_roundg r''.length
            case measure=>exact HLT.out
            case rel=>exact ⟨r'',scs++[⟨kd,nm,ev⟩],_,fp',rfl,RRa.out,HCR.out,RF'.out,HFA.out,HGS.out⟩
end Go.Proofs.YtmlgkoeacbeopaaGreatDoor
