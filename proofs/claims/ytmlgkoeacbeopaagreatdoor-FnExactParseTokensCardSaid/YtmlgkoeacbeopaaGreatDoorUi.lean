/- Ui -/
import Derived.Laws.CopyOwn
import Derived.Deep.LoopGhost
import Derived.Test.YtmlgkoeacbeopaaGreatDoorUd
set_option maxHeartbeats 3200000
namespace Go.Proofs.YtmlgkoeacbeopaaGreatDoor
open Go.RowKit
theorem cC3 {W : World} {b : Nat} {x0 x1 x2 : Value} {e : TypeId} (h : W.heap[b]? = some (.cells #[x0, x1, x2] e (0, 0))) : W.cell? ⟨b, 0, none⟩ = some x0 ∧ W.cell? ⟨b, 1, none⟩ = some x1 ∧ W.cell? ⟨b, 2, none⟩ = some x2 := ⟨(Lib.cell_of_heap h 0).trans rfl, (Lib.cell_of_heap h 1).trans rfl, (Lib.cell_of_heap h 2).trans rfl⟩
theorem Rd.takeS {α:Type} {m:Nat} {enc:α→List Value} {w:World} {b off n c k:Nat} {l:List α} (h:Rd m enc w (.slice (some ⟨b,off,none⟩) n c) l) (hk:k≤l.length) (c':Nat):Rd m enc w (.slice (some ⟨b,off,none⟩) k c') (l.take k):=by
 obtain ⟨p,cap,hv,hc⟩:=h.ex
 injection hv with hp _ _
 subst hp
 refine ⟨_,c',by rw [List.length_take,Nat.min_eq_left hk],?_⟩
 rcases hc with rfl | ⟨b1,o1,he,hlt,hc⟩
 · exact .inl (by simp)
 · injection he with he
   injection he with e1 e2
   subst e1
   subst e2
   refine .inr ⟨_,_,rfl,hlt,fun i x hx j u hu=>hc i x ?_ j u hu⟩
   rw [List.getElem?_take] at hx
   split at hx
   · exact hx
   · cases hx
theorem Rd.dropS {α:Type} {m:Nat} {enc:α→List Value} {w:World} {b off n c k:Nat} {l:List α} (h:Rd m enc w (.slice (some ⟨b,off,none⟩) n c) l) (c':Nat):Rd m enc w (.slice (some ⟨b,off+k * m,none⟩) (l.length - k) c') (l.drop k):=by
 obtain ⟨p,cap,hv,hc⟩:=h.ex
 injection hv with hp _ _
 subst hp
 refine ⟨_,c',by rw [List.length_drop],?_⟩
 rcases hc with rfl | ⟨b1,o1,he,hlt,hc⟩
 · exact .inl (by simp)
 · injection he with he
   injection he with e1 e2
   subst e1
   subst e2
   refine .inr ⟨_,_,rfl,hlt,fun i x hx j u hu=> ?_⟩
   rw [List.getElem?_drop] at hx
   have:=hc (k+i) x hx j u hu
   rw [show off+k * m+i * m+j=off+(k+i) * m+j by rw [Nat.add_mul];omega]
   exact this
def tL (G:World→Prop):Prop:= ∀ (v:Value) (l:List Spn) (W:World),G W→Rd 2 je W v l→l.length≤1048576→(∀ t∈l,rgS t)→
 Calls Tryz.prog 102 #[v] W fun e w'=>e= .returned (.bool (setB l))∧Below W.heap.size W w'
theorem oB (n:Int) (w:World):
 Calls Tryz.prog 163 #[.int .i64 n] w fun e w'=>e= .returned (.bool (kE n))∧w=w':=by
 have hg:=aa9 (show kE n=(decide (0≤n) && decide (n≤999999999)) from rfl)
 go_enter Tryz.func163,Tryz.ntmps163
 cases h1:decide (0≤n) with
 | true=>
   have h1:0≤n:=of_decide_eq_true h1
   cases h2:decide (n≤999999999) with
   | true=>
     have h2:n≤999999999:=of_decide_eq_true h2
     go_wp2
     go_ret
     exact ⟨by rw [hg.out];simp [h1,h2],rfl⟩
   | false=>
     have h2: ¬n≤999999999:=of_decide_eq_false h2
     go_wp2
     go_ret
     exact ⟨by rw [hg.out];simp;omega,rfl⟩
 | false=>
   have h1: ¬0≤n:=of_decide_eq_false h1
   go_wp2
   go_ret
   exact ⟨by rw [hg.out];simp;omega,rfl⟩
theorem c6 (v:Value) (l:List Spn) (w:World) (hr:Rd 2 je w v l) (hl:l.length≤140737488355328):
 Calls Tryz.prog 102 #[v] w fun e w'=>e= .returned (.bool (setB l))∧Below w.heap.size w w':=by
 obtain ⟨p,c,rfl,hp⟩:=hr.ex
 have HP:=aa9 hp
 clear hp hr
 go_enter Tryz.func102,Tryz.ntmps102
 go_wp2
 go_loopw [7] (fun i wr=> ∃ k:Nat,k≤l.length∧i= .int .i64 k∧(l.take k).all kF=true∧Below w.heap.size w wr) (fun i _=>l.length - (intOf i).toNat)
 case atStart=>exact ⟨0,by omega,rfl,rfl,Below.refl _ _⟩
 case round=>
  obtain ⟨k,hk,rfl,hall,hbr⟩:=hrel
  have Hall:=aa9 hall
  have hbr0:=hbr.size
  clear hall
  by_cases hlt:k < l.length
  · obtain ⟨b,off,rfl,hb1,hcell⟩:=HP.out.resolve_left (by intro h;subst h;simp at hlt)
    obtain ⟨x,hx⟩: ∃ x,l[k]? =some x:=⟨_,List.getElem?_eq_getElem hlt⟩
    obtain ⟨e1',e2'⟩:=Rd.pair hcell hx
    have e1:wr.cell? ⟨b,off+k * 2,none⟩=some (.int .i64 x.low):=(hbr.cell (p:=⟨b,off+k * 2,none⟩) hb1).trans e1'
    have e2:wr.cell? ⟨b,off+k * 2+1,none⟩=some (.int .i64 x.high):=(hbr.cell (p:=⟨b,off+k * 2+1,none⟩) hb1).trans e2'
    have hbA:Below w.heap.size w (wr.alloc (.cells #[.int .i64 x.low,.int .i64 x.high] 62)):=hbr.alloc hbr0 _
    have c1:=fun W=>oB x.low W
    have c2:=fun W=>oB x.high W
    have HX:=aa9 hx
    clear e1' e2' hcell HP hx
    cases h1:kE x.low with
    | false=>
      have HV:=aa9 (show setB l=false by unfold setB;rw [d7 HX.out (by unfold kF;rw [h1];rfl)];rfl)
      rw [h1] at c1
      have C1:=aa9 c1
      clear c1 c2 h1
      go_wp2_with fail
      refine (C1.out _).mono ?_
      rintro e w' ⟨rfl,rfl⟩
      go_wp2
      go_ret
      exact ⟨by rw [HV.out];rfl,hbA⟩
    | true=>
      cases h2:kE x.high with
      | false=>
        have HV:=aa9 (show setB l=false by unfold setB;rw [d7 HX.out (by unfold kF;rw [h2];simp)];rfl)
        rw [h1] at c1
        rw [h2] at c2
        have C1:=aa9 c1
        have C2:=aa9 c2
        clear c1 c2 h1 h2
        go_wp2_with fail
        refine (C1.out _).mono ?_
        rintro e w' ⟨rfl,rfl⟩
        go_wp2_with fail
        refine (C2.out _).mono ?_
        rintro e w' ⟨rfl,rfl⟩
        go_wp2
        go_ret
        exact ⟨by rw [HV.out];rfl,hbA⟩
      | true=>
        have HA:=aa9 (show (l.take (k+1)).all kF=true by rw [jm HX.out,List.all_append,Hall.out];simp [kF,h1,h2])
        rw [h1] at c1
        rw [h2] at c2
        have C1:=aa9 c1
        have C2:=aa9 c2
        clear c1 c2 h1 h2
        go_wp2_with fail
        refine (C1.out _).mono ?_
        rintro e w' ⟨rfl,rfl⟩
        go_wp2_with fail
        refine (C2.out _).mono ?_
        rintro e w' ⟨rfl,rfl⟩
        go_wp2
        go_roundw
        case rel=>exact ⟨k+1,by omega,by go_num,HA.out,hbA⟩
        case measure=>simp [intOf];omega
  · obtain rfl:k=l.length:=by omega
    rw [List.take_length] at Hall
    have e1:(1≤l.length)=((1:Int)≤(l.length:Int)):=by rw [eq_iff_iff];omega
    have e2:(l.length≤5)=((l.length:Int)≤5):=by rw [eq_iff_iff];omega
    have HV:=aa9 (show setB l=(decide (1≤l.length) && decide (l.length≤5)) by
     unfold setB
     rw [Hall.out,Bool.true_and])
    clear e1 e2
    by_cases h1:(1:Int)≤(l.length:Int)
    · by_cases h2:(l.length:Int)≤5
      · go_wp2
        go_ret
        exact ⟨by rw [HV.out];simp;omega,hbr⟩
      · go_wp2
        go_ret
        exact ⟨by rw [HV.out];simp;omega,hbr⟩
    · go_wp2
      go_ret
      exact ⟨by rw [HV.out];simp;omega,hbr⟩
theorem vI:tL (fun _=>True):=fun v l w _ hr hl _=>c6 v l w hr (by omega)
theorem aaN (W:World):(Instr.typeAssert .nilIface 201 221 true).run Tryz.prog W= .ok (.tuple #[.agg #[],.bool false]) W:=by kernel_rfl
theorem aaO (W:World):(Instr.typeAssert .nilIface 201 222 true).run Tryz.prog W= .ok (.tuple #[.agg #[],.bool false]) W:=by kernel_rfl
theorem aaE (W:World):(Instr.typeAssert .nilIface 201 204 true).run Tryz.prog W= .ok (.tuple #[.agg #[.slice none 0 0],.bool false]) W:=by kernel_rfl
theorem aaF (W:World):(Instr.typeAssert .nilIface 201 206 true).run Tryz.prog W= .ok (.tuple #[.agg #[.slice none 0 0],.bool false]) W:=by kernel_rfl
theorem aaP (v:Value) (W:World):(Instr.typeAssert (.iface 221 v) 201 221 true).run Tryz.prog W= .ok (.tuple #[v,.bool true]) W:=by kernel_rfl
theorem aaQ (v:Value) (W:World):(Instr.typeAssert (.iface 221 v) 201 222 true).run Tryz.prog W= .ok (.tuple #[.agg #[],.bool false]) W:=by kernel_rfl
theorem aaR (v:Value) (W:World):(Instr.typeAssert (.iface 221 v) 201 204 true).run Tryz.prog W= .ok (.tuple #[.agg #[.slice none 0 0],.bool false]) W:=by kernel_rfl
theorem aaS (v:Value) (W:World):(Instr.typeAssert (.iface 221 v) 201 206 true).run Tryz.prog W= .ok (.tuple #[.agg #[.slice none 0 0],.bool false]) W:=by kernel_rfl
theorem aaT (v:Value) (W:World):(Instr.typeAssert (.iface 222 v) 201 221 true).run Tryz.prog W= .ok (.tuple #[.agg #[],.bool false]) W:=by kernel_rfl
theorem aaU (v:Value) (W:World):(Instr.typeAssert (.iface 222 v) 201 222 true).run Tryz.prog W= .ok (.tuple #[v,.bool true]) W:=by kernel_rfl
theorem aaV (v:Value) (W:World):(Instr.typeAssert (.iface 222 v) 201 204 true).run Tryz.prog W= .ok (.tuple #[.agg #[.slice none 0 0],.bool false]) W:=by kernel_rfl
theorem aaW (v:Value) (W:World):(Instr.typeAssert (.iface 222 v) 201 206 true).run Tryz.prog W= .ok (.tuple #[.agg #[.slice none 0 0],.bool false]) W:=by kernel_rfl
theorem aaX (v:Value) (W:World):(Instr.typeAssert (.iface 204 v) 201 221 true).run Tryz.prog W= .ok (.tuple #[.agg #[],.bool false]) W:=by kernel_rfl
theorem aaY (v:Value) (W:World):(Instr.typeAssert (.iface 204 v) 201 222 true).run Tryz.prog W= .ok (.tuple #[.agg #[],.bool false]) W:=by kernel_rfl
theorem aaG (v:Value) (W:World):(Instr.typeAssert (.iface 204 v) 201 204 true).run Tryz.prog W= .ok (.tuple #[v,.bool true]) W:=by kernel_rfl
theorem aaZ (v:Value) (W:World):(Instr.typeAssert (.iface 204 v) 201 206 true).run Tryz.prog W= .ok (.tuple #[.agg #[.slice none 0 0],.bool false]) W:=by kernel_rfl
theorem aa0 (v:Value) (W:World):(Instr.typeAssert (.iface 206 v) 201 221 true).run Tryz.prog W= .ok (.tuple #[.agg #[],.bool false]) W:=by kernel_rfl
theorem aa1 (v:Value) (W:World):(Instr.typeAssert (.iface 206 v) 201 222 true).run Tryz.prog W= .ok (.tuple #[.agg #[],.bool false]) W:=by kernel_rfl
theorem aaH (v:Value) (W:World):(Instr.typeAssert (.iface 206 v) 201 204 true).run Tryz.prog W= .ok (.tuple #[.agg #[.slice none 0 0],.bool false]) W:=by kernel_rfl
theorem aaI (v:Value) (W:World):(Instr.typeAssert (.iface 206 v) 201 206 true).run Tryz.prog W= .ok (.tuple #[v,.bool true]) W:=by kernel_rfl
theorem qi (vn:Value) (ev:Int) (w:World) (hv: ∃ p n c,vn= .slice p n c):
 Calls Tryz.prog 194 #[.agg #[.int .i64 1,vn,.int .i64 ev]] w fun e w'=>e= .returned (.iface 221 (.agg #[]))∧Below w.heap.size w w':=by
 obtain ⟨p,n,c,rfl⟩:=hv
 go_enter Tryz.func194,Tryz.ntmps194
 go_wp2
 go_ret
 exact ⟨rfl,(Below.refl _ _).alloc (Nat.le_refl _) _⟩
theorem qj (vn:Value) (ev:Int) (w:World) (hv: ∃ p n c,vn= .slice p n c):
 Calls Tryz.prog 194 #[.agg #[.int .i64 2,vn,.int .i64 ev]] w fun e w'=>e= .returned (.iface 222 (.agg #[]))∧Below w.heap.size w w':=by
 obtain ⟨p,n,c,rfl⟩:=hv
 go_enter Tryz.func194,Tryz.ntmps194
 go_wp2
 go_ret
 exact ⟨rfl,(Below.refl _ _).alloc (Nat.le_refl _) _⟩
theorem qk (vn:Value) (ev:Int) (w:World) (hv: ∃ p n c,vn= .slice p n c):
 Calls Tryz.prog 194 #[.agg #[.int .i64 3,vn,.int .i64 ev]] w fun e w'=>e= .returned (.iface 204 (.agg #[vn]))∧Below w.heap.size w w':=by
 obtain ⟨p,n,c,rfl⟩:=hv
 go_enter Tryz.func194,Tryz.ntmps194
 go_wp2
 go_ret
 exact ⟨rfl,(Below.refl _ _).alloc (Nat.le_refl _) _⟩
theorem ql (vn:Value) (ev:Int) (w:World) (hv: ∃ p n c,vn= .slice p n c):
 Calls Tryz.prog 194 #[.agg #[.int .i64 4,vn,.int .i64 ev]] w fun e w'=>e= .returned (.iface 206 (.agg #[vn]))∧Below w.heap.size w w':=by
 obtain ⟨p,n,c,rfl⟩:=hv
 go_enter Tryz.func194,Tryz.ntmps194
 go_wp2
 go_ret
 exact ⟨rfl,(Below.refl _ _).alloc (Nat.le_refl _) _⟩
theorem tM (kd:Int) (vn:Value) (ev:Int) (w:World) (hv: ∃ p n c,vn= .slice p n c) (t1:(kd==1)=false) (t2:(kd==2)=false) (t3:(kd==3)=false) (t4:(kd==4)=false):
 Calls Tryz.prog 194 #[.agg #[.int .i64 kd,vn,.int .i64 ev]] w fun e w'=>e= .returned .nilIface∧Below w.heap.size w w':=by
 obtain ⟨p,n,c,rfl⟩:=hv
 go_enter Tryz.func194,Tryz.ntmps194
 go_wp2
 go_ret
 exact ⟨rfl,(Below.refl _ _).alloc (Nat.le_refl _) _⟩
theorem oC (a b:Value) (l m:List (List UInt8)) (w:World) (ha:Rd1 sv w a l) (hb:Rd1 sv w b m) (hl:l.length≤140737488355328):
 Calls Tryz.prog 168 #[a,b] w fun e w'=>e= .returned (.bool (decide (l=m)))∧Below w.heap.size w w':=by
 obtain ⟨p,c1,rfl,hp⟩:=ha.ex
 obtain ⟨q,c2,rfl,hq⟩:=hb.ex
 clear ha hb
 have HP:=aa9 hp
 have HQ:=aa9 hq
 clear hp hq
 by_cases hlen:l.length=m.length
 · rw [←hlen]
   have HL:=aa9 hlen
   clear hlen
   go_enter Tryz.func168,Tryz.ntmps168
   go_wp2
   go_loopw [5,13] (fun u i wr=> ∃ k:Nat,k≤l.length∧i= .int .i64 k∧l.take k=m.take k∧Below w.heap.size w wr) (fun u i _=>l.length - (intOf i).toNat)
   case atStart=>exact ⟨0,by omega,rfl,rfl,Below.refl _ _⟩
   case round=>
    obtain ⟨k,hk,rfl,hall,hbr⟩:=hrel
    have Hall:=aa9 hall
    clear hall
    by_cases hlt:k < l.length
    · obtain ⟨b1,o1,rfl,hb1,hc1⟩:=HP.out.resolve_left (by intro h;subst h;simp at hlt)
      obtain ⟨b2,o2,rfl,hb2,hc2⟩:=HQ.out.resolve_left (by intro h;have hlen:=HL.out;rw [h] at hlen;simp at hlen;simp [hlen] at hlt)
      obtain ⟨x,hx⟩: ∃ x,l[k]? =some x:=⟨_,List.getElem?_eq_getElem hlt⟩
      obtain ⟨y,hy⟩: ∃ y,m[k]? =some y:=⟨_,List.getElem?_eq_getElem (by have:=HL.out;omega)⟩
      have e1:wr.drew.cell? ⟨b1,o1+k,none⟩=some (sv x):=(hbr.cell (p:=⟨b1,o1+k,none⟩) hb1).trans (hc1 k x hx)
      have e2:wr.drew.cell? ⟨b2,o2+k,none⟩=some (sv y):=(hbr.cell (p:=⟨b2,o2+k,none⟩) hb2).trans (hc2 k y hy)
      cases h1:(x==y) with
      | false=>
        have HV:=aa9 (show decide (l=m)=false from decide_eq_false (cQ hx hy (by intro e;rw [e] at h1;simp at h1)))
        clear hc1 hc2 hx hy HP HQ HL Hall
        go_wp2
        refine ah oL0 (fun W=>W.cell? ⟨b1,o1+k,none⟩=some (sv x)∧W.cell? ⟨b2,o2+k,none⟩=some (sv y)) (by kernel_rfl) (by kernel_rfl) rfl (by kernel_rfl) ?_
        intro ops' hops
        clear hops
        simp only [oL0,List.map_cons,List.map_nil,ae,ag]
        iterate 9 (refine aa ?_ (fun _ _ _ h=>h) rfl ?_ ⟨e1,e2⟩ ?_;rotate_left;focus (intro W hS;obtain ⟨s1,s2⟩:=hS;go_simp;rfl))
        refine ai ?_
        go_simp
        go_wp2
        go_ret
        exact ⟨by rw [HV.out];rfl,hbr.drew⟩
      | true=>
        obtain rfl:x=y:=by simpa using h1
        have HN:=aa9 (cc hx hy Hall.out)
        clear hc1 hc2 hx hy Hall
        go_wp2
        refine ah oL0 (fun W=>W.cell? ⟨b1,o1+k,none⟩=some (sv x)∧W.cell? ⟨b2,o2+k,none⟩=some (sv x)) (by kernel_rfl) (by kernel_rfl) rfl (by kernel_rfl) ?_
        intro ops' hops
        clear hops
        simp only [oL0,List.map_cons,List.map_nil,ae,ag]
        iterate 9 (refine aa ?_ (fun _ _ _ h=>h) rfl ?_ ⟨e1,e2⟩ ?_;rotate_left;focus (intro W hS;obtain ⟨s1,s2⟩:=hS;go_simp;rfl))
        refine ai ?_
        go_simp
        go_wp2
        go_roundw
        case rel=>exact ⟨k+1,by omega,by go_num,HN.out,hbr.drew⟩
        case measure=>simp [intOf];omega
    · obtain rfl:k=l.length:=by omega
      have HV:=aa9 (show decide (l=m)=true from decide_eq_true (by have:=Hall.out;rw [List.take_length,HL.out,List.take_length] at this;exact this))
      clear HL
      go_wp2
      go_ret
      exact ⟨by rw [HV.out];rfl,hbr⟩
 · have HV:=aa9 (show decide (l=m)=false from decide_eq_false (fun e=>hlen (by rw [e])))
   have hne:((l.length:Int)==(m.length:Int))=false:=cFalse (by omega)
   have hnn:=dm hne
   go_enter Tryz.func168,Tryz.ntmps168
   go_wp2
   go_ret
   exact ⟨by rw [HV.out];rfl,Below.refl _ _⟩
theorem oD {W:World} {b:Nat} {x0 x1 x2:Value} {T:TypeId} (h:W.heap[b]? =some (.cells #[x0,x1,x2] T (0,0))):
 W.cell? ⟨b,0,none⟩=some x0∧W.cell? ⟨b,1,none⟩=some x1∧W.cell? ⟨b,2,none⟩=some x2:=
 (cC3 h)
theorem nl {W:World} {b:Nat} {x0 x1:Value} {T:TypeId} (h:W.heap[b]? =some (.cells #[x0,x1] T (0,0))):
 W.cell? ⟨b,0,none⟩=some x0∧W.cell? ⟨b,1,none⟩=some x1:=
 ⟨(aa8 h 0).trans rfl,(aa8 h 1).trans rfl⟩
theorem aaJ {l:List Scp} {s:Scp} (h:s∈l):s.names.length+szl s.names≤scw l:=by
 induction l with
 | nil=>cases h
 | cons a l ih=>
   have e:scw (a::l)=a.names.length+szl a.names+scw l:=rfl
   rcases List.mem_cons.1 h with rfl | h
   · omega
   · have:=ih h;omega
def c7 (v:Value):Prop:= ∀ p n c,v= .slice p n c→n≤c
theorem c7.of_own {W:World} {B m n:Nat} {e:TypeId} {v:Value} {xs:List Value} (h:W.ownsRow B e m v n xs):c7 v:=by
 intro p k c hv
 rcases h.2 with ⟨h1,h0⟩ | ⟨b,cap,cur,h1,_,_,hcap,_⟩
 · rw [h1] at hv;injection hv with _ h2 h3;omega
 · rw [h1] at hv;injection hv with _ h2 h3;omega
theorem vJ {w w':World} (h:Below w.drew.heap.size w.drew w'):Below w.heap.size w w':=(Below.refl _ _).drew.trans h
def qm (G:World→Prop):Prop:= ∀ (s:Scp) (vn:Value) (W:World),G W→Rd1 sv W vn s.names→s.names.length≤1048576→(∀ x∈s.names,x.length≤1048576)→bW s.kind→bW s.events→
 Calls Tryz.prog 164 #[.agg #[.int .i64 s.kind,vn,.int .i64 s.events]] W fun e w'=>e= .returned (.bool (bp s))∧Below W.heap.size W w'
def oE (G:World→Prop):Prop:= ∀ (f:Flt) (vs:Value) (W:World),G W→az W (aj f.scopes) vs→f.scopes.length≤1048576→(∀ s∈f.scopes,s.names.length≤1048576∧ ∀ x∈s.names,x.length≤1048576)→(∀ s∈f.scopes,bW s.kind∧bW s.events)→
 Calls Tryz.prog 104 #[.agg #[.bool f.on,vs]] W fun e w'=>e= .returned (.bool (aN f))∧Below W.heap.size W w'
def kW (l:List (List UInt8)):Bool:=iA l && (decide ((1:Int)≤(l.length:Int)) && decide ((l.length:Int)≤3))
def gP (s:Scp):Bool:=if s.kind=1∨s.kind=2 then decide (s.names.length=0) else if s.kind=3∨s.kind=4 then kW s.names else false
theorem oF (s:Scp):bp s=(gP s && (decide (1≤s.events) && decide (s.events≤15))):=by
 obtain ⟨kd,names,ev⟩:=s
 unfold bp gP kW
 simp only
 generalize (decide (1≤ev) && decide (ev≤15))=A
 generalize iA names=B
 generalize (decide ((1:Int)≤(names.length:Int)) && decide ((names.length:Int)≤3))=C
 by_cases h1:kd=1
 · subst h1;cases A <;> simp
 by_cases h2:kd=2
 · subst h2;cases A <;> simp
 by_cases h3:kd=3
 · subst h3;cases A <;> simp
 by_cases h4:kd=4
 · subst h4;cases A <;> simp
 have:(decide (1≤kd) && decide (kd≤4))=false:=by
  rw [Bool.and_eq_false_iff]
  by_cases h:1≤kd
  · right;exact decide_eq_false (by omega)
  · left;exact decide_eq_false h
 rw [this]
 simp [h1,h2,h3,h4]
theorem oG (v:Value) (l:List (List UInt8)) (w:World) (hr:Rd1 sv w v l) (hl:l.length≤1048576) (hx: ∀ x∈l,x.length≤1048576):
 Calls Tryz.prog 220 #[v] w fun e w'=>e= .returned (.bool (kW l))∧Below w.heap.size w w':=by
 obtain ⟨p,c,rfl,hp⟩:=hr.ex
 have HP:=aa9 hp
 have HX:=aa9 hx
 clear hp hr hx
 go_enter Tryz.func220,Tryz.ntmps220
 go_wp2
 go_loopw [3,4,7] (fun u3 u4 i wr=> ∃ k:Nat,k≤l.length∧i= .int .i64 k∧(List.range k).all (kR l)=true∧Below w.heap.size w wr) (fun u3 u4 i _=>l.length - (intOf i).toNat)
 case atStart=>exact ⟨0,by omega,rfl,rfl,Below.refl _ _⟩
 case round=>
  obtain ⟨k,hk,rfl,hall,hbr⟩:=hrel
  have Hall:=aa9 hall
  clear hall
  by_cases hlt:k < l.length
  · obtain ⟨b,off,rfl,hb,hcell⟩:=HP.out.resolve_left (by intro h;subst h;simp at hlt)
    obtain ⟨x,hx⟩: ∃ x,l[k]? =some x:=⟨_,List.getElem?_eq_getElem hlt⟩
    have f1:wr.cell? ⟨b,off+k,none⟩=some (sv x):=(hbr.cell (p:=⟨b,off+k,none⟩) hb).trans (hcell k x hx)
    have c4: ∀ W,Calls Tryz.prog 100 #[sv x] W fun e w'=>e= .returned (.bool (aH x))∧Below W.heap.size W w':=fun W=>by have:=bP ⟨x.toArray⟩ W (by unfold maxLen;show x.toArray.size≤_;have:=HX.out x (List.mem_of_getElem? hx);simp;omega);simpa using this
    cases h4:aH x with
    | false=>
      have fz: ∀ W,Below w.heap.size w W→k=0→W.cell? ⟨b,off,none⟩=some (sv x):=fun W h hk=>by subst hk;exact (h.cell (p:=⟨b,off,none⟩) hb).trans (hcell 0 x hx)
      have FZ:=aa9 fz
      clear fz
      have HV:=aa9 (show kW l=false by unfold kW;rw [eS hlt (by cases k with | zero=>rw [fS hx,h4] | succ j=>(obtain ⟨y,hy⟩: ∃ y,l[j]? =some y:=⟨_,List.getElem?_eq_getElem (by omega)⟩);rw [iB hy hx,h4];rfl)];rfl)
      rw [h4] at c4
      have C4:=aa9 c4
      clear c4 h4 hcell hx HP HX Hall
      cases k with
      | zero=>
        have fz:=FZ.out wr hbr rfl
        clear FZ f1
        go_wp2_with fail
        refine (C4.out _).mono ?_
        rintro e w1 ⟨rfl,b1⟩
        have hb2:=hbr.trans (b1.mono hbr.size)
        clear b1
        go_wp2
        go_ret
        exact ⟨by rw [HV.out];rfl,hb2⟩
      | succ j=>
        clear FZ
        go_wp2_with fail
        refine (C4.out _).mono ?_
        rintro e w1 ⟨rfl,b1⟩
        have hb2:=hbr.trans (b1.mono hbr.size)
        clear b1
        go_wp2
        go_ret
        exact ⟨by rw [HV.out];rfl,hb2⟩
    | true=>
      rw [h4] at c4
      have C4:=aa9 c4
      cases k with
      | zero=>
        have HN:=aa9 (dB Hall.out (by rw [fS hx,h4]))
        have fz:wr.cell? ⟨b,off,none⟩=some (sv x):=f1
        clear c4 h4 hcell hx Hall f1
        go_wp2_with fail
        refine (C4.out _).mono ?_
        rintro e w1 ⟨rfl,b1⟩
        have hb2:=hbr.trans (b1.mono hbr.size)
        clear b1
        go_wp2
        go_round
        case rel=>exact ⟨1,by omega,by go_num,HN.out,hb2⟩
        case measure=>simp [intOf];omega
      | succ j=>
        obtain ⟨y,hy⟩: ∃ y,l[j]? =some y:=⟨_,List.getElem?_eq_getElem (by omega)⟩
        have f0: ∀ W,Below w.heap.size w W→W.cell? ⟨b,off+j,none⟩=some (sv y):=fun W h=>(h.cell (p:=⟨b,off+j,none⟩) hb).trans (hcell j y hy)
        have F0:=aa9 f0
        clear f0
        have hstep:=iB hy hx
        cases h5:Op.bytesLess y x with
        | false=>
          have HV:=aa9 (show kW l=false by unfold kW;rw [eS hlt (by rw [hstep,h5,Bool.and_false])];rfl)
          clear c4 h4 hcell hx hy HP HX Hall hstep
          go_wp2_with fail
          refine (C4.out _).mono ?_
          rintro e w1 ⟨rfl,b1⟩
          have hb2:=hbr.trans (b1.mono hbr.size)
          clear b1
          have f0:=F0.out _ hb2
          clear F0
          go_wp2
          go_ret
          exact ⟨by rw [HV.out];rfl,hb2⟩
        | true=>
          have HN:=aa9 (dB Hall.out (by rw [hstep,h4,h5];rfl))
          clear c4 h4 hcell hx hy Hall hstep
          go_wp2_with fail
          refine (C4.out _).mono ?_
          rintro e w1 ⟨rfl,b1⟩
          have hb2:=hbr.trans (b1.mono hbr.size)
          clear b1
          have f0:=F0.out _ hb2
          clear F0
          go_wp2
          go_round
          case rel=>exact ⟨j+2,by omega,by go_num,HN.out,hb2⟩
          case measure=>simp [intOf];omega
  · obtain rfl:k=l.length:=by omega
    have HV:=aa9 (show kW l=(decide ((1:Int)≤(l.length:Int)) && decide ((l.length:Int)≤3)) by unfold kW;rw [show iA l=true from Hall.out,Bool.true_and])
    clear Hall HP HX
    by_cases h1:(1:Int)≤(l.length:Int)
    · have HV2:=aa9 (HV.out.trans (by rw [decide_eq_true h1,Bool.true_and]))
      go_wp2
      go_ret
      exact ⟨by rw [HV2.out];rfl,hbr⟩
    · have HV2:=aa9 (HV.out.trans (by rw [decide_eq_false h1,Bool.false_and]))
      go_wp2
      go_ret
      exact ⟨by rw [HV2.out];rfl,hbr⟩
theorem l5 (s:Scp) (vn:Value) (w:World) (hr:Rd1 sv w vn s.names) (hl:s.names.length≤1048576) (hx: ∀ x∈s.names,x.length≤1048576):
 Calls Tryz.prog 201 #[.agg #[.int .i64 s.kind,vn,.int .i64 s.events]] w fun e w'=>e= .returned (.bool (gP s))∧Below w.heap.size w w':=by
 obtain ⟨kd,names,ev⟩:=s
 simp only at *
 have hr0:=hr
 obtain ⟨p,c,rfl,hp⟩:=hr.ex
 have hb1:Below w.heap.size w (w.alloc (.cells #[.int .i64 kd,.slice p names.length c,.int .i64 ev] 123)):=(Below.refl _ _).alloc (Nat.le_refl _) _
 have hA:(w.alloc (.cells #[.int .i64 kd,.slice p names.length c,.int .i64 ev] 123)).heap[w.heap.size]? =some (.cells #[.int .i64 kd,.slice p names.length c,.int .i64 ev] 123 (0,0)):=heap_alloc_new w _
 have HA:=aa9 hA
 have hz1:(w.alloc (.cells #[.int .i64 kd,.slice p names.length c,.int .i64 ev] 123)).heap.size=w.heap.size+1:=by simp
 have HZ:=aa9 hz1
 have C4:=aa9 (fun W (h:Below w.heap.size w W)=>oG (.slice p names.length c) names W (hr0.below h) hl hx)
 have hsl: ∃ q n d,Value.slice p names.length c= .slice q n d:=⟨_,_,_,rfl⟩
 clear hr hr0 hp hx hA hz1 hl
 by_cases k1:kd=1
 · subst k1
   have HV:=aa9 (show gP ⟨1,names,ev⟩=decide (names.length=0) from rfl)
   have C:=aa9 (fun W=>qi (.slice p names.length c) ev W hsl)
   clear hsl C4
   have a1:=aaP
   have a2:=aaQ
   by_cases h0:names.length=0
   · have hz:((names.length:Int)==0)=true:=by simp [h0]
     have HV2:=aa9 (HV.out.trans (decide_eq_true h0))
     clear h0 HV
     go_enter Tryz.func201,Tryz.ntmps201
     go_wp2_with fail
     refine (C.out _).mono ?_
     rintro e w1 ⟨rfl,b1⟩
     have q1:w1.cell? ⟨w.heap.size,1,none⟩=some (.slice p names.length c):=(aa8 ((b1.block w.heap.size (by rw [HZ.out];omega)).trans HA.out) 1).trans rfl
     have hb2:=hb1.trans (b1.mono (by rw [HZ.out];omega))
     clear C b1 hb1
     go_wp2
     go_ret
     exact ⟨by rw [HV2.out];rfl,hb2⟩
   · have hz:((names.length:Int)==0)=false:=cFalse (by omega)
     have HV2:=aa9 (HV.out.trans (decide_eq_false h0))
     clear h0 HV
     go_enter Tryz.func201,Tryz.ntmps201
     go_wp2_with fail
     refine (C.out _).mono ?_
     rintro e w1 ⟨rfl,b1⟩
     have q1:w1.cell? ⟨w.heap.size,1,none⟩=some (.slice p names.length c):=(aa8 ((b1.block w.heap.size (by rw [HZ.out];omega)).trans HA.out) 1).trans rfl
     have hb2:=hb1.trans (b1.mono (by rw [HZ.out];omega))
     clear C b1 hb1
     go_wp2
     go_ret
     exact ⟨by rw [HV2.out];rfl,hb2⟩
 by_cases k2:kd=2
 · subst k2
   have HV:=aa9 (show gP ⟨2,names,ev⟩=decide (names.length=0) from rfl)
   have C:=aa9 (fun W=>qj (.slice p names.length c) ev W hsl)
   clear hsl C4
   have a1:=aaT
   have a2:=aaU
   by_cases h0:names.length=0
   · have hz:((names.length:Int)==0)=true:=by simp [h0]
     have HV2:=aa9 (HV.out.trans (decide_eq_true h0))
     clear h0 HV
     go_enter Tryz.func201,Tryz.ntmps201
     go_wp2_with fail
     refine (C.out _).mono ?_
     rintro e w1 ⟨rfl,b1⟩
     have q1:w1.cell? ⟨w.heap.size,1,none⟩=some (.slice p names.length c):=(aa8 ((b1.block w.heap.size (by rw [HZ.out];omega)).trans HA.out) 1).trans rfl
     have hb2:=hb1.trans (b1.mono (by rw [HZ.out];omega))
     clear C b1 hb1
     go_wp2
     go_ret
     exact ⟨by rw [HV2.out];rfl,hb2⟩
   · have hz:((names.length:Int)==0)=false:=cFalse (by omega)
     have HV2:=aa9 (HV.out.trans (decide_eq_false h0))
     clear h0 HV
     go_enter Tryz.func201,Tryz.ntmps201
     go_wp2_with fail
     refine (C.out _).mono ?_
     rintro e w1 ⟨rfl,b1⟩
     have q1:w1.cell? ⟨w.heap.size,1,none⟩=some (.slice p names.length c):=(aa8 ((b1.block w.heap.size (by rw [HZ.out];omega)).trans HA.out) 1).trans rfl
     have hb2:=hb1.trans (b1.mono (by rw [HZ.out];omega))
     clear C b1 hb1
     go_wp2
     go_ret
     exact ⟨by rw [HV2.out];rfl,hb2⟩
 by_cases k3:kd=3
 · subst k3
   have HV:=aa9 (show gP ⟨3,names,ev⟩=kW names from rfl)
   have C:=aa9 (fun W=>qk (.slice p names.length c) ev W hsl)
   clear hsl
   have a1:=aaX
   have a2:=aaY
   have a3:=aaG
   go_enter Tryz.func201,Tryz.ntmps201
   go_wp2_with fail
   refine (C.out _).mono ?_
   rintro e w1 ⟨rfl,b1⟩
   have hb2:=hb1.trans (b1.mono (by rw [HZ.out];omega))
   clear C b1 hb1 HA HZ
   go_wp2_with fail
   refine (C4.out _ (hb2.alloc hb2.size _)).mono ?_
   rintro e w2 ⟨rfl,b2⟩
   have hb3:=(hb2.alloc hb2.size _).trans (b2.mono (by have:=hb2.size;simp;omega))
   clear b2
   go_wp2
   go_ret
   exact ⟨by rw [HV.out];rfl,hb3⟩
 by_cases k4:kd=4
 · subst k4
   have HV:=aa9 (show gP ⟨4,names,ev⟩=kW names from rfl)
   have C:=aa9 (fun W=>ql (.slice p names.length c) ev W hsl)
   clear hsl
   have a1:=aa0
   have a2:=aa1
   have a3:=aaH
   have a4:=aaI
   go_enter Tryz.func201,Tryz.ntmps201
   go_wp2_with fail
   refine (C.out _).mono ?_
   rintro e w1 ⟨rfl,b1⟩
   have hb2:=hb1.trans (b1.mono (by rw [HZ.out];omega))
   clear C b1 hb1 HA HZ
   go_wp2_with fail
   refine (C4.out _ (hb2.alloc hb2.size _)).mono ?_
   rintro e w2 ⟨rfl,b2⟩
   have hb3:=(hb2.alloc hb2.size _).trans (b2.mono (by have:=hb2.size;simp;omega))
   clear b2
   go_wp2
   go_ret
   exact ⟨by rw [HV.out];rfl,hb3⟩
 have HV:=aa9 (show gP ⟨kd,names,ev⟩=false by simp [gP,k1,k2,k3,k4])
 have C:=aa9 (fun W=>tM kd (.slice p names.length c) ev W hsl (by rw [beq_eq_false_iff_ne];exact k1) (by rw [beq_eq_false_iff_ne];exact k2) (by rw [beq_eq_false_iff_ne];exact k3) (by rw [beq_eq_false_iff_ne];exact k4))
 clear hsl k1 k2 k3 k4 C4
 have a1:=aaN
 have a2:=aaO
 have a3:=aaE
 have a4:=aaF
 go_enter Tryz.func201,Tryz.ntmps201
 go_wp2_with fail
 refine (C.out _).mono ?_
 rintro e w1 ⟨rfl,b1⟩
 have hb2:=hb1.trans (b1.mono (by rw [HZ.out];omega))
 clear C b1 hb1 HA HZ
 go_wp2
 go_ret
 exact ⟨by rw [HV.out];rfl,hb2⟩
theorem kX:qm (fun _=>True):=by
 intro s vn w _ hr hl hx _ _
 obtain ⟨kd,names,ev⟩:=s
 simp only at *
 have hr0:=hr
 obtain ⟨p,c,rfl,hp⟩:=hr.ex
 have hb1:Below w.heap.size w (w.alloc (.cells #[.int .i64 kd,.slice p names.length c,.int .i64 ev] 123)):=(Below.refl _ _).alloc (Nat.le_refl _) _
 have hA:(w.alloc (.cells #[.int .i64 kd,.slice p names.length c,.int .i64 ev] 123)).heap[w.heap.size]? =some (.cells #[.int .i64 kd,.slice p names.length c,.int .i64 ev] 123 (0,0)):=heap_alloc_new w _
 have HA:=aa9 hA
 have hz1:(w.alloc (.cells #[.int .i64 kd,.slice p names.length c,.int .i64 ev] 123)).heap.size=w.heap.size+1:=by simp
 have HZ:=aa9 hz1
 have c4:=fun W (h:Below w.heap.size w W)=>l5 ⟨kd,names,ev⟩ (.slice p names.length c) W (hr0.below h) hl hx
 have hsc:=oF ⟨kd,names,ev⟩
 simp only at c4 hsc
 clear hr hr0 hp hx hA hz1 hl
 cases h1:gP ⟨kd,names,ev⟩ with
 | false=>
   rw [h1] at c4 hsc
   have HV:=aa9 (show bp ⟨kd,names,ev⟩=false from hsc)
   have C4:=aa9 c4
   clear c4 hsc h1
   go_enter Tryz.func164,Tryz.ntmps164
   go_wp2_with fail
   refine (C4.out _ hb1).mono ?_
   rintro e w1 ⟨rfl,b1⟩
   have hb2:=hb1.trans (b1.mono (by rw [HZ.out];omega))
   clear C4 b1 hb1 HA HZ
   go_wp2
   go_ret
   exact ⟨by rw [HV.out];rfl,hb2⟩
 | true=>
   rw [h1] at c4 hsc
   have C4:=aa9 c4
   by_cases e1:1≤ev
   · have HV:=aa9 (show bp ⟨kd,names,ev⟩=decide (ev≤15) by rw [hsc,decide_eq_true e1];simp)
     clear c4 hsc h1
     go_enter Tryz.func164,Tryz.ntmps164
     go_wp2_with fail
     refine (C4.out _ hb1).mono ?_
     rintro e w1 ⟨rfl,b1⟩
     have q2:w1.cell? ⟨w.heap.size,2,none⟩=some (.int .i64 ev):=(aa8 ((b1.block w.heap.size (by rw [HZ.out];omega)).trans HA.out) 2).trans rfl
     have hb2:=hb1.trans (b1.mono (by rw [HZ.out];omega))
     clear C4 b1 hb1 HA HZ
     go_wp2
     go_ret
     exact ⟨by rw [HV.out];rfl,hb2⟩
   · have HV:=aa9 (show bp ⟨kd,names,ev⟩=false by rw [hsc,decide_eq_false e1];simp)
     clear c4 hsc h1
     go_enter Tryz.func164,Tryz.ntmps164
     go_wp2_with fail
     refine (C4.out _ hb1).mono ?_
     rintro e w1 ⟨rfl,b1⟩
     have q2:w1.cell? ⟨w.heap.size,2,none⟩=some (.int .i64 ev):=(aa8 ((b1.block w.heap.size (by rw [HZ.out];omega)).trans HA.out) 2).trans rfl
     have hb2:=hb1.trans (b1.mono (by rw [HZ.out];omega))
     clear C4 b1 hb1 HA HZ
     go_wp2
     go_ret
     exact ⟨by rw [HV.out];rfl,hb2⟩
theorem dK:oE (fun _=>True):=by
 intro f vs w _ hr hl hx hi
 obtain ⟨on,l⟩:=f
 simp only at *
 obtain ⟨p,c,rfl,hp⟩:=cq hr
 have HX:=aa9 hx
 have HI:=aa9 hi
 have hb1:Below w.heap.size w (w.alloc (.cells #[.bool on,.slice p l.length c] 27)):=(Below.refl _ _).alloc (Nat.le_refl _) _
 have hA:(w.alloc (.cells #[.bool on,.slice p l.length c] 27)).heap[w.heap.size]? =some (.cells #[.bool on,.slice p l.length c] 27 (0,0)):=heap_alloc_new w _
 have HA:=aa9 hA
 have hz1:(w.alloc (.cells #[.bool on,.slice p l.length c] 27)).heap.size=w.heap.size+1:=by simp
 have HZ:=aa9 hz1
 have HP:=aa9 hp
 clear hr hp hx hA hz1 hi
 cases on with
 | false=>
   have hfb:aN ⟨false,l⟩=decide (l.length=0):=by
    unfold aN
    cases l with
    | nil=>rfl
    | cons a t=>simp
   by_cases h0:l.length=0
   · have hz:((l.length:Int)==0)=true:=by simp [h0]
     have HV2:=aa9 (hfb.trans (decide_eq_true h0))
     clear h0 hfb
     go_enter Tryz.func104,Tryz.ntmps104
     go_wp2
     go_ret
     exact ⟨by rw [HV2.out];rfl,hb1⟩
   · have hz:((l.length:Int)==0)=false:=cFalse (by omega)
     have HV2:=aa9 (hfb.trans (decide_eq_false h0))
     clear h0 hfb
     go_enter Tryz.func104,Tryz.ntmps104
     go_wp2
     go_ret
     exact ⟨by rw [HV2.out];rfl,hb1⟩
 | true=>
   have hbb:Below (w.heap.size+1) (w.alloc (.cells #[.bool true,.slice p l.length c] 27)) (w.alloc (.cells #[.bool true,.slice p l.length c] 27)):=Below.refl _ _
   go_enter Tryz.func104,Tryz.ntmps104
   go_wp2
   go_loopw [4,15] (fun u4 i wr=> ∃ k:Nat,k≤l.length∧i= .int .i64 k∧(l.take k).all bp=true∧Below (w.heap.size+1) (w.alloc (.cells #[.bool true,.slice p l.length c] 27)) wr) (fun u4 i _=>l.length - (intOf i).toNat)
   case atStart=>exact ⟨0,by omega,rfl,rfl,hbb⟩
   case round=>
    obtain ⟨k,hk,rfl,hall,hbr⟩:=hrel
    have hbw:=hb1.trans (hbr.mono (by omega))
    have hzr:w.heap.size+1≤wr.heap.size:=by have:=hbr.size;rw [HZ.out] at this;exact this
    have q1:wr.cell? ⟨w.heap.size,1,none⟩=some (.slice p l.length c):=(aa8 ((hbr.block w.heap.size (by omega)).trans HA.out) 1).trans rfl
    have Hall:=aa9 hall
    clear hall hbb hb1
    by_cases hlt:k < l.length
    · obtain ⟨b,off,rfl,hb,hcell⟩:=HP.out.resolve_left (by intro h;subst h;simp at hlt)
      obtain ⟨s,hs⟩: ∃ s,l[k]? =some s:=⟨_,List.getElem?_eq_getElem hlt⟩
      have hsl:=HX.out s (List.mem_of_getElem? hs)
      have hsi:=HI.out s (List.mem_of_getElem? hs)
      obtain ⟨v1,n1,x0,x1,x2⟩:=hcell k s hs
      obtain ⟨p1,c1,rfl,_⟩:=n1.ex
      have e0:wr.cell? ⟨b,off+k * 3,none⟩=some (.int .i64 s.kind):=(hbw.cell (p:=⟨b,off+k * 3,none⟩) hb).trans x0
      have e1:wr.cell? ⟨b,off+k * 3+1,none⟩=some (.slice p1 s.names.length c1):=(hbw.cell (p:=⟨b,off+k * 3+1,none⟩) hb).trans x1
      have e2:wr.cell? ⟨b,off+k * 3+2,none⟩=some (.int .i64 s.events):=(hbw.cell (p:=⟨b,off+k * 3+2,none⟩) hb).trans x2
      have c4:=fun W (h:Below w.heap.size w W)=>kX s (.slice p1 s.names.length c1) W trivial (n1.below h) hsl.1 hsl.2 hsi.1 hsi.2
      cases h4:bp s with
      | false=>
        have HV:=aa9 (show aN ⟨true,l⟩=false from kT (f:=⟨true,l⟩) hs h4)
        rw [h4] at c4
        have C4:=aa9 c4
        clear c4 hs HP hcell h4 x0 x1 x2 n1 HA HX Hall HI hsi hsl
        go_wp2_with fail
        refine (C4.out _ (hbw.alloc hbw.size _)).mono ?_
        rintro e w1 ⟨rfl,b1⟩
        have hb2:=(hbw.alloc hbw.size _).trans (b1.mono (by simp;omega))
        clear b1
        go_wp2
        go_ret
        exact ⟨by rw [HV.out];rfl,hb2⟩
      | true=>
        have HN:=aa9 (iC hs Hall.out h4)
        rw [h4] at c4
        have C4:=aa9 c4
        clear c4 hs hcell h4 x0 x1 x2 n1 Hall hsi hsl
        go_wp2_with fail
        refine (C4.out _ (hbw.alloc hbw.size _)).mono ?_
        rintro e w1 ⟨rfl,b1⟩
        have hb2:=(hbr.alloc hzr _).trans (b1.mono (by simp;omega))
        clear b1 hbr q1 e0 e1 e2 C4 hbw
        go_wp2
        go_roundw
        case rel=>exact ⟨k+1,by omega,by go_num,HN.out,hb2⟩
        case measure=>simp [intOf];omega
    · obtain rfl:k=l.length:=by omega
      rw [List.take_length] at Hall
      have HV:=aa9 (show aN ⟨true,l⟩=(decide ((1:Int)≤(l.length:Int)) && decide ((l.length:Int)≤3)) by unfold aN;rw [Hall.out];rfl)
      clear Hall HP HX HI
      by_cases h1:(1:Int)≤(l.length:Int)
      · have HV2:=aa9 (HV.out.trans (by rw [decide_eq_true h1,Bool.true_and]))
        go_wp2
        go_ret
        exact ⟨by rw [HV2.out];rfl,hbw⟩
      · have HV2:=aa9 (HV.out.trans (by rw [decide_eq_false h1,Bool.false_and]))
        go_wp2
        go_ret
        exact ⟨by rw [HV2.out];rfl,hbw⟩
end Go.Proofs.YtmlgkoeacbeopaaGreatDoor
