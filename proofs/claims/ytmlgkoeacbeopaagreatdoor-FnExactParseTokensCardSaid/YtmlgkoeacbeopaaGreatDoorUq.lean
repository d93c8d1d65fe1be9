/- Uq -/
import Derived.Test.YtmlgkoeacbeopaaGreatDoorUe
import Derived.Test.YtmlgkoeacbeopaaGreatDoorUi
set_option maxHeartbeats 6400000
namespace Go.Proofs.YtmlgkoeacbeopaaGreatDoor
open Go.RowKit
def l6 (G:World→Prop):Prop:= ∀ (f g:Flt) (va vb:Value) (W:World),G W→az W (aj f.scopes) va→az W (aj g.scopes) vb→f.scopes.length≤1048576→g.scopes.length≤1048576→(∀ s∈f.scopes,s.names.length≤1048576∧ ∀ x∈s.names,x.length≤1048576)→(∀ s∈g.scopes,s.names.length≤1048576∧ ∀ x∈s.names,x.length≤1048576)→(∀ s∈f.scopes,bW s.kind∧bW s.events)→(∀ s∈g.scopes,bW s.kind∧bW s.events)→
 Calls Tryz.prog 45 #[.agg #[.bool f.on,va],.agg #[.bool g.on,vb]] W fun e w'=>e= .returned (.bool (decide (f=g)))∧Below W.heap.size W w'
theorem nt (s t:Scp) (va vb:Value) (w:World) (ha:Rd1 sv w va s.names) (hb:Rd1 sv w vb t.names) (hl:s.names.length≤140737488355328):
 Calls Tryz.prog 110 #[.agg #[.int .i64 s.kind,va,.int .i64 s.events],.agg #[.int .i64 t.kind,vb,.int .i64 t.events]] w fun e w'=>e= .returned (.bool (decide (s=t)))∧Below w.heap.size w w':=by
 obtain ⟨k1,n1,e1⟩:=s
 obtain ⟨k2,n2,e2⟩:=t
 simp only at *
 have c4:=fun W (h:Below w.heap.size w W)=>oC va vb n1 n2 W (ha.below h) (hb.below h) hl
 obtain ⟨p,c,rfl,_⟩:=ha.ex
 obtain ⟨q,d,rfl,_⟩:=hb.ex
 have hb1:Below w.heap.size w ((w.alloc (.cells #[.int .i64 k1,.slice p n1.length c,.int .i64 e1] 123)).alloc (.cells #[.int .i64 k2,.slice q n2.length d,.int .i64 e2] 123)):=((Below.refl _ _).alloc (Nat.le_refl _) _).alloc (by simp) _
 clear ha hb
 have C4:=aa9 c4
 clear c4
 cases h1:(k1==k2) with
 | false=>
   have HV:=aa9 (show decide (Scp.mk k1 n1 e1=Scp.mk k2 n2 e2)=false from decide_eq_false (by intro e;injection e with e _ _;rw [e] at h1;simp at h1))
   clear C4
   go_enter Tryz.func110,Tryz.ntmps110
   go_wp2
   go_ret
   exact ⟨by rw [HV.out];rfl,hb1⟩
 | true=>
   cases h2:(e1==e2) with
   | false=>
     have HV:=aa9 (show decide (Scp.mk k1 n1 e1=Scp.mk k2 n2 e2)=false from decide_eq_false (by intro e;injection e with _ _ e;rw [e] at h2;simp at h2))
     clear C4
     go_enter Tryz.func110,Tryz.ntmps110
     go_wp2
     go_ret
     exact ⟨by rw [HV.out];rfl,hb1⟩
   | true=>
     have HV:=aa9 (show decide (Scp.mk k1 n1 e1=Scp.mk k2 n2 e2)=decide (n1=n2) by
      have g1:k1=k2:=by simpa using h1
      have g2:e1=e2:=by simpa using h2
      subst g1 g2
      by_cases h:n1=n2
      · subst h;simp
      · rw [decide_eq_false h,decide_eq_false (by intro e;injection e with _ e _;exact h e)])
     go_enter Tryz.func110,Tryz.ntmps110
     go_wp2_with fail
     refine (C4.out _ hb1).mono ?_
     rintro e w1 ⟨rfl,b1⟩
     have hb2:=hb1.trans (b1.mono (by simp;omega))
     clear b1 hb1 C4
     go_wp2
     go_ret
     exact ⟨by rw [HV.out];rfl,hb2⟩
theorem j3 (a b:Value) (l m:List Scp) (w:World) (ha:az w (aj l) a) (hb:az w (aj m) b) (hl:l.length≤140737488355328) (hx: ∀ s∈l,s.names.length≤140737488355328):
 Calls Tryz.prog 109 #[a,b,.func (.func 110) #[] #[]] w fun e w'=>e= .returned (.bool (decide (l=m)))∧Below w.heap.size w w':=by
 obtain ⟨p,c1,rfl,hp⟩:=cq ha
 obtain ⟨q,c2,rfl,hq⟩:=cq hb
 clear ha hb
 have HP:=aa9 hp
 have HQ:=aa9 hq
 have HX:=aa9 hx
 clear hp hq hx
 by_cases hlen:l.length=m.length
 · rw [←hlen]
   have HL:=aa9 hlen
   clear hlen
   go_enter Tryz.func109,Tryz.ntmps109
   go_wp2
   go_loopw [7,8,9,17] (fun u7 u8 u9 i wr=> ∃ k:Nat,k≤l.length∧i= .int .i64 k∧l.take k=m.take k∧Below w.heap.size w wr) (fun u7 u8 u9 i _=>l.length - (intOf i).toNat)
   case atStart=>exact ⟨0,by omega,rfl,rfl,Below.refl _ _⟩
   case round=>
    obtain ⟨k,hk,rfl,hall,hbr⟩:=hrel
    have Hall:=aa9 hall
    clear hall
    by_cases hlt:k < l.length
    · obtain ⟨b1,o1,rfl,hb1,hc1⟩:=HP.out.resolve_left (by intro h;subst h;simp at hlt)
      obtain ⟨b2,o2,rfl,hb2,hc2⟩:=HQ.out.resolve_left (by intro h;have hlen:=HL.out;rw [h] at hlen;simp at hlen;simp [hlen] at hlt)
      obtain ⟨x,hx⟩: ∃ x,l[k]? =some x:=⟨_,List.getElem?_eq_getElem hlt⟩
      obtain ⟨y,hy⟩: ∃ y,m[k]? =some y:=⟨_,List.getElem?_eq_getElem (by have:=HL.out;omega)⟩
      obtain ⟨v1,n1,x0,x1,x2⟩:=hc1 k x hx
      obtain ⟨v2,n2,y0,y1,y2⟩:=hc2 k y hy
      obtain ⟨p1,d1,rfl,_⟩:=n1.ex
      obtain ⟨p2,d2,rfl,_⟩:=n2.ex
      have e0:wr.cell? ⟨b1,o1+k * 3,none⟩=some (.int .i64 x.kind):=(hbr.cell (p:=⟨b1,o1+k * 3,none⟩) hb1).trans x0
      have e1:wr.cell? ⟨b1,o1+k * 3+1,none⟩=some (.slice p1 x.names.length d1):=(hbr.cell (p:=⟨b1,o1+k * 3+1,none⟩) hb1).trans x1
      have e2:wr.cell? ⟨b1,o1+k * 3+2,none⟩=some (.int .i64 x.events):=(hbr.cell (p:=⟨b1,o1+k * 3+2,none⟩) hb1).trans x2
      have f0: ∀ o:Obj,(wr.alloc o).cell? ⟨b2,o2+k * 3,none⟩=some (.int .i64 y.kind):=fun o=>((hbr.alloc hbr.size o).cell (p:=⟨b2,o2+k * 3,none⟩) hb2).trans y0
      have f1: ∀ o:Obj,(wr.alloc o).cell? ⟨b2,o2+k * 3+1,none⟩=some (.slice p2 y.names.length d2):=fun o=>((hbr.alloc hbr.size o).cell (p:=⟨b2,o2+k * 3+1,none⟩) hb2).trans y1
      have f2: ∀ o:Obj,(wr.alloc o).cell? ⟨b2,o2+k * 3+2,none⟩=some (.int .i64 y.events):=fun o=>((hbr.alloc hbr.size o).cell (p:=⟨b2,o2+k * 3+2,none⟩) hb2).trans y2
      have C:=aa9 (fun W (h:Below w.heap.size w W)=>nt x y (.slice p1 x.names.length d1) (.slice p2 y.names.length d2) W (n1.below h) (n2.below h) (HX.out x (List.mem_of_getElem? hx)))
      have hb3: ∀ o o':Obj,Below w.heap.size w ((wr.alloc o).alloc o'):=fun o o'=>(hbr.alloc hbr.size o).alloc (by have:=hbr.size;simp;omega) o'
      have HB3:=aa9 hb3
      clear hb3 hc1 hc2 x0 x1 x2 y0 y1 y2 n1 n2
      cases h1:decide (x=y) with
      | false=>
        rw [h1] at C
        have HV:=aa9 (show decide (l=m)=false from decide_eq_false (cQ hx hy (by intro e;rw [e] at h1;simp at h1)))
        clear hx hy HP HQ HL Hall h1 HX
        go_wp2_with fail
        refine (C.out _ (HB3.out _ _)).mono ?_
        rintro e w1 ⟨rfl,b1'⟩
        have hb4:=(HB3.out _ _).trans (b1'.mono (HB3.out _ _).size)
        clear b1' C HB3 e0 e1 e2 f0 f1 f2
        go_wp2
        go_ret
        exact ⟨by rw [HV.out];rfl,hb4⟩
      | true=>
        rw [h1] at C
        obtain rfl:x=y:=by simpa using h1
        have HN:=aa9 (cc hx hy Hall.out)
        clear hx hy Hall h1
        go_wp2_with fail
        refine (C.out _ (HB3.out _ _)).mono ?_
        rintro e w1 ⟨rfl,b1'⟩
        have hb4:=(HB3.out _ _).trans (b1'.mono (HB3.out _ _).size)
        clear b1' C HB3 e0 e1 e2 f0 f1 f2 hbr
        go_wp2
        go_roundw
        case rel=>exact ⟨k+1,by omega,by go_num,HN.out,hb4⟩
        case measure=>simp [intOf];omega
    · obtain rfl:k=l.length:=by omega
      have HV:=aa9 (show decide (l=m)=true from decide_eq_true (by have:=Hall.out;rw [List.take_length,HL.out,List.take_length] at this;exact this))
      clear HL
      go_wp2
      go_ret
      exact ⟨by rw [HV.out];rfl,hbr⟩
 · have HV:=aa9 (show decide (l=m)=false from decide_eq_false (fun e=>hlen (by rw [e])))
   have hne:((l.length:Int)==(m.length:Int))=false:=cFalse (by omega)
   have hnn:=dm hne
   go_enter Tryz.func109,Tryz.ntmps109
   go_wp2
   go_ret
   exact ⟨by rw [HV.out];rfl,Below.refl _ _⟩
theorem iJ:l6 (fun _=>True):=by
 intro f g va vb w _ ha hb hl hm hx hy _ _
 obtain ⟨on,l⟩:=f
 obtain ⟨on2,m⟩:=g
 simp only at *
 have c4:=fun W (h:Below w.heap.size w W)=>j3 va vb l m W (az.below h _ _ ha) (az.below h _ _ hb) (by omega) (fun s hs=>by have:=(hx s hs).1;omega)
 obtain ⟨p,c,rfl,_⟩:=cq ha
 obtain ⟨q,d,rfl,_⟩:=cq hb
 have hb1:Below w.heap.size w ((w.alloc (.cells #[.bool on,.slice p l.length c] 27)).alloc (.cells #[.bool on2,.slice q m.length d] 27)):=((Below.refl _ _).alloc (Nat.le_refl _) _).alloc (by simp) _
 clear ha hb
 have C4:=aa9 c4
 clear c4 hx hy
 by_cases h1:on=on2
 · subst h1
   have HV:=aa9 (show decide (Flt.mk on l=Flt.mk on m)=decide (l=m) by
    by_cases h:l=m
    · subst h;simp
    · rw [decide_eq_false h,decide_eq_false (by intro e;injection e with _ e;exact h e)])
   have hbb:(on==on)=true:=by cases on <;> rfl
   go_enter Tryz.func45,Tryz.ntmps45
   go_wp2_with fail
   refine (C4.out _ hb1).mono ?_
   rintro e w1 ⟨rfl,b1⟩
   have hb2:=hb1.trans (b1.mono (by simp;omega))
   clear b1 hb1 C4
   go_wp2
   go_ret
   exact ⟨by rw [HV.out];rfl,hb2⟩
 · have HV:=aa9 (show decide (Flt.mk on l=Flt.mk on2 m)=false from decide_eq_false (by intro e;injection e with e _;exact h1 e))
   have hbb:(on==on2)=false:=by rw [beq_eq_false_iff_ne];exact h1
   clear C4
   go_enter Tryz.func45,Tryz.ntmps45
   go_wp2
   go_ret
   exact ⟨by rw [HV.out];rfl,hb1⟩
theorem ap.bnd {x:ap} (h:bs x.lf):bW x.kind∧bW x.op∧bW x.flags∧(∀ t∈x.sset,rgS t)∧ ∀ s∈x.filter.scopes,bW s.kind∧bW s.events:=by
 obtain ⟨_,h1,_,_,_,h5,h6,h7,_,_,h10,_⟩:=h
 refine ⟨h1,h6,h7,fun t ht=> ?_,fun s hs=> ?_⟩
 · obtain ⟨a,b,_⟩:=bs.flat h5.2 t ht
   exact ⟨a,b⟩
 · obtain ⟨a,_,b,_⟩:=bs.flat h10.2 s hs
   exact ⟨a,b⟩
theorem oH (a b:Value) (l m:List Spn) (w:World) (ha:az w (am l) a) (hb:az w (am m) b) (hl:l.length≤140737488355328):
 Calls Tryz.prog 44 #[a,b] w fun e w'=>e= .returned (.bool (decide (l=m)))∧Below w.heap.size w w':=by
 obtain ⟨p,c1,rfl,hp⟩:=Spn.at ha
 obtain ⟨q,c2,rfl,hq⟩:=Spn.at hb
 clear ha hb
 have HP:=aa9 hp
 have HQ:=aa9 hq
 clear hp hq
 by_cases hlen:l.length=m.length
 · rw [←hlen]
   have HL:=aa9 hlen
   clear hlen
   go_enter Tryz.func44,Tryz.ntmps44
   go_wp2
   go_loopw [5,13] (fun u i wr=> ∃ k:Nat,k≤l.length∧i= .int .i64 k∧l.take k=m.take k∧Below w.heap.size w wr) (fun u i _=>l.length - (intOf i).toNat)
   case atStart=>exact ⟨0,by omega,rfl,rfl,Below.refl _ _⟩
   case round=>
    obtain ⟨k,hk,rfl,hall,hbr⟩:=hrel
    have Hall:=aa9 hall
    clear hall
    by_cases hlt:k < l.length
    · obtain ⟨b1,o1,rfl,hb1,hc1⟩:=HP.out.resolve_left (by intro h;subst h;simp at hlt)
      obtain ⟨b2,o2,rfl,hb2,hc2⟩:=HQ.out.resolve_left (by intro h;have hlen:=HL.out;rw [h] at hlen;simp at hlen;simp [hlen] at hlt)
      obtain ⟨x,hx⟩: ∃ x,l[k]? =some x:=⟨_,List.getElem?_eq_getElem hlt⟩
      obtain ⟨y,hy⟩: ∃ y,m[k]? =some y:=⟨_,List.getElem?_eq_getElem (by have:=HL.out;omega)⟩
      obtain ⟨x0,x1⟩:=hc1 k x hx
      obtain ⟨y0,y1⟩:=hc2 k y hy
      have e0:wr.drew.cell? ⟨b1,o1+k * 2,none⟩=some (.int .i64 x.low):=(hbr.cell (p:=⟨b1,o1+k * 2,none⟩) hb1).trans x0
      have e1:wr.drew.cell? ⟨b1,o1+k * 2+1,none⟩=some (.int .i64 x.high):=(hbr.cell (p:=⟨b1,o1+k * 2+1,none⟩) hb1).trans x1
      have f0:wr.drew.cell? ⟨b2,o2+k * 2,none⟩=some (.int .i64 y.low):=(hbr.cell (p:=⟨b2,o2+k * 2,none⟩) hb2).trans y0
      have f1:wr.drew.cell? ⟨b2,o2+k * 2+1,none⟩=some (.int .i64 y.high):=(hbr.cell (p:=⟨b2,o2+k * 2+1,none⟩) hb2).trans y1
      have hno:=aa9 (fun h:x ≠ y=>(decide_eq_false (cQ hx hy h):decide (l=m)=false))
      have hyes:=aa9 (fun h:x=y=>cc hx (by rw [hy,h]) Hall.out)
      clear hc1 hc2 hx hy Hall x0 x1 y0 y1
      cases h1:(x.low==y.low) with
      | false=>
        have HV:=aa9 (hno.out (by intro e;rw [e] at h1;simp at h1))
        clear hno hyes HP HQ HL
        go_wp2
        refine ah oL0 (fun W=>W.cell? ⟨b1,o1+k * 2,none⟩=some (.int .i64 x.low)∧W.cell? ⟨b1,o1+k * 2+1,none⟩=some (.int .i64 x.high)∧W.cell? ⟨b2,o2+k * 2,none⟩=some (.int .i64 y.low)∧W.cell? ⟨b2,o2+k * 2+1,none⟩=some (.int .i64 y.high)) (by kernel_rfl) (by kernel_rfl) rfl (by kernel_rfl) ?_
        intro ops' hops
        clear hops
        simp only [oL0,List.map_cons,List.map_nil,ae,ag]
        iterate 9 (refine aa ?_ (fun _ _ _ h=>h) rfl ?_ ⟨e0,e1,f0,f1⟩ ?_;rotate_left;focus (intro W hS;obtain ⟨s1,s2,s3,s4⟩:=hS;go_simp;rfl))
        refine ai ?_
        go_simp
        go_wp2
        go_ret
        exact ⟨by rw [HV.out];rfl,hbr.drew⟩
      | true=>
        cases h2:(x.high==y.high) with
        | false=>
          have HV:=aa9 (hno.out (by intro e;rw [e] at h2;simp at h2))
          clear hno hyes HP HQ HL
          go_wp2
          refine ah oL0 (fun W=>W.cell? ⟨b1,o1+k * 2,none⟩=some (.int .i64 x.low)∧W.cell? ⟨b1,o1+k * 2+1,none⟩=some (.int .i64 x.high)∧W.cell? ⟨b2,o2+k * 2,none⟩=some (.int .i64 y.low)∧W.cell? ⟨b2,o2+k * 2+1,none⟩=some (.int .i64 y.high)) (by kernel_rfl) (by kernel_rfl) rfl (by kernel_rfl) ?_
          intro ops' hops
          clear hops
          simp only [oL0,List.map_cons,List.map_nil,ae,ag]
          iterate 9 (refine aa ?_ (fun _ _ _ h=>h) rfl ?_ ⟨e0,e1,f0,f1⟩ ?_;rotate_left;focus (intro W hS;obtain ⟨s1,s2,s3,s4⟩:=hS;go_simp;rfl))
          refine ai ?_
          go_simp
          go_wp2
          go_ret
          exact ⟨by rw [HV.out];rfl,hbr.drew⟩
        | true=>
          have HN:=aa9 (hyes.out (by cases x;cases y;simp only [beq_iff_eq] at h1 h2;rw [h1,h2]))
          clear hno hyes
          go_wp2
          refine ah oL0 (fun W=>W.cell? ⟨b1,o1+k * 2,none⟩=some (.int .i64 x.low)∧W.cell? ⟨b1,o1+k * 2+1,none⟩=some (.int .i64 x.high)∧W.cell? ⟨b2,o2+k * 2,none⟩=some (.int .i64 y.low)∧W.cell? ⟨b2,o2+k * 2+1,none⟩=some (.int .i64 y.high)) (by kernel_rfl) (by kernel_rfl) rfl (by kernel_rfl) ?_
          intro ops' hops
          clear hops
          simp only [oL0,List.map_cons,List.map_nil,ae,ag]
          iterate 9 (refine aa ?_ (fun _ _ _ h=>h) rfl ?_ ⟨e0,e1,f0,f1⟩ ?_;rotate_left;focus (intro W hS;obtain ⟨s1,s2,s3,s4⟩:=hS;go_simp;rfl))
          refine ai ?_
          go_simp
          go_wp2
          go_roundw
          case rel=>exact ⟨k+1,by omega,by go_num,HN.out,hbr.drew⟩
          case measure=>simp [intOf];omega
    · obtain rfl:k=l.length:=by omega
      have HV:=aa9 (show decide (l=m)=true from decide_eq_true (by have:=Hall.out;rw [List.take_length,HL.out,List.take_length] at this;exact this))
      clear HL
      go_wp2
      go_ret
      exact ⟨by rw [HV.out];rfl,hbr⟩
 · have HV:=aa9 (show decide (l=m)=false from decide_eq_false (fun e=>hlen (by rw [e])))
   have hne:((l.length:Int)==(m.length:Int))=false:=cFalse (by omega)
   have hnn:=dm hne
   go_enter Tryz.func44,Tryz.ntmps44
   go_wp2
   go_ret
   exact ⟨by rw [HV.out];rfl,Below.refl _ _⟩
set_option maxRecDepth 20000 in
theorem iK (x y:ap) (a5 a10 b5 b10:Value) (w:World) (ha:az w (am x.sset) a5) (ha2:az w (aj x.filter.scopes) a10) (hb:az w (am y.sset) b5) (hb2:az w (aj y.filter.scopes) b10)
 (hx:bg x.lf≤1048576) (hbx:bs x.lf) (hy:bg y.lf≤1048576) (hby:bs y.lf):
 Calls Tryz.prog 16 #[bQ x a5 a10,bQ y b5 b10] w fun e w'=>e= .returned (.bool (decide (x=y)))∧Below w.heap.size w w':=by
 obtain ⟨_,_,_,sx4,_,sx6,sx7⟩:=ap.small hx
 obtain ⟨_,_,_,_,_,sy6,sy7⟩:=ap.small hy
 obtain ⟨_,_,_,_,ix⟩:=ap.bnd hbx
 obtain ⟨_,_,_,_,iy⟩:=ap.bnd hby
 have cs:=fun W (h:Below w.heap.size w W)=>oH a5 b5 x.sset y.sset W (az.below h _ _ ha) (az.below h _ _ hb) (by omega)
 have cf:=fun W (h:Below w.heap.size w W)=>iJ x.filter y.filter a10 b10 W trivial (az.below h _ _ ha2) (az.below h _ _ hb2) sx6 sy6 sx7 sy7 ix iy
 clear sx4 sx6 sx7 sy6 sy7 ix iy hx hy hbx hby
 obtain ⟨p,c,rfl,_⟩:=Spn.at ha
 obtain ⟨p2,c2,rfl,_⟩:=Spn.at hb
 obtain ⟨q,d,rfl,_⟩:=cq ha2
 obtain ⟨q2,d2,rfl,_⟩:=cq hb2
 have hb1:Below w.heap.size w ((w.alloc (.cells #[sv x.tag,.int .i64 x.kind,sv x.box,sv x.dst,.bool x.uid,.slice p x.sset.length c,.int .i64 x.op,.int .i64 x.flags,sv x.text,.bool x.filter.on,.slice q x.filter.scopes.length d] 29)).alloc (.cells #[sv y.tag,.int .i64 y.kind,sv y.box,sv y.dst,.bool y.uid,.slice p2 y.sset.length c2,.int .i64 y.op,.int .i64 y.flags,sv y.text,.bool y.filter.on,.slice q2 y.filter.scopes.length d2] 29)):=((Below.refl _ _).alloc (Nat.le_refl _) _).alloc (by simp) _
 have hA:((w.alloc (.cells #[sv x.tag,.int .i64 x.kind,sv x.box,sv x.dst,.bool x.uid,.slice p x.sset.length c,.int .i64 x.op,.int .i64 x.flags,sv x.text,.bool x.filter.on,.slice q x.filter.scopes.length d] 29)).alloc (.cells #[sv y.tag,.int .i64 y.kind,sv y.box,sv y.dst,.bool y.uid,.slice p2 y.sset.length c2,.int .i64 y.op,.int .i64 y.flags,sv y.text,.bool y.filter.on,.slice q2 y.filter.scopes.length d2] 29)).heap[w.heap.size]? =some (.cells #[sv x.tag,.int .i64 x.kind,sv x.box,sv x.dst,.bool x.uid,.slice p x.sset.length c,.int .i64 x.op,.int .i64 x.flags,sv x.text,.bool x.filter.on,.slice q x.filter.scopes.length d] 29 (0,0)):=(Below.heap_alloc _ _ _ (by simp)).trans (heap_alloc_new w _)
 have hB:((w.alloc (.cells #[sv x.tag,.int .i64 x.kind,sv x.box,sv x.dst,.bool x.uid,.slice p x.sset.length c,.int .i64 x.op,.int .i64 x.flags,sv x.text,.bool x.filter.on,.slice q x.filter.scopes.length d] 29)).alloc (.cells #[sv y.tag,.int .i64 y.kind,sv y.box,sv y.dst,.bool y.uid,.slice p2 y.sset.length c2,.int .i64 y.op,.int .i64 y.flags,sv y.text,.bool y.filter.on,.slice q2 y.filter.scopes.length d2] 29)).heap[w.heap.size+1]? =some (.cells #[sv y.tag,.int .i64 y.kind,sv y.box,sv y.dst,.bool y.uid,.slice p2 y.sset.length c2,.int .i64 y.op,.int .i64 y.flags,sv y.text,.bool y.filter.on,.slice q2 y.filter.scopes.length d2] 29 (0,0)):=by
  have:=heap_alloc_new (w.alloc (.cells #[sv x.tag,.int .i64 x.kind,sv x.box,sv x.dst,.bool x.uid,.slice p x.sset.length c,.int .i64 x.op,.int .i64 x.flags,sv x.text,.bool x.filter.on,.slice q x.filter.scopes.length d] 29)) (.cells #[sv y.tag,.int .i64 y.kind,sv y.box,sv y.dst,.bool y.uid,.slice p2 y.sset.length c2,.int .i64 y.op,.int .i64 y.flags,sv y.text,.bool y.filter.on,.slice q2 y.filter.scopes.length d2] 29)
  rwa [World.size_alloc] at this
 have hz1:((w.alloc (.cells #[sv x.tag,.int .i64 x.kind,sv x.box,sv x.dst,.bool x.uid,.slice p x.sset.length c,.int .i64 x.op,.int .i64 x.flags,sv x.text,.bool x.filter.on,.slice q x.filter.scopes.length d] 29)).alloc (.cells #[sv y.tag,.int .i64 y.kind,sv y.box,sv y.dst,.bool y.uid,.slice p2 y.sset.length c2,.int .i64 y.op,.int .i64 y.flags,sv y.text,.bool y.filter.on,.slice q2 y.filter.scopes.length d2] 29)).heap.size=w.heap.size+2:=by simp
 have HA:=aa9 hA
 have HB:=aa9 hB
 have HZ:=aa9 hz1
 have HNE:=aa9 (fun h:x ≠ y=>(decide_eq_false h:decide (x=y)=false))
 have CS:=aa9 cs
 have CF:=aa9 cf
 clear ha hb ha2 hb2 hA hB hz1 cs cf
 cases h_tag:(x.tag==y.tag) with
 | false=>
   have HV:=aa9 (HNE.out (by intro e;rw [e] at h_tag;simp at h_tag))
   go_enter Tryz.func16,Tryz.ntmps16
   go_wp2
   go_ret
   exact ⟨by rw [HV.out];rfl,hb1⟩
 | true=>
   cases h_kind:(x.kind==y.kind) with
   | false=>
     have HV:=aa9 (HNE.out (by intro e;rw [e] at h_kind;simp at h_kind))
     go_enter Tryz.func16,Tryz.ntmps16
     go_wp2
     go_ret
     exact ⟨by rw [HV.out];rfl,hb1⟩
   | true=>
     cases h_box:(x.box==y.box) with
     | false=>
       have HV:=aa9 (HNE.out (by intro e;rw [e] at h_box;simp at h_box))
       go_enter Tryz.func16,Tryz.ntmps16
       go_wp2
       go_ret
       exact ⟨by rw [HV.out];rfl,hb1⟩
     | true=>
       cases h_dst:(x.dst==y.dst) with
       | false=>
         have HV:=aa9 (HNE.out (by intro e;rw [e] at h_dst;simp at h_dst))
         go_enter Tryz.func16,Tryz.ntmps16
         go_wp2
         go_ret
         exact ⟨by rw [HV.out];rfl,hb1⟩
       | true=>
         cases h_uid:(x.uid==y.uid) with
         | false=>
           have HV:=aa9 (HNE.out (by intro e;rw [e] at h_uid;simp at h_uid))
           go_enter Tryz.func16,Tryz.ntmps16
           go_wp2
           go_ret
           exact ⟨by rw [HV.out];rfl,hb1⟩
         | true=>
           cases hS:decide (x.sset=y.sset) with
           | false=>
             have HV:=aa9 (HNE.out (by intro e;rw [e] at hS;simp at hS))
             go_enter Tryz.func16,Tryz.ntmps16
             rw [hS] at CS
             go_wp2_with fail
             refine (CS.out _ hb1).mono ?_
             rintro e w1 ⟨rfl,b1⟩
             have hb2:=hb1.trans (b1.mono (by rw [HZ.out];omega))
             have HA1:=aa9 ((b1.block w.heap.size (by rw [HZ.out];omega)).trans HA.out)
             have HB1:=aa9 ((b1.block (w.heap.size+1) (by rw [HZ.out];omega)).trans HB.out)
             have p6:w1.cell? ⟨w.heap.size,6,none⟩=some (.int .i64 x.op):=(aa8 HA1.out 6).trans rfl
             have q6:w1.cell? ⟨w.heap.size+1,6,none⟩=some (.int .i64 y.op):=(aa8 HB1.out 6).trans rfl
             have p7:w1.cell? ⟨w.heap.size,7,none⟩=some (.int .i64 x.flags):=(aa8 HA1.out 7).trans rfl
             have q7:w1.cell? ⟨w.heap.size+1,7,none⟩=some (.int .i64 y.flags):=(aa8 HB1.out 7).trans rfl
             have p8:w1.cell? ⟨w.heap.size,8,none⟩=some (sv x.text):=(aa8 HA1.out 8).trans rfl
             have q8:w1.cell? ⟨w.heap.size+1,8,none⟩=some (sv y.text):=(aa8 HB1.out 8).trans rfl
             have p9:w1.cell? ⟨w.heap.size,9,none⟩=some (.bool x.filter.on):=(aa8 HA1.out 9).trans rfl
             have q9:w1.cell? ⟨w.heap.size+1,9,none⟩=some (.bool y.filter.on):=(aa8 HB1.out 9).trans rfl
             have p10:w1.cell? ⟨w.heap.size,10,none⟩=some (.slice q x.filter.scopes.length d):=(aa8 HA1.out 10).trans rfl
             have q10:w1.cell? ⟨w.heap.size+1,10,none⟩=some (.slice q2 y.filter.scopes.length d2):=(aa8 HB1.out 10).trans rfl
             clear b1 CS hb1
             have hbz:=hb2
             go_wp2
             go_ret
             exact ⟨by rw [HV.out];rfl,hbz⟩
           | true=>
             cases h_op:(x.op==y.op) with
             | false=>
               have HV:=aa9 (HNE.out (by intro e;rw [e] at h_op;simp at h_op))
               go_enter Tryz.func16,Tryz.ntmps16
               rw [hS] at CS
               go_wp2_with fail
               refine (CS.out _ hb1).mono ?_
               rintro e w1 ⟨rfl,b1⟩
               have hb2:=hb1.trans (b1.mono (by rw [HZ.out];omega))
               have HA1:=aa9 ((b1.block w.heap.size (by rw [HZ.out];omega)).trans HA.out)
               have HB1:=aa9 ((b1.block (w.heap.size+1) (by rw [HZ.out];omega)).trans HB.out)
               have p6:w1.cell? ⟨w.heap.size,6,none⟩=some (.int .i64 x.op):=(aa8 HA1.out 6).trans rfl
               have q6:w1.cell? ⟨w.heap.size+1,6,none⟩=some (.int .i64 y.op):=(aa8 HB1.out 6).trans rfl
               have p7:w1.cell? ⟨w.heap.size,7,none⟩=some (.int .i64 x.flags):=(aa8 HA1.out 7).trans rfl
               have q7:w1.cell? ⟨w.heap.size+1,7,none⟩=some (.int .i64 y.flags):=(aa8 HB1.out 7).trans rfl
               have p8:w1.cell? ⟨w.heap.size,8,none⟩=some (sv x.text):=(aa8 HA1.out 8).trans rfl
               have q8:w1.cell? ⟨w.heap.size+1,8,none⟩=some (sv y.text):=(aa8 HB1.out 8).trans rfl
               have p9:w1.cell? ⟨w.heap.size,9,none⟩=some (.bool x.filter.on):=(aa8 HA1.out 9).trans rfl
               have q9:w1.cell? ⟨w.heap.size+1,9,none⟩=some (.bool y.filter.on):=(aa8 HB1.out 9).trans rfl
               have p10:w1.cell? ⟨w.heap.size,10,none⟩=some (.slice q x.filter.scopes.length d):=(aa8 HA1.out 10).trans rfl
               have q10:w1.cell? ⟨w.heap.size+1,10,none⟩=some (.slice q2 y.filter.scopes.length d2):=(aa8 HB1.out 10).trans rfl
               clear b1 CS hb1
               have hbz:=hb2
               go_wp2
               go_ret
               exact ⟨by rw [HV.out];rfl,hbz⟩
             | true=>
               cases h_flags:(x.flags==y.flags) with
               | false=>
                 have HV:=aa9 (HNE.out (by intro e;rw [e] at h_flags;simp at h_flags))
                 go_enter Tryz.func16,Tryz.ntmps16
                 rw [hS] at CS
                 go_wp2_with fail
                 refine (CS.out _ hb1).mono ?_
                 rintro e w1 ⟨rfl,b1⟩
                 have hb2:=hb1.trans (b1.mono (by rw [HZ.out];omega))
                 have HA1:=aa9 ((b1.block w.heap.size (by rw [HZ.out];omega)).trans HA.out)
                 have HB1:=aa9 ((b1.block (w.heap.size+1) (by rw [HZ.out];omega)).trans HB.out)
                 have p6:w1.cell? ⟨w.heap.size,6,none⟩=some (.int .i64 x.op):=(aa8 HA1.out 6).trans rfl
                 have q6:w1.cell? ⟨w.heap.size+1,6,none⟩=some (.int .i64 y.op):=(aa8 HB1.out 6).trans rfl
                 have p7:w1.cell? ⟨w.heap.size,7,none⟩=some (.int .i64 x.flags):=(aa8 HA1.out 7).trans rfl
                 have q7:w1.cell? ⟨w.heap.size+1,7,none⟩=some (.int .i64 y.flags):=(aa8 HB1.out 7).trans rfl
                 have p8:w1.cell? ⟨w.heap.size,8,none⟩=some (sv x.text):=(aa8 HA1.out 8).trans rfl
                 have q8:w1.cell? ⟨w.heap.size+1,8,none⟩=some (sv y.text):=(aa8 HB1.out 8).trans rfl
                 have p9:w1.cell? ⟨w.heap.size,9,none⟩=some (.bool x.filter.on):=(aa8 HA1.out 9).trans rfl
                 have q9:w1.cell? ⟨w.heap.size+1,9,none⟩=some (.bool y.filter.on):=(aa8 HB1.out 9).trans rfl
                 have p10:w1.cell? ⟨w.heap.size,10,none⟩=some (.slice q x.filter.scopes.length d):=(aa8 HA1.out 10).trans rfl
                 have q10:w1.cell? ⟨w.heap.size+1,10,none⟩=some (.slice q2 y.filter.scopes.length d2):=(aa8 HB1.out 10).trans rfl
                 clear b1 CS hb1
                 have hbz:=hb2
                 go_wp2
                 go_ret
                 exact ⟨by rw [HV.out];rfl,hbz⟩
               | true=>
                 cases h_text:(x.text==y.text) with
                 | false=>
                   have HV:=aa9 (HNE.out (by intro e;rw [e] at h_text;simp at h_text))
                   go_enter Tryz.func16,Tryz.ntmps16
                   rw [hS] at CS
                   go_wp2_with fail
                   refine (CS.out _ hb1).mono ?_
                   rintro e w1 ⟨rfl,b1⟩
                   have hb2:=hb1.trans (b1.mono (by rw [HZ.out];omega))
                   have HA1:=aa9 ((b1.block w.heap.size (by rw [HZ.out];omega)).trans HA.out)
                   have HB1:=aa9 ((b1.block (w.heap.size+1) (by rw [HZ.out];omega)).trans HB.out)
                   have p6:w1.cell? ⟨w.heap.size,6,none⟩=some (.int .i64 x.op):=(aa8 HA1.out 6).trans rfl
                   have q6:w1.cell? ⟨w.heap.size+1,6,none⟩=some (.int .i64 y.op):=(aa8 HB1.out 6).trans rfl
                   have p7:w1.cell? ⟨w.heap.size,7,none⟩=some (.int .i64 x.flags):=(aa8 HA1.out 7).trans rfl
                   have q7:w1.cell? ⟨w.heap.size+1,7,none⟩=some (.int .i64 y.flags):=(aa8 HB1.out 7).trans rfl
                   have p8:w1.cell? ⟨w.heap.size,8,none⟩=some (sv x.text):=(aa8 HA1.out 8).trans rfl
                   have q8:w1.cell? ⟨w.heap.size+1,8,none⟩=some (sv y.text):=(aa8 HB1.out 8).trans rfl
                   have p9:w1.cell? ⟨w.heap.size,9,none⟩=some (.bool x.filter.on):=(aa8 HA1.out 9).trans rfl
                   have q9:w1.cell? ⟨w.heap.size+1,9,none⟩=some (.bool y.filter.on):=(aa8 HB1.out 9).trans rfl
                   have p10:w1.cell? ⟨w.heap.size,10,none⟩=some (.slice q x.filter.scopes.length d):=(aa8 HA1.out 10).trans rfl
                   have q10:w1.cell? ⟨w.heap.size+1,10,none⟩=some (.slice q2 y.filter.scopes.length d2):=(aa8 HB1.out 10).trans rfl
                   clear b1 CS hb1
                   have hbz:=hb2
                   go_wp2
                   go_ret
                   exact ⟨by rw [HV.out];rfl,hbz⟩
                 | true=>
                   cases hF:decide (x.filter=y.filter) with
                   | false=>
                     have HV:=aa9 (HNE.out (by intro e;rw [e] at hF;simp at hF))
                     go_enter Tryz.func16,Tryz.ntmps16
                     rw [hS] at CS
                     go_wp2_with fail
                     refine (CS.out _ hb1).mono ?_
                     rintro e w1 ⟨rfl,b1⟩
                     have hb2:=hb1.trans (b1.mono (by rw [HZ.out];omega))
                     have HA1:=aa9 ((b1.block w.heap.size (by rw [HZ.out];omega)).trans HA.out)
                     have HB1:=aa9 ((b1.block (w.heap.size+1) (by rw [HZ.out];omega)).trans HB.out)
                     have p6:w1.cell? ⟨w.heap.size,6,none⟩=some (.int .i64 x.op):=(aa8 HA1.out 6).trans rfl
                     have q6:w1.cell? ⟨w.heap.size+1,6,none⟩=some (.int .i64 y.op):=(aa8 HB1.out 6).trans rfl
                     have p7:w1.cell? ⟨w.heap.size,7,none⟩=some (.int .i64 x.flags):=(aa8 HA1.out 7).trans rfl
                     have q7:w1.cell? ⟨w.heap.size+1,7,none⟩=some (.int .i64 y.flags):=(aa8 HB1.out 7).trans rfl
                     have p8:w1.cell? ⟨w.heap.size,8,none⟩=some (sv x.text):=(aa8 HA1.out 8).trans rfl
                     have q8:w1.cell? ⟨w.heap.size+1,8,none⟩=some (sv y.text):=(aa8 HB1.out 8).trans rfl
                     have p9:w1.cell? ⟨w.heap.size,9,none⟩=some (.bool x.filter.on):=(aa8 HA1.out 9).trans rfl
                     have q9:w1.cell? ⟨w.heap.size+1,9,none⟩=some (.bool y.filter.on):=(aa8 HB1.out 9).trans rfl
                     have p10:w1.cell? ⟨w.heap.size,10,none⟩=some (.slice q x.filter.scopes.length d):=(aa8 HA1.out 10).trans rfl
                     have q10:w1.cell? ⟨w.heap.size+1,10,none⟩=some (.slice q2 y.filter.scopes.length d2):=(aa8 HB1.out 10).trans rfl
                     clear b1 CS hb1
                     rw [hF] at CF
                     go_wp2_with fail
                     refine (CF.out _ hb2).mono ?_
                     rintro e w2 ⟨rfl,b2⟩
                     have hbz:=hb2.trans (b2.mono hb2.size)
                     clear b2 CF
                     go_wp2
                     go_ret
                     exact ⟨by rw [HV.out];rfl,hbz⟩
                   | true=>
                     have HV:=aa9 (show decide (x=y)=true from decide_eq_true (by
                      obtain ⟨x0,x1,x2,x3,x4,x5,x6,x7,x8,x9⟩:=x
                      obtain ⟨y0,y1,y2,y3,y4,y5,y6,y7,y8,y9⟩:=y
                      simp only [beq_iff_eq,decide_eq_true_eq] at h_tag h_kind h_box h_dst h_uid hS h_op h_flags h_text hF
                      rw [h_tag,h_kind,h_box,h_dst,h_uid,hS,h_op,h_flags,h_text,hF]))
                     go_enter Tryz.func16,Tryz.ntmps16
                     rw [hS] at CS
                     go_wp2_with fail
                     refine (CS.out _ hb1).mono ?_
                     rintro e w1 ⟨rfl,b1⟩
                     have hb2:=hb1.trans (b1.mono (by rw [HZ.out];omega))
                     have HA1:=aa9 ((b1.block w.heap.size (by rw [HZ.out];omega)).trans HA.out)
                     have HB1:=aa9 ((b1.block (w.heap.size+1) (by rw [HZ.out];omega)).trans HB.out)
                     have p6:w1.cell? ⟨w.heap.size,6,none⟩=some (.int .i64 x.op):=(aa8 HA1.out 6).trans rfl
                     have q6:w1.cell? ⟨w.heap.size+1,6,none⟩=some (.int .i64 y.op):=(aa8 HB1.out 6).trans rfl
                     have p7:w1.cell? ⟨w.heap.size,7,none⟩=some (.int .i64 x.flags):=(aa8 HA1.out 7).trans rfl
                     have q7:w1.cell? ⟨w.heap.size+1,7,none⟩=some (.int .i64 y.flags):=(aa8 HB1.out 7).trans rfl
                     have p8:w1.cell? ⟨w.heap.size,8,none⟩=some (sv x.text):=(aa8 HA1.out 8).trans rfl
                     have q8:w1.cell? ⟨w.heap.size+1,8,none⟩=some (sv y.text):=(aa8 HB1.out 8).trans rfl
                     have p9:w1.cell? ⟨w.heap.size,9,none⟩=some (.bool x.filter.on):=(aa8 HA1.out 9).trans rfl
                     have q9:w1.cell? ⟨w.heap.size+1,9,none⟩=some (.bool y.filter.on):=(aa8 HB1.out 9).trans rfl
                     have p10:w1.cell? ⟨w.heap.size,10,none⟩=some (.slice q x.filter.scopes.length d):=(aa8 HA1.out 10).trans rfl
                     have q10:w1.cell? ⟨w.heap.size+1,10,none⟩=some (.slice q2 y.filter.scopes.length d2):=(aa8 HB1.out 10).trans rfl
                     clear b1 CS hb1
                     rw [hF] at CF
                     go_wp2_with fail
                     refine (CF.out _ hb2).mono ?_
                     rintro e w2 ⟨rfl,b2⟩
                     have hbz:=hb2.trans (b2.mono hb2.size)
                     clear b2 CF
                     go_wp2
                     go_ret
                     exact ⟨by rw [HV.out];rfl,hbz⟩
end Go.Proofs.YtmlgkoeacbeopaaGreatDoor
