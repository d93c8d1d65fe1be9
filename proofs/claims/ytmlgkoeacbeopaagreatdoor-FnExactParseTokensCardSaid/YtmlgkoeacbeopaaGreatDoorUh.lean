/- Uh -/
import Derived.Test.YtmlgkoeacbeopaaGreatDoorUd
set_option maxHeartbeats 6400000
namespace Go.Proofs.YtmlgkoeacbeopaaGreatDoor
open Go.RowKit
def oL4 : List (Nat × Bool) := ((0, true) :: (1, true) :: (2, true) :: (3, true) :: (4, true) :: (5, true) :: (6, true) :: (7, true) :: (8, true) :: (9, true) :: (10, true) :: (11, true) :: (12, true) :: (13, true) :: (14, true) :: (15, true) :: (16, true) :: (17, true) :: (18, true) :: (19, true) :: (20, true) :: (21, true) :: (22, true) :: (23, true) :: (24, true) :: (25, true) :: (26, true) :: (27, true) :: (28, true) :: (29, true) :: (30, true) :: (31, true) :: (32, true) :: (33, true) :: (34, true) :: (35, true) :: (36, true) :: (37, true) :: (38, true) :: (39, true) :: (40, true) :: (41, false) :: (42, true) :: (43, true) :: [])
theorem iH (a b:Value) (l m:List (List UInt8)) (w:World) (ha:Rd1 sv w a l) (hb:Rd1 sv w b m) (hl:l.length≤140737488355328):
 Calls Tryz.prog 108 #[a,b] w fun e w'=>e= .returned (.bool (decide (l=m)))∧Below w.heap.size w w':=by
 obtain ⟨p,c1,rfl,hp⟩:=ha.ex
 obtain ⟨q,c2,rfl,hq⟩:=hb.ex
 clear ha hb
 have HP:=aa9 hp
 have HQ:=aa9 hq
 clear hp hq
 by_cases hlen:l.length=m.length
 · rw [←hlen]
   have HL:=aa9 hlen
   clear hlen
   go_enter Tryz.func108,Tryz.ntmps108
   go_wp2
   go_loopw [5] (fun i wr=> ∃ k:Nat,k≤l.length∧i= .int .i64 k∧l.take k=m.take k∧Below w.heap.size w wr) (fun i _=>l.length - (intOf i).toNat)
   case atStart=>exact ⟨0,by omega,rfl,rfl,Below.refl _ _⟩
   case round=>
    obtain ⟨k,hk,rfl,hall,hbr⟩:=hrel
    have Hall:=aa9 hall
    clear hall
    by_cases hlt:k < l.length
    · obtain ⟨b1,o1,rfl,hb1,hc1⟩:=HP.out.resolve_left (by intro h;subst h;simp at hlt)
      obtain ⟨b2,o2,rfl,hb2,hc2⟩:=HQ.out.resolve_left (by intro h;have hlen:=HL.out;rw [h] at hlen;simp at hlen;simp [hlen] at hlt)
      obtain ⟨x,hx⟩: ∃ x,l[k]? =some x:=⟨_,List.getElem?_eq_getElem hlt⟩
      obtain ⟨y,hy⟩: ∃ y,m[k]? =some y:=⟨_,List.getElem?_eq_getElem (by have:=HL.out;omega)⟩
      have e1:wr.drew.cell? ⟨b1,o1+k,none⟩=some (sv x):=(hbr.cell (p:=⟨b1,o1+k,none⟩) hb1).trans (hc1 k x hx)
      have e2:wr.drew.cell? ⟨b2,o2+k,none⟩=some (sv y):=(hbr.cell (p:=⟨b2,o2+k,none⟩) hb2).trans (hc2 k y hy)
      cases h1:(x==y) with
      | false=>
        have HV:=aa9 (show decide (l=m)=false from decide_eq_false (cQ hx hy (by intro e;rw [e] at h1;simp at h1)))
        clear hc1 hc2 hx hy HP HQ HL Hall
        go_wp2
        refine ah oL0 (fun W=>W.cell? ⟨b1,o1+k,none⟩=some (sv x)∧W.cell? ⟨b2,o2+k,none⟩=some (sv y)) (by kernel_rfl) (by kernel_rfl) rfl (by kernel_rfl) ?_
        intro ops' hops
        clear hops
        simp only [oL0,List.map_cons,List.map_nil,ae,ag]
        iterate 9 (refine aa ?_ (fun _ _ _ h=>h) rfl ?_ ⟨e1,e2⟩ ?_;rotate_left;focus (intro W hS;obtain ⟨s1,s2⟩:=hS;go_simp;rfl))
        refine ai ?_
        go_simp
        go_wp2
        go_ret
        exact ⟨by rw [HV.out];rfl,hbr.drew⟩
      | true=>
        obtain rfl:x=y:=by simpa using h1
        have HN:=aa9 (cc hx hy Hall.out)
        clear hc1 hc2 hx hy Hall
        go_wp2
        refine ah oL0 (fun W=>W.cell? ⟨b1,o1+k,none⟩=some (sv x)∧W.cell? ⟨b2,o2+k,none⟩=some (sv x)) (by kernel_rfl) (by kernel_rfl) rfl (by kernel_rfl) ?_
        intro ops' hops
        clear hops
        simp only [oL0,List.map_cons,List.map_nil,ae,ag]
        iterate 9 (refine aa ?_ (fun _ _ _ h=>h) rfl ?_ ⟨e1,e2⟩ ?_;rotate_left;focus (intro W hS;obtain ⟨s1,s2⟩:=hS;go_simp;rfl))
        refine ai ?_
        go_simp
        go_wp2
        go_roundw
        case rel=>exact ⟨k+1,by omega,by go_num,HN.out,hbr.drew⟩
        case measure=>simp [intOf];omega
    · obtain rfl:k=l.length:=by omega
      have HV:=aa9 (show decide (l=m)=true from decide_eq_true (by have:=Hall.out;rw [List.take_length,HL.out,List.take_length] at this;exact this))
      clear HL
      go_wp2
      go_ret
      exact ⟨by rw [HV.out];rfl,hbr⟩
 · have HV:=aa9 (show decide (l=m)=false from decide_eq_false (fun e=>hlen (by rw [e])))
   have hne:((l.length:Int)==(m.length:Int))=false:=cFalse (by omega)
   have hnn:=dm hne
   go_enter Tryz.func108,Tryz.ntmps108
   go_wp2
   go_ret
   exact ⟨by rw [HV.out];rfl,Below.refl _ _⟩
set_option maxRecDepth 4000 in
theorem iI (f g:Flt) (va vb:Value) (w:World) (ha:az w (aj f.scopes) va) (hb:az w (aj g.scopes) vb) (hl:f.scopes.length≤140737488355328) (hx: ∀ s∈f.scopes,s.names.length≤140737488355328):
 Calls Tryz.prog 43 #[.agg #[.bool f.on,va],.agg #[.bool g.on,vb]] w fun e w'=>e= .returned (.bool (decide (f=g)))∧Below w.heap.size w w':=by
 obtain ⟨on,l⟩:=f
 obtain ⟨on2,m⟩:=g
 simp only at *
 obtain ⟨p,c,rfl,hp⟩:=cq ha
 obtain ⟨q,d,rfl,hq⟩:=cq hb
 have HX:=aa9 hx
 have hb1:Below w.heap.size w ((w.alloc (.cells #[.bool on,.slice p l.length c] 27)).alloc (.cells #[.bool on2,.slice q m.length d] 27)):=((Below.refl _ _).alloc (Nat.le_refl _) _).alloc (by simp) _
 have HA:=aa9 (show ((w.alloc (.cells #[.bool on,.slice p l.length c] 27)).alloc (.cells #[.bool on2,.slice q m.length d] 27)).heap[w.heap.size]? =some (.cells #[.bool on,.slice p l.length c] 27 (0,0)) from (Below.heap_alloc _ _ _ (by simp)).trans (heap_alloc_new w _))
 have HB:=aa9 (show ((w.alloc (.cells #[.bool on,.slice p l.length c] 27)).alloc (.cells #[.bool on2,.slice q m.length d] 27)).heap[w.heap.size+1]? =some (.cells #[.bool on2,.slice q m.length d] 27 (0,0)) by have:=heap_alloc_new (w.alloc (.cells #[.bool on,.slice p l.length c] 27)) (.cells #[.bool on2,.slice q m.length d] 27);rwa [World.size_alloc] at this)
 have HZ:=aa9 (show ((w.alloc (.cells #[.bool on,.slice p l.length c] 27)).alloc (.cells #[.bool on2,.slice q m.length d] 27)).heap.size=w.heap.size+2 by simp)
 have HP:=aa9 hp
 have HQ:=aa9 hq
 clear ha hb hp hq hx
 have hon:(on=on2)∨(decide (Flt.mk on l=Flt.mk on2 m)=false∧on ≠ on2):=by
  by_cases h:on=on2
  · exact .inl h
  · exact .inr ⟨decide_eq_false (fun e=>h (by injection e)),h⟩
 rcases hon with rfl | ⟨hV,hno⟩
 · by_cases hlen:l.length=m.length
   · rw [←hlen] at HB hb1 HA HZ ⊢
     have hbb:Below (w.heap.size+2) ((w.alloc (.cells #[.bool on,.slice p l.length c] 27)).alloc (.cells #[.bool on,.slice q l.length d] 27)) ((w.alloc (.cells #[.bool on,.slice p l.length c] 27)).alloc (.cells #[.bool on,.slice q l.length d] 27)):=Below.refl _ _
     have HL:=aa9 hlen
     clear hlen
     have hgo: ∀ u:Bool,on=u→Calls Tryz.prog 43 #[.agg #[.bool on,.slice p l.length c],.agg #[.bool on,.slice q l.length d]] w fun e w'=>e= .returned (.bool (decide (Flt.mk on l=Flt.mk on m)))∧Below w.heap.size w w':=by
      intro u hu
      cases u <;> subst hu
      · go_enter Tryz.func43,Tryz.ntmps43
        go_wp2
        go_loopw [5] (fun i wr=> ∃ k:Nat,k≤l.length∧i= .int .i64 k∧l.take k=m.take k∧Below (w.heap.size+2) ((w.alloc (.cells #[.bool false,.slice p l.length c] 27)).alloc (.cells #[.bool false,.slice q l.length d] 27)) wr) (fun i _=>l.length - (intOf i).toNat)
        case atStart=>exact ⟨0,by omega,rfl,rfl,hbb⟩
        case round=>
         obtain ⟨k,hk,rfl,hall,hbr⟩:=hrel
         have hbw:=hb1.trans (hbr.mono (by omega))
         have hzr:w.heap.size+2≤wr.heap.size:=by have:=hbr.size;rw [HZ.out] at this;exact this
         have q1:wr.cell? ⟨w.heap.size,1,none⟩=some (.slice p l.length c):=(aa8 ((hbr.block w.heap.size (by omega)).trans HA.out) 1).trans rfl
         have q2:wr.cell? ⟨w.heap.size+1,1,none⟩=some (.slice q l.length d):=(aa8 ((hbr.block (w.heap.size+1) (by omega)).trans HB.out) 1).trans rfl
         have Hall:=aa9 hall
         clear hall hbb
         by_cases hlt:k < l.length
         · obtain ⟨b1,o1,rfl,hb1',hc1⟩:=HP.out.resolve_left (by intro h;subst h;simp at hlt)
           obtain ⟨b2,o2,rfl,hb2',hc2⟩:=HQ.out.resolve_left (by intro h;have hlen:=HL.out;rw [h] at hlen;simp at hlen;simp [hlen] at hlt)
           obtain ⟨s,hs⟩: ∃ x,l[k]? =some x:=⟨_,List.getElem?_eq_getElem hlt⟩
           obtain ⟨t,ht⟩: ∃ y,m[k]? =some y:=⟨_,List.getElem?_eq_getElem (by have:=HL.out;omega)⟩
           obtain ⟨v1,n1,x0,x1,x2⟩:=hc1 k s hs
           obtain ⟨v2,n2,y0,y1,y2⟩:=hc2 k t ht
           have d1:wr.drew.cell? ⟨w.heap.size,1,none⟩=some (.slice (some ⟨b1,o1,none⟩) l.length c):=q1
           have d2:wr.drew.cell? ⟨w.heap.size+1,1,none⟩=some (.slice (some ⟨b2,o2,none⟩) l.length d):=q2
           have e0:wr.drew.cell? ⟨b1,o1+k * 3,none⟩=some (.int .i64 s.kind):=(hbw.cell (p:=⟨b1,o1+k * 3,none⟩) hb1').trans x0
           have e1:wr.drew.cell? ⟨b1,o1+k * 3+1,none⟩=some v1:=(hbw.cell (p:=⟨b1,o1+k * 3+1,none⟩) hb1').trans x1
           have e2:wr.drew.cell? ⟨b1,o1+k * 3+2,none⟩=some (.int .i64 s.events):=(hbw.cell (p:=⟨b1,o1+k * 3+2,none⟩) hb1').trans x2
           have f0:wr.drew.cell? ⟨b2,o2+k * 3,none⟩=some (.int .i64 t.kind):=(hbw.cell (p:=⟨b2,o2+k * 3,none⟩) hb2').trans y0
           have f1:wr.drew.cell? ⟨b2,o2+k * 3+1,none⟩=some v2:=(hbw.cell (p:=⟨b2,o2+k * 3+1,none⟩) hb2').trans y1
           have f2:wr.drew.cell? ⟨b2,o2+k * 3+2,none⟩=some (.int .i64 t.events):=(hbw.cell (p:=⟨b2,o2+k * 3+2,none⟩) hb2').trans y2
           have hbwd:=hbw.drew
           have hbrd:=hbr.drew
           have cT:=iH v1 v2 s.names t.names wr.drew (n1.below hbwd) (n2.below hbwd) (HX.out s (List.mem_of_getElem? hs))
           have hno:=aa9 (fun h:s ≠ t=>(decide_eq_false (fun e=>cQ hs ht h (by injection e)):decide (Flt.mk false l=Flt.mk false m)=false))
           have hyes:=aa9 (fun h:s=t=>cc hs (by rw [ht,h]) Hall.out)
           clear hc1 hc2 x0 x1 x2 y0 y1 y2 n1 n2 hs ht Hall
           cases h1:(s.kind==t.kind) with
           | false=>
             have h1n:=dm h1
             have HV:=aa9 (hno.out (by intro e;rw [e] at h1;simp at h1))
             clear hno hyes cT HL HP HQ HA HB HZ HX
             go_wp2
             refine ah oL4 (fun W=>W.cell? ⟨w.heap.size,1,none⟩=some (.slice (some ⟨b1,o1,none⟩) l.length c)∧W.cell? ⟨w.heap.size+1,1,none⟩=some (.slice (some ⟨b2,o2,none⟩) l.length d)∧W.cell? ⟨b1,o1+k * 3,none⟩=some (.int .i64 s.kind)∧W.cell? ⟨b1,o1+k * 3+1,none⟩=some v1∧W.cell? ⟨b1,o1+k * 3+2,none⟩=some (.int .i64 s.events)∧W.cell? ⟨b2,o2+k * 3,none⟩=some (.int .i64 t.kind)∧W.cell? ⟨b2,o2+k * 3+1,none⟩=some v2∧W.cell? ⟨b2,o2+k * 3+2,none⟩=some (.int .i64 t.events)) (by kernel_rfl) (by kernel_rfl) (by kernel_rfl) (by kernel_rfl) ?_
             intro ops' hops
             simp only [oL4,List.map_cons,List.map_nil,ae,ag]
             iterate 14 (refine aa ?_ (fun _ _ _ h=>h) rfl ?_ ⟨d1,d2,e0,e1,e2,f0,f1,f2⟩ ?_;rotate_left;focus (intro W hS;obtain ⟨s1,s2,s3,s4,s5,s6,s7,s8⟩:=hS;go_simp;rfl))
             iterate 13 (refine aJ (fun _ _ _ h=>h) (by rw [hops.out];kernel_rfl) ⟨d1,d2,e0,e1,e2,f0,f1,f2⟩ ?_)
             iterate 2 (refine aa ?_ (fun _ _ _ h=>h) rfl ?_ ⟨d1,d2,e0,e1,e2,f0,f1,f2⟩ ?_;rotate_left;focus (intro W hS;obtain ⟨s1,s2,s3,s4,s5,s6,s7,s8⟩:=hS;go_simp;rfl))
             iterate 12 (refine aJ (fun _ _ _ h=>h) (by rw [hops.out];kernel_rfl) ⟨d1,d2,e0,e1,e2,f0,f1,f2⟩ ?_)
             refine bD ⟨d1,d2,e0,e1,e2,f0,f1,f2⟩ (by rw [hops.out];kernel_rfl) ?_
             iterate 1 (refine aJ (fun _ _ _ h=>h) (by rw [hops.out];kernel_rfl) ⟨d1,d2,e0,e1,e2,f0,f1,f2⟩ ?_)
             iterate 1 (refine aa ?_ (fun _ _ _ h=>h) rfl ?_ ⟨d1,d2,e0,e1,e2,f0,f1,f2⟩ ?_;rotate_left;focus (intro W hS;obtain ⟨s1,s2,s3,s4,s5,s6,s7,s8⟩:=hS;go_simp;rfl))
             refine ai ?_
             go_simp
             go_wp2
             go_ret
             exact ⟨by rw [HV.out];rfl,hbwd⟩
           | true=>
             have h1n:=kB h1
             cases h2:(s.events==t.events) with
             | false=>
               have h2n:=dm h2
               have HV:=aa9 (hno.out (by intro e;rw [e] at h2;simp at h2))
               clear hno hyes cT HL HP HQ HA HB HZ HX
               go_wp2
               refine ah oL4 (fun W=>W.cell? ⟨w.heap.size,1,none⟩=some (.slice (some ⟨b1,o1,none⟩) l.length c)∧W.cell? ⟨w.heap.size+1,1,none⟩=some (.slice (some ⟨b2,o2,none⟩) l.length d)∧W.cell? ⟨b1,o1+k * 3,none⟩=some (.int .i64 s.kind)∧W.cell? ⟨b1,o1+k * 3+1,none⟩=some v1∧W.cell? ⟨b1,o1+k * 3+2,none⟩=some (.int .i64 s.events)∧W.cell? ⟨b2,o2+k * 3,none⟩=some (.int .i64 t.kind)∧W.cell? ⟨b2,o2+k * 3+1,none⟩=some v2∧W.cell? ⟨b2,o2+k * 3+2,none⟩=some (.int .i64 t.events)) (by kernel_rfl) (by kernel_rfl) (by kernel_rfl) (by kernel_rfl) ?_
               intro ops' hops
               simp only [oL4,List.map_cons,List.map_nil,ae,ag]
               iterate 14 (refine aa ?_ (fun _ _ _ h=>h) rfl ?_ ⟨d1,d2,e0,e1,e2,f0,f1,f2⟩ ?_;rotate_left;focus (intro W hS;obtain ⟨s1,s2,s3,s4,s5,s6,s7,s8⟩:=hS;go_simp;rfl))
               iterate 13 (refine aa ?_ (fun _ _ _ h=>h) (by rw [hops.out];kernel_rfl) ?_ ⟨d1,d2,e0,e1,e2,f0,f1,f2⟩ ?_;rotate_left;focus (intro W hS;obtain ⟨s1,s2,s3,s4,s5,s6,s7,s8⟩:=hS;go_simp;rfl))
               iterate 2 (refine aa ?_ (fun _ _ _ h=>h) rfl ?_ ⟨d1,d2,e0,e1,e2,f0,f1,f2⟩ ?_;rotate_left;focus (intro W hS;obtain ⟨s1,s2,s3,s4,s5,s6,s7,s8⟩:=hS;go_simp;rfl))
               iterate 12 (refine aJ (fun _ _ _ h=>h) (by rw [hops.out];kernel_rfl) ⟨d1,d2,e0,e1,e2,f0,f1,f2⟩ ?_)
               refine bD ⟨d1,d2,e0,e1,e2,f0,f1,f2⟩ (by rw [hops.out];kernel_rfl) ?_
               iterate 1 (refine aJ (fun _ _ _ h=>h) (by rw [hops.out];kernel_rfl) ⟨d1,d2,e0,e1,e2,f0,f1,f2⟩ ?_)
               iterate 1 (refine aa ?_ (fun _ _ _ h=>h) rfl ?_ ⟨d1,d2,e0,e1,e2,f0,f1,f2⟩ ?_;rotate_left;focus (intro W hS;obtain ⟨s1,s2,s3,s4,s5,s6,s7,s8⟩:=hS;go_simp;rfl))
               refine ai ?_
               go_simp
               go_wp2
               go_ret
               exact ⟨by rw [HV.out];rfl,hbwd⟩
             | true=>
               have h2n:=kB h2
               cases h3:decide (s.names=t.names) with
               | false=>
                 have HV:=aa9 (hno.out (by intro e;rw [e] at h3;simp at h3))
                 rw [h3] at cT
                 have CT:=aa9 cT
                 have hz1:b1 < wr.drew.heap.size:=Nat.lt_of_lt_of_le hb1' hbwd.size
                 have hz2:b2 < wr.drew.heap.size:=Nat.lt_of_lt_of_le hb2' hbwd.size
                 clear hno hyes cT HL HP HQ HA HB HZ HX
                 go_wp2
                 refine ah oL4 (fun W=>W.cell? ⟨w.heap.size,1,none⟩=some (.slice (some ⟨b1,o1,none⟩) l.length c)∧W.cell? ⟨w.heap.size+1,1,none⟩=some (.slice (some ⟨b2,o2,none⟩) l.length d)∧W.cell? ⟨b1,o1+k * 3,none⟩=some (.int .i64 s.kind)∧W.cell? ⟨b1,o1+k * 3+1,none⟩=some v1∧W.cell? ⟨b1,o1+k * 3+2,none⟩=some (.int .i64 s.events)∧W.cell? ⟨b2,o2+k * 3,none⟩=some (.int .i64 t.kind)∧W.cell? ⟨b2,o2+k * 3+1,none⟩=some v2∧W.cell? ⟨b2,o2+k * 3+2,none⟩=some (.int .i64 t.events)) (by kernel_rfl) (by kernel_rfl) (by kernel_rfl) (by kernel_rfl) ?_
                 intro ops' hops
                 simp only [oL4,List.map_cons,List.map_nil,ae,ag]
                 iterate 14 (refine aa ?_ (fun _ _ _ h=>h) rfl ?_ ⟨d1,d2,e0,e1,e2,f0,f1,f2⟩ ?_;rotate_left;focus (intro W hS;obtain ⟨s1,s2,s3,s4,s5,s6,s7,s8⟩:=hS;go_simp;rfl))
                 iterate 13 (refine aa ?_ (fun _ _ _ h=>h) (by rw [hops.out];kernel_rfl) ?_ ⟨d1,d2,e0,e1,e2,f0,f1,f2⟩ ?_;rotate_left;focus (intro W hS;obtain ⟨s1,s2,s3,s4,s5,s6,s7,s8⟩:=hS;go_simp;rfl))
                 iterate 2 (refine aa ?_ (fun _ _ _ h=>h) rfl ?_ ⟨d1,d2,e0,e1,e2,f0,f1,f2⟩ ?_;rotate_left;focus (intro W hS;obtain ⟨s1,s2,s3,s4,s5,s6,s7,s8⟩:=hS;go_simp;rfl))
                 iterate 12 (refine aa ?_ (fun _ _ _ h=>h) (by rw [hops.out];kernel_rfl) ?_ ⟨d1,d2,e0,e1,e2,f0,f1,f2⟩ ?_;rotate_left;focus (intro W hS;obtain ⟨s1,s2,s3,s4,s5,s6,s7,s8⟩:=hS;go_simp;rfl))
                 refine al (by rw [hops.out];kernel_rfl) ?_
                 go_simp
                 refine (CT.out).mono ?_
                 rintro e w2 ⟨rfl,b3⟩
                 have z1:w2.cell? ⟨w.heap.size,1,none⟩=some (.slice (some ⟨b1,o1,none⟩) l.length c):=(b3.cell (p:=⟨w.heap.size,1,none⟩) (by show w.heap.size < wr.heap.size;omega)).trans d1
                 have z2:w2.cell? ⟨w.heap.size+1,1,none⟩=some (.slice (some ⟨b2,o2,none⟩) l.length d):=(b3.cell (p:=⟨w.heap.size+1,1,none⟩) (by show w.heap.size+1 < wr.heap.size;omega)).trans d2
                 have S2:=aa9 (show w2.cell? ⟨w.heap.size,1,none⟩=some (.slice (some ⟨b1,o1,none⟩) l.length c)∧w2.cell? ⟨w.heap.size+1,1,none⟩=some (.slice (some ⟨b2,o2,none⟩) l.length d)∧w2.cell? ⟨b1,o1+k * 3,none⟩=some (.int .i64 s.kind)∧w2.cell? ⟨b1,o1+k * 3+1,none⟩=some v1∧w2.cell? ⟨b1,o1+k * 3+2,none⟩=some (.int .i64 s.events)∧w2.cell? ⟨b2,o2+k * 3,none⟩=some (.int .i64 t.kind)∧w2.cell? ⟨b2,o2+k * 3+1,none⟩=some v2∧w2.cell? ⟨b2,o2+k * 3+2,none⟩=some (.int .i64 t.events) from ⟨z1,z2,(b3.cell (p:=⟨b1,o1+k * 3,none⟩) hz1).trans e0,(b3.cell (p:=⟨b1,o1+k * 3+1,none⟩) hz1).trans e1,(b3.cell (p:=⟨b1,o1+k * 3+2,none⟩) hz1).trans e2,(b3.cell (p:=⟨b2,o2+k * 3,none⟩) hz2).trans f0,(b3.cell (p:=⟨b2,o2+k * 3+1,none⟩) hz2).trans f1,(b3.cell (p:=⟨b2,o2+k * 3+2,none⟩) hz2).trans f2⟩)
                 refine ⟨S2.out,?_⟩
                 iterate 1 (refine aa ?_ (fun _ _ _ h=>h) (by rw [hops.out];kernel_rfl) ?_ S2.out ?_;rotate_left;focus (intro W hS;obtain ⟨s1,s2,s3,s4,s5,s6,s7,s8⟩:=hS;go_simp;rfl))
                 iterate 1 (refine aa ?_ (fun _ _ _ h=>h) rfl ?_ S2.out ?_;rotate_left;focus (intro W hS;obtain ⟨s1,s2,s3,s4,s5,s6,s7,s8⟩:=hS;go_simp;rfl))
                 refine ai ?_
                 go_simp
                 go_wp2
                 go_ret
                 exact ⟨by rw [HV.out];rfl,hbwd.trans (b3.mono (by show w.heap.size≤wr.heap.size;omega))⟩
               | true=>
                 have hst:s=t:=by
                  have g1:s.kind=t.kind:=by simpa using h1
                  have g2:s.events=t.events:=by simpa using h2
                  have g3:s.names=t.names:=by simpa using h3
                  cases s;cases t;simp only at g1 g2 g3;rw [g1,g2,g3]
                 have HN:=aa9 (hyes.out hst)
                 rw [h3] at cT
                 have CT:=aa9 cT
                 have hz1:b1 < wr.drew.heap.size:=Nat.lt_of_lt_of_le hb1' hbwd.size
                 have hz2:b2 < wr.drew.heap.size:=Nat.lt_of_lt_of_le hb2' hbwd.size
                 clear hno hyes cT hst
                 go_wp2
                 refine ah oL4 (fun W=>W.cell? ⟨w.heap.size,1,none⟩=some (.slice (some ⟨b1,o1,none⟩) l.length c)∧W.cell? ⟨w.heap.size+1,1,none⟩=some (.slice (some ⟨b2,o2,none⟩) l.length d)∧W.cell? ⟨b1,o1+k * 3,none⟩=some (.int .i64 s.kind)∧W.cell? ⟨b1,o1+k * 3+1,none⟩=some v1∧W.cell? ⟨b1,o1+k * 3+2,none⟩=some (.int .i64 s.events)∧W.cell? ⟨b2,o2+k * 3,none⟩=some (.int .i64 t.kind)∧W.cell? ⟨b2,o2+k * 3+1,none⟩=some v2∧W.cell? ⟨b2,o2+k * 3+2,none⟩=some (.int .i64 t.events)) (by kernel_rfl) (by kernel_rfl) (by kernel_rfl) (by kernel_rfl) ?_
                 intro ops' hops
                 simp only [oL4,List.map_cons,List.map_nil,ae,ag]
                 iterate 14 (refine aa ?_ (fun _ _ _ h=>h) rfl ?_ ⟨d1,d2,e0,e1,e2,f0,f1,f2⟩ ?_;rotate_left;focus (intro W hS;obtain ⟨s1,s2,s3,s4,s5,s6,s7,s8⟩:=hS;go_simp;rfl))
                 iterate 13 (refine aa ?_ (fun _ _ _ h=>h) (by rw [hops.out];kernel_rfl) ?_ ⟨d1,d2,e0,e1,e2,f0,f1,f2⟩ ?_;rotate_left;focus (intro W hS;obtain ⟨s1,s2,s3,s4,s5,s6,s7,s8⟩:=hS;go_simp;rfl))
                 iterate 2 (refine aa ?_ (fun _ _ _ h=>h) rfl ?_ ⟨d1,d2,e0,e1,e2,f0,f1,f2⟩ ?_;rotate_left;focus (intro W hS;obtain ⟨s1,s2,s3,s4,s5,s6,s7,s8⟩:=hS;go_simp;rfl))
                 iterate 12 (refine aa ?_ (fun _ _ _ h=>h) (by rw [hops.out];kernel_rfl) ?_ ⟨d1,d2,e0,e1,e2,f0,f1,f2⟩ ?_;rotate_left;focus (intro W hS;obtain ⟨s1,s2,s3,s4,s5,s6,s7,s8⟩:=hS;go_simp;rfl))
                 refine al (by rw [hops.out];kernel_rfl) ?_
                 go_simp
                 refine (CT.out).mono ?_
                 rintro e w2 ⟨rfl,b3⟩
                 have z1:w2.cell? ⟨w.heap.size,1,none⟩=some (.slice (some ⟨b1,o1,none⟩) l.length c):=(b3.cell (p:=⟨w.heap.size,1,none⟩) (by show w.heap.size < wr.heap.size;omega)).trans d1
                 have z2:w2.cell? ⟨w.heap.size+1,1,none⟩=some (.slice (some ⟨b2,o2,none⟩) l.length d):=(b3.cell (p:=⟨w.heap.size+1,1,none⟩) (by show w.heap.size+1 < wr.heap.size;omega)).trans d2
                 have S2:=aa9 (show w2.cell? ⟨w.heap.size,1,none⟩=some (.slice (some ⟨b1,o1,none⟩) l.length c)∧w2.cell? ⟨w.heap.size+1,1,none⟩=some (.slice (some ⟨b2,o2,none⟩) l.length d)∧w2.cell? ⟨b1,o1+k * 3,none⟩=some (.int .i64 s.kind)∧w2.cell? ⟨b1,o1+k * 3+1,none⟩=some v1∧w2.cell? ⟨b1,o1+k * 3+2,none⟩=some (.int .i64 s.events)∧w2.cell? ⟨b2,o2+k * 3,none⟩=some (.int .i64 t.kind)∧w2.cell? ⟨b2,o2+k * 3+1,none⟩=some v2∧w2.cell? ⟨b2,o2+k * 3+2,none⟩=some (.int .i64 t.events) from ⟨z1,z2,(b3.cell (p:=⟨b1,o1+k * 3,none⟩) hz1).trans e0,(b3.cell (p:=⟨b1,o1+k * 3+1,none⟩) hz1).trans e1,(b3.cell (p:=⟨b1,o1+k * 3+2,none⟩) hz1).trans e2,(b3.cell (p:=⟨b2,o2+k * 3,none⟩) hz2).trans f0,(b3.cell (p:=⟨b2,o2+k * 3+1,none⟩) hz2).trans f1,(b3.cell (p:=⟨b2,o2+k * 3+2,none⟩) hz2).trans f2⟩)
                 refine ⟨S2.out,?_⟩
                 iterate 1 (refine aa ?_ (fun _ _ _ h=>h) (by rw [hops.out];kernel_rfl) ?_ S2.out ?_;rotate_left;focus (intro W hS;obtain ⟨s1,s2,s3,s4,s5,s6,s7,s8⟩:=hS;go_simp;rfl))
                 iterate 1 (refine aa ?_ (fun _ _ _ h=>h) rfl ?_ S2.out ?_;rotate_left;focus (intro W hS;obtain ⟨s1,s2,s3,s4,s5,s6,s7,s8⟩:=hS;go_simp;rfl))
                 refine ai ?_
                 go_simp
                 have hbn:=hbrd.trans (b3.mono (by show w.heap.size+2≤wr.heap.size;omega))
                 clear b3 d1 d2 e0 e1 e2 f0 f1 f2 q1 q2 S2 z1 z2 hbwd hbrd hbw hbr CT
                 go_wp2
                 go_roundw
                 case rel=>exact ⟨k+1,by omega,by go_num,HN.out,hbn⟩
                 case measure=>simp [intOf];omega
         · obtain rfl:k=l.length:=by omega
           have HV:=aa9 (show decide (Flt.mk false l=Flt.mk false m)=true from decide_eq_true (by have:=Hall.out;rw [List.take_length,HL.out,List.take_length] at this;rw [this]))
           clear HL
           go_wp2
           go_ret
           exact ⟨by rw [HV.out];rfl,hbw⟩
      · go_enter Tryz.func43,Tryz.ntmps43
        go_wp2
        go_loopw [5] (fun i wr=> ∃ k:Nat,k≤l.length∧i= .int .i64 k∧l.take k=m.take k∧Below (w.heap.size+2) ((w.alloc (.cells #[.bool true,.slice p l.length c] 27)).alloc (.cells #[.bool true,.slice q l.length d] 27)) wr) (fun i _=>l.length - (intOf i).toNat)
        case atStart=>exact ⟨0,by omega,rfl,rfl,hbb⟩
        case round=>
         obtain ⟨k,hk,rfl,hall,hbr⟩:=hrel
         have hbw:=hb1.trans (hbr.mono (by omega))
         have hzr:w.heap.size+2≤wr.heap.size:=by have:=hbr.size;rw [HZ.out] at this;exact this
         have q1:wr.cell? ⟨w.heap.size,1,none⟩=some (.slice p l.length c):=(aa8 ((hbr.block w.heap.size (by omega)).trans HA.out) 1).trans rfl
         have q2:wr.cell? ⟨w.heap.size+1,1,none⟩=some (.slice q l.length d):=(aa8 ((hbr.block (w.heap.size+1) (by omega)).trans HB.out) 1).trans rfl
         have Hall:=aa9 hall
         clear hall hbb
         by_cases hlt:k < l.length
         · obtain ⟨b1,o1,rfl,hb1',hc1⟩:=HP.out.resolve_left (by intro h;subst h;simp at hlt)
           obtain ⟨b2,o2,rfl,hb2',hc2⟩:=HQ.out.resolve_left (by intro h;have hlen:=HL.out;rw [h] at hlen;simp at hlen;simp [hlen] at hlt)
           obtain ⟨s,hs⟩: ∃ x,l[k]? =some x:=⟨_,List.getElem?_eq_getElem hlt⟩
           obtain ⟨t,ht⟩: ∃ y,m[k]? =some y:=⟨_,List.getElem?_eq_getElem (by have:=HL.out;omega)⟩
           obtain ⟨v1,n1,x0,x1,x2⟩:=hc1 k s hs
           obtain ⟨v2,n2,y0,y1,y2⟩:=hc2 k t ht
           have d1:wr.drew.cell? ⟨w.heap.size,1,none⟩=some (.slice (some ⟨b1,o1,none⟩) l.length c):=q1
           have d2:wr.drew.cell? ⟨w.heap.size+1,1,none⟩=some (.slice (some ⟨b2,o2,none⟩) l.length d):=q2
           have e0:wr.drew.cell? ⟨b1,o1+k * 3,none⟩=some (.int .i64 s.kind):=(hbw.cell (p:=⟨b1,o1+k * 3,none⟩) hb1').trans x0
           have e1:wr.drew.cell? ⟨b1,o1+k * 3+1,none⟩=some v1:=(hbw.cell (p:=⟨b1,o1+k * 3+1,none⟩) hb1').trans x1
           have e2:wr.drew.cell? ⟨b1,o1+k * 3+2,none⟩=some (.int .i64 s.events):=(hbw.cell (p:=⟨b1,o1+k * 3+2,none⟩) hb1').trans x2
           have f0:wr.drew.cell? ⟨b2,o2+k * 3,none⟩=some (.int .i64 t.kind):=(hbw.cell (p:=⟨b2,o2+k * 3,none⟩) hb2').trans y0
           have f1:wr.drew.cell? ⟨b2,o2+k * 3+1,none⟩=some v2:=(hbw.cell (p:=⟨b2,o2+k * 3+1,none⟩) hb2').trans y1
           have f2:wr.drew.cell? ⟨b2,o2+k * 3+2,none⟩=some (.int .i64 t.events):=(hbw.cell (p:=⟨b2,o2+k * 3+2,none⟩) hb2').trans y2
           have hbwd:=hbw.drew
           have hbrd:=hbr.drew
           have cT:=iH v1 v2 s.names t.names wr.drew (n1.below hbwd) (n2.below hbwd) (HX.out s (List.mem_of_getElem? hs))
           have hno:=aa9 (fun h:s ≠ t=>(decide_eq_false (fun e=>cQ hs ht h (by injection e)):decide (Flt.mk true l=Flt.mk true m)=false))
           have hyes:=aa9 (fun h:s=t=>cc hs (by rw [ht,h]) Hall.out)
           clear hc1 hc2 x0 x1 x2 y0 y1 y2 n1 n2 hs ht Hall
           cases h1:(s.kind==t.kind) with
           | false=>
             have h1n:=dm h1
             have HV:=aa9 (hno.out (by intro e;rw [e] at h1;simp at h1))
             clear hno hyes cT HL HP HQ HA HB HZ HX
             go_wp2
             refine ah oL4 (fun W=>W.cell? ⟨w.heap.size,1,none⟩=some (.slice (some ⟨b1,o1,none⟩) l.length c)∧W.cell? ⟨w.heap.size+1,1,none⟩=some (.slice (some ⟨b2,o2,none⟩) l.length d)∧W.cell? ⟨b1,o1+k * 3,none⟩=some (.int .i64 s.kind)∧W.cell? ⟨b1,o1+k * 3+1,none⟩=some v1∧W.cell? ⟨b1,o1+k * 3+2,none⟩=some (.int .i64 s.events)∧W.cell? ⟨b2,o2+k * 3,none⟩=some (.int .i64 t.kind)∧W.cell? ⟨b2,o2+k * 3+1,none⟩=some v2∧W.cell? ⟨b2,o2+k * 3+2,none⟩=some (.int .i64 t.events)) (by kernel_rfl) (by kernel_rfl) (by kernel_rfl) (by kernel_rfl) ?_
             intro ops' hops
             simp only [oL4,List.map_cons,List.map_nil,ae,ag]
             iterate 14 (refine aa ?_ (fun _ _ _ h=>h) rfl ?_ ⟨d1,d2,e0,e1,e2,f0,f1,f2⟩ ?_;rotate_left;focus (intro W hS;obtain ⟨s1,s2,s3,s4,s5,s6,s7,s8⟩:=hS;go_simp;rfl))
             iterate 13 (refine aJ (fun _ _ _ h=>h) (by rw [hops.out];kernel_rfl) ⟨d1,d2,e0,e1,e2,f0,f1,f2⟩ ?_)
             iterate 2 (refine aa ?_ (fun _ _ _ h=>h) rfl ?_ ⟨d1,d2,e0,e1,e2,f0,f1,f2⟩ ?_;rotate_left;focus (intro W hS;obtain ⟨s1,s2,s3,s4,s5,s6,s7,s8⟩:=hS;go_simp;rfl))
             iterate 12 (refine aJ (fun _ _ _ h=>h) (by rw [hops.out];kernel_rfl) ⟨d1,d2,e0,e1,e2,f0,f1,f2⟩ ?_)
             refine bD ⟨d1,d2,e0,e1,e2,f0,f1,f2⟩ (by rw [hops.out];kernel_rfl) ?_
             iterate 1 (refine aJ (fun _ _ _ h=>h) (by rw [hops.out];kernel_rfl) ⟨d1,d2,e0,e1,e2,f0,f1,f2⟩ ?_)
             iterate 1 (refine aa ?_ (fun _ _ _ h=>h) rfl ?_ ⟨d1,d2,e0,e1,e2,f0,f1,f2⟩ ?_;rotate_left;focus (intro W hS;obtain ⟨s1,s2,s3,s4,s5,s6,s7,s8⟩:=hS;go_simp;rfl))
             refine ai ?_
             go_simp
             go_wp2
             go_ret
             exact ⟨by rw [HV.out];rfl,hbwd⟩
           | true=>
             have h1n:=kB h1
             cases h2:(s.events==t.events) with
             | false=>
               have h2n:=dm h2
               have HV:=aa9 (hno.out (by intro e;rw [e] at h2;simp at h2))
               clear hno hyes cT HL HP HQ HA HB HZ HX
               go_wp2
               refine ah oL4 (fun W=>W.cell? ⟨w.heap.size,1,none⟩=some (.slice (some ⟨b1,o1,none⟩) l.length c)∧W.cell? ⟨w.heap.size+1,1,none⟩=some (.slice (some ⟨b2,o2,none⟩) l.length d)∧W.cell? ⟨b1,o1+k * 3,none⟩=some (.int .i64 s.kind)∧W.cell? ⟨b1,o1+k * 3+1,none⟩=some v1∧W.cell? ⟨b1,o1+k * 3+2,none⟩=some (.int .i64 s.events)∧W.cell? ⟨b2,o2+k * 3,none⟩=some (.int .i64 t.kind)∧W.cell? ⟨b2,o2+k * 3+1,none⟩=some v2∧W.cell? ⟨b2,o2+k * 3+2,none⟩=some (.int .i64 t.events)) (by kernel_rfl) (by kernel_rfl) (by kernel_rfl) (by kernel_rfl) ?_
               intro ops' hops
               simp only [oL4,List.map_cons,List.map_nil,ae,ag]
               iterate 14 (refine aa ?_ (fun _ _ _ h=>h) rfl ?_ ⟨d1,d2,e0,e1,e2,f0,f1,f2⟩ ?_;rotate_left;focus (intro W hS;obtain ⟨s1,s2,s3,s4,s5,s6,s7,s8⟩:=hS;go_simp;rfl))
               iterate 13 (refine aa ?_ (fun _ _ _ h=>h) (by rw [hops.out];kernel_rfl) ?_ ⟨d1,d2,e0,e1,e2,f0,f1,f2⟩ ?_;rotate_left;focus (intro W hS;obtain ⟨s1,s2,s3,s4,s5,s6,s7,s8⟩:=hS;go_simp;rfl))
               iterate 2 (refine aa ?_ (fun _ _ _ h=>h) rfl ?_ ⟨d1,d2,e0,e1,e2,f0,f1,f2⟩ ?_;rotate_left;focus (intro W hS;obtain ⟨s1,s2,s3,s4,s5,s6,s7,s8⟩:=hS;go_simp;rfl))
               iterate 12 (refine aJ (fun _ _ _ h=>h) (by rw [hops.out];kernel_rfl) ⟨d1,d2,e0,e1,e2,f0,f1,f2⟩ ?_)
               refine bD ⟨d1,d2,e0,e1,e2,f0,f1,f2⟩ (by rw [hops.out];kernel_rfl) ?_
               iterate 1 (refine aJ (fun _ _ _ h=>h) (by rw [hops.out];kernel_rfl) ⟨d1,d2,e0,e1,e2,f0,f1,f2⟩ ?_)
               iterate 1 (refine aa ?_ (fun _ _ _ h=>h) rfl ?_ ⟨d1,d2,e0,e1,e2,f0,f1,f2⟩ ?_;rotate_left;focus (intro W hS;obtain ⟨s1,s2,s3,s4,s5,s6,s7,s8⟩:=hS;go_simp;rfl))
               refine ai ?_
               go_simp
               go_wp2
               go_ret
               exact ⟨by rw [HV.out];rfl,hbwd⟩
             | true=>
               have h2n:=kB h2
               cases h3:decide (s.names=t.names) with
               | false=>
                 have HV:=aa9 (hno.out (by intro e;rw [e] at h3;simp at h3))
                 rw [h3] at cT
                 have CT:=aa9 cT
                 have hz1:b1 < wr.drew.heap.size:=Nat.lt_of_lt_of_le hb1' hbwd.size
                 have hz2:b2 < wr.drew.heap.size:=Nat.lt_of_lt_of_le hb2' hbwd.size
                 clear hno hyes cT HL HP HQ HA HB HZ HX
                 go_wp2
                 refine ah oL4 (fun W=>W.cell? ⟨w.heap.size,1,none⟩=some (.slice (some ⟨b1,o1,none⟩) l.length c)∧W.cell? ⟨w.heap.size+1,1,none⟩=some (.slice (some ⟨b2,o2,none⟩) l.length d)∧W.cell? ⟨b1,o1+k * 3,none⟩=some (.int .i64 s.kind)∧W.cell? ⟨b1,o1+k * 3+1,none⟩=some v1∧W.cell? ⟨b1,o1+k * 3+2,none⟩=some (.int .i64 s.events)∧W.cell? ⟨b2,o2+k * 3,none⟩=some (.int .i64 t.kind)∧W.cell? ⟨b2,o2+k * 3+1,none⟩=some v2∧W.cell? ⟨b2,o2+k * 3+2,none⟩=some (.int .i64 t.events)) (by kernel_rfl) (by kernel_rfl) (by kernel_rfl) (by kernel_rfl) ?_
                 intro ops' hops
                 simp only [oL4,List.map_cons,List.map_nil,ae,ag]
                 iterate 14 (refine aa ?_ (fun _ _ _ h=>h) rfl ?_ ⟨d1,d2,e0,e1,e2,f0,f1,f2⟩ ?_;rotate_left;focus (intro W hS;obtain ⟨s1,s2,s3,s4,s5,s6,s7,s8⟩:=hS;go_simp;rfl))
                 iterate 13 (refine aa ?_ (fun _ _ _ h=>h) (by rw [hops.out];kernel_rfl) ?_ ⟨d1,d2,e0,e1,e2,f0,f1,f2⟩ ?_;rotate_left;focus (intro W hS;obtain ⟨s1,s2,s3,s4,s5,s6,s7,s8⟩:=hS;go_simp;rfl))
                 iterate 2 (refine aa ?_ (fun _ _ _ h=>h) rfl ?_ ⟨d1,d2,e0,e1,e2,f0,f1,f2⟩ ?_;rotate_left;focus (intro W hS;obtain ⟨s1,s2,s3,s4,s5,s6,s7,s8⟩:=hS;go_simp;rfl))
                 iterate 12 (refine aa ?_ (fun _ _ _ h=>h) (by rw [hops.out];kernel_rfl) ?_ ⟨d1,d2,e0,e1,e2,f0,f1,f2⟩ ?_;rotate_left;focus (intro W hS;obtain ⟨s1,s2,s3,s4,s5,s6,s7,s8⟩:=hS;go_simp;rfl))
                 refine al (by rw [hops.out];kernel_rfl) ?_
                 go_simp
                 refine (CT.out).mono ?_
                 rintro e w2 ⟨rfl,b3⟩
                 have z1:w2.cell? ⟨w.heap.size,1,none⟩=some (.slice (some ⟨b1,o1,none⟩) l.length c):=(b3.cell (p:=⟨w.heap.size,1,none⟩) (by show w.heap.size < wr.heap.size;omega)).trans d1
                 have z2:w2.cell? ⟨w.heap.size+1,1,none⟩=some (.slice (some ⟨b2,o2,none⟩) l.length d):=(b3.cell (p:=⟨w.heap.size+1,1,none⟩) (by show w.heap.size+1 < wr.heap.size;omega)).trans d2
                 have S2:=aa9 (show w2.cell? ⟨w.heap.size,1,none⟩=some (.slice (some ⟨b1,o1,none⟩) l.length c)∧w2.cell? ⟨w.heap.size+1,1,none⟩=some (.slice (some ⟨b2,o2,none⟩) l.length d)∧w2.cell? ⟨b1,o1+k * 3,none⟩=some (.int .i64 s.kind)∧w2.cell? ⟨b1,o1+k * 3+1,none⟩=some v1∧w2.cell? ⟨b1,o1+k * 3+2,none⟩=some (.int .i64 s.events)∧w2.cell? ⟨b2,o2+k * 3,none⟩=some (.int .i64 t.kind)∧w2.cell? ⟨b2,o2+k * 3+1,none⟩=some v2∧w2.cell? ⟨b2,o2+k * 3+2,none⟩=some (.int .i64 t.events) from ⟨z1,z2,(b3.cell (p:=⟨b1,o1+k * 3,none⟩) hz1).trans e0,(b3.cell (p:=⟨b1,o1+k * 3+1,none⟩) hz1).trans e1,(b3.cell (p:=⟨b1,o1+k * 3+2,none⟩) hz1).trans e2,(b3.cell (p:=⟨b2,o2+k * 3,none⟩) hz2).trans f0,(b3.cell (p:=⟨b2,o2+k * 3+1,none⟩) hz2).trans f1,(b3.cell (p:=⟨b2,o2+k * 3+2,none⟩) hz2).trans f2⟩)
                 refine ⟨S2.out,?_⟩
                 iterate 1 (refine aa ?_ (fun _ _ _ h=>h) (by rw [hops.out];kernel_rfl) ?_ S2.out ?_;rotate_left;focus (intro W hS;obtain ⟨s1,s2,s3,s4,s5,s6,s7,s8⟩:=hS;go_simp;rfl))
                 iterate 1 (refine aa ?_ (fun _ _ _ h=>h) rfl ?_ S2.out ?_;rotate_left;focus (intro W hS;obtain ⟨s1,s2,s3,s4,s5,s6,s7,s8⟩:=hS;go_simp;rfl))
                 refine ai ?_
                 go_simp
                 go_wp2
                 go_ret
                 exact ⟨by rw [HV.out];rfl,hbwd.trans (b3.mono (by show w.heap.size≤wr.heap.size;omega))⟩
               | true=>
                 have hst:s=t:=by
                  have g1:s.kind=t.kind:=by simpa using h1
                  have g2:s.events=t.events:=by simpa using h2
                  have g3:s.names=t.names:=by simpa using h3
                  cases s;cases t;simp only at g1 g2 g3;rw [g1,g2,g3]
                 have HN:=aa9 (hyes.out hst)
                 rw [h3] at cT
                 have CT:=aa9 cT
                 have hz1:b1 < wr.drew.heap.size:=Nat.lt_of_lt_of_le hb1' hbwd.size
                 have hz2:b2 < wr.drew.heap.size:=Nat.lt_of_lt_of_le hb2' hbwd.size
                 clear hno hyes cT hst
                 go_wp2
                 refine ah oL4 (fun W=>W.cell? ⟨w.heap.size,1,none⟩=some (.slice (some ⟨b1,o1,none⟩) l.length c)∧W.cell? ⟨w.heap.size+1,1,none⟩=some (.slice (some ⟨b2,o2,none⟩) l.length d)∧W.cell? ⟨b1,o1+k * 3,none⟩=some (.int .i64 s.kind)∧W.cell? ⟨b1,o1+k * 3+1,none⟩=some v1∧W.cell? ⟨b1,o1+k * 3+2,none⟩=some (.int .i64 s.events)∧W.cell? ⟨b2,o2+k * 3,none⟩=some (.int .i64 t.kind)∧W.cell? ⟨b2,o2+k * 3+1,none⟩=some v2∧W.cell? ⟨b2,o2+k * 3+2,none⟩=some (.int .i64 t.events)) (by kernel_rfl) (by kernel_rfl) (by kernel_rfl) (by kernel_rfl) ?_
                 intro ops' hops
                 simp only [oL4,List.map_cons,List.map_nil,ae,ag]
                 iterate 14 (refine aa ?_ (fun _ _ _ h=>h) rfl ?_ ⟨d1,d2,e0,e1,e2,f0,f1,f2⟩ ?_;rotate_left;focus (intro W hS;obtain ⟨s1,s2,s3,s4,s5,s6,s7,s8⟩:=hS;go_simp;rfl))
                 iterate 13 (refine aa ?_ (fun _ _ _ h=>h) (by rw [hops.out];kernel_rfl) ?_ ⟨d1,d2,e0,e1,e2,f0,f1,f2⟩ ?_;rotate_left;focus (intro W hS;obtain ⟨s1,s2,s3,s4,s5,s6,s7,s8⟩:=hS;go_simp;rfl))
                 iterate 2 (refine aa ?_ (fun _ _ _ h=>h) rfl ?_ ⟨d1,d2,e0,e1,e2,f0,f1,f2⟩ ?_;rotate_left;focus (intro W hS;obtain ⟨s1,s2,s3,s4,s5,s6,s7,s8⟩:=hS;go_simp;rfl))
                 iterate 12 (refine aa ?_ (fun _ _ _ h=>h) (by rw [hops.out];kernel_rfl) ?_ ⟨d1,d2,e0,e1,e2,f0,f1,f2⟩ ?_;rotate_left;focus (intro W hS;obtain ⟨s1,s2,s3,s4,s5,s6,s7,s8⟩:=hS;go_simp;rfl))
                 refine al (by rw [hops.out];kernel_rfl) ?_
                 go_simp
                 refine (CT.out).mono ?_
                 rintro e w2 ⟨rfl,b3⟩
                 have z1:w2.cell? ⟨w.heap.size,1,none⟩=some (.slice (some ⟨b1,o1,none⟩) l.length c):=(b3.cell (p:=⟨w.heap.size,1,none⟩) (by show w.heap.size < wr.heap.size;omega)).trans d1
                 have z2:w2.cell? ⟨w.heap.size+1,1,none⟩=some (.slice (some ⟨b2,o2,none⟩) l.length d):=(b3.cell (p:=⟨w.heap.size+1,1,none⟩) (by show w.heap.size+1 < wr.heap.size;omega)).trans d2
                 have S2:=aa9 (show w2.cell? ⟨w.heap.size,1,none⟩=some (.slice (some ⟨b1,o1,none⟩) l.length c)∧w2.cell? ⟨w.heap.size+1,1,none⟩=some (.slice (some ⟨b2,o2,none⟩) l.length d)∧w2.cell? ⟨b1,o1+k * 3,none⟩=some (.int .i64 s.kind)∧w2.cell? ⟨b1,o1+k * 3+1,none⟩=some v1∧w2.cell? ⟨b1,o1+k * 3+2,none⟩=some (.int .i64 s.events)∧w2.cell? ⟨b2,o2+k * 3,none⟩=some (.int .i64 t.kind)∧w2.cell? ⟨b2,o2+k * 3+1,none⟩=some v2∧w2.cell? ⟨b2,o2+k * 3+2,none⟩=some (.int .i64 t.events) from ⟨z1,z2,(b3.cell (p:=⟨b1,o1+k * 3,none⟩) hz1).trans e0,(b3.cell (p:=⟨b1,o1+k * 3+1,none⟩) hz1).trans e1,(b3.cell (p:=⟨b1,o1+k * 3+2,none⟩) hz1).trans e2,(b3.cell (p:=⟨b2,o2+k * 3,none⟩) hz2).trans f0,(b3.cell (p:=⟨b2,o2+k * 3+1,none⟩) hz2).trans f1,(b3.cell (p:=⟨b2,o2+k * 3+2,none⟩) hz2).trans f2⟩)
                 refine ⟨S2.out,?_⟩
                 iterate 1 (refine aa ?_ (fun _ _ _ h=>h) (by rw [hops.out];kernel_rfl) ?_ S2.out ?_;rotate_left;focus (intro W hS;obtain ⟨s1,s2,s3,s4,s5,s6,s7,s8⟩:=hS;go_simp;rfl))
                 iterate 1 (refine aa ?_ (fun _ _ _ h=>h) rfl ?_ S2.out ?_;rotate_left;focus (intro W hS;obtain ⟨s1,s2,s3,s4,s5,s6,s7,s8⟩:=hS;go_simp;rfl))
                 refine ai ?_
                 go_simp
                 have hbn:=hbrd.trans (b3.mono (by show w.heap.size+2≤wr.heap.size;omega))
                 clear b3 d1 d2 e0 e1 e2 f0 f1 f2 q1 q2 S2 z1 z2 hbwd hbrd hbw hbr CT
                 go_wp2
                 go_roundw
                 case rel=>exact ⟨k+1,by omega,by go_num,HN.out,hbn⟩
                 case measure=>simp [intOf];omega
         · obtain rfl:k=l.length:=by omega
           have HV:=aa9 (show decide (Flt.mk true l=Flt.mk true m)=true from decide_eq_true (by have:=Hall.out;rw [List.take_length,HL.out,List.take_length] at this;rw [this]))
           clear HL
           go_wp2
           go_ret
           exact ⟨by rw [HV.out];rfl,hbw⟩
     exact hgo on rfl
   · have HV:=aa9 (show decide (Flt.mk on l=Flt.mk on m)=false from decide_eq_false (fun e=>hlen (by injection e with _ e;rw [e])))
     have hne:((l.length:Int)==(m.length:Int))=false:=cFalse (by omega)
     have hnn:=dm hne
     clear HA HB HP HQ HX HZ
     cases on with
     | _=>
       go_enter Tryz.func43,Tryz.ntmps43
       go_wp2
       go_ret
       exact ⟨by rw [HV.out];rfl,hb1⟩
 · have HV:=aa9 hV
   clear HA HB HP HQ HX HZ hV
   cases on <;> cases on2 <;> first | (exact absurd rfl hno) | skip
   · go_enter Tryz.func43,Tryz.ntmps43
     go_wp2
     go_ret
     exact ⟨by rw [HV.out];rfl,hb1⟩
   · go_enter Tryz.func43,Tryz.ntmps43
     go_wp2
     go_ret
     exact ⟨by rw [HV.out];rfl,hb1⟩
end Go.Proofs.YtmlgkoeacbeopaaGreatDoor
