/- Up -/
import Derived.Test.YtmlgkoeacbeopaaGreatDoorUg
import Derived.Test.YtmlgkoeacbeopaaGreatDoorUh
set_option maxHeartbeats 6400000
namespace Go.Proofs.YtmlgkoeacbeopaaGreatDoor
open Go.RowKit
set_option maxRecDepth 20000 in
theorem gV (x y:ap) (a5 a10 b5 b10:Value) (w:World) (ha:az w (am x.sset) a5) (ha2:az w (aj x.filter.scopes) a10) (hb:az w (am y.sset) b5) (hb2:az w (aj y.filter.scopes) b10)
 (hl:x.sset.length≤140737488355328) (hl2:x.filter.scopes.length≤140737488355328) (hl3: ∀ s∈x.filter.scopes,s.names.length≤140737488355328):
 Calls Tryz.prog 15 #[bQ x a5 a10,bQ y b5 b10] w fun e w'=>e= .returned (.bool (decide (x=y)))∧Below w.heap.size w w':=by
 have cs:=fun W (h:Below w.heap.size w W)=>qg a5 b5 x.sset y.sset W (az.below h _ _ ha) (az.below h _ _ hb) hl
 have cf:=fun W (h:Below w.heap.size w W)=>iI x.filter y.filter a10 b10 W (az.below h _ _ ha2) (az.below h _ _ hb2) hl2 hl3
 obtain ⟨p,c,rfl,_⟩:=Spn.at ha
 obtain ⟨p2,c2,rfl,_⟩:=Spn.at hb
 obtain ⟨q,d,rfl,_⟩:=cq ha2
 obtain ⟨q2,d2,rfl,_⟩:=cq hb2
 have hb1:Below w.heap.size w ((w.alloc (.cells #[sv x.tag,.int .i64 x.kind,sv x.box,sv x.dst,.bool x.uid,.slice p x.sset.length c,.int .i64 x.op,.int .i64 x.flags,sv x.text,.bool x.filter.on,.slice q x.filter.scopes.length d] 29)).alloc (.cells #[sv y.tag,.int .i64 y.kind,sv y.box,sv y.dst,.bool y.uid,.slice p2 y.sset.length c2,.int .i64 y.op,.int .i64 y.flags,sv y.text,.bool y.filter.on,.slice q2 y.filter.scopes.length d2] 29)):=((Below.refl _ _).alloc (Nat.le_refl _) _).alloc (by simp) _
 have hA:((w.alloc (.cells #[sv x.tag,.int .i64 x.kind,sv x.box,sv x.dst,.bool x.uid,.slice p x.sset.length c,.int .i64 x.op,.int .i64 x.flags,sv x.text,.bool x.filter.on,.slice q x.filter.scopes.length d] 29)).alloc (.cells #[sv y.tag,.int .i64 y.kind,sv y.box,sv y.dst,.bool y.uid,.slice p2 y.sset.length c2,.int .i64 y.op,.int .i64 y.flags,sv y.text,.bool y.filter.on,.slice q2 y.filter.scopes.length d2] 29)).heap[w.heap.size]? =some (.cells #[sv x.tag,.int .i64 x.kind,sv x.box,sv x.dst,.bool x.uid,.slice p x.sset.length c,.int .i64 x.op,.int .i64 x.flags,sv x.text,.bool x.filter.on,.slice q x.filter.scopes.length d] 29 (0,0)):=(Below.heap_alloc _ _ _ (by simp)).trans (heap_alloc_new w _)
 have hB:((w.alloc (.cells #[sv x.tag,.int .i64 x.kind,sv x.box,sv x.dst,.bool x.uid,.slice p x.sset.length c,.int .i64 x.op,.int .i64 x.flags,sv x.text,.bool x.filter.on,.slice q x.filter.scopes.length d] 29)).alloc (.cells #[sv y.tag,.int .i64 y.kind,sv y.box,sv y.dst,.bool y.uid,.slice p2 y.sset.length c2,.int .i64 y.op,.int .i64 y.flags,sv y.text,.bool y.filter.on,.slice q2 y.filter.scopes.length d2] 29)).heap[w.heap.size+1]? =some (.cells #[sv y.tag,.int .i64 y.kind,sv y.box,sv y.dst,.bool y.uid,.slice p2 y.sset.length c2,.int .i64 y.op,.int .i64 y.flags,sv y.text,.bool y.filter.on,.slice q2 y.filter.scopes.length d2] 29 (0,0)):=by
  have:=heap_alloc_new (w.alloc (.cells #[sv x.tag,.int .i64 x.kind,sv x.box,sv x.dst,.bool x.uid,.slice p x.sset.length c,.int .i64 x.op,.int .i64 x.flags,sv x.text,.bool x.filter.on,.slice q x.filter.scopes.length d] 29)) (.cells #[sv y.tag,.int .i64 y.kind,sv y.box,sv y.dst,.bool y.uid,.slice p2 y.sset.length c2,.int .i64 y.op,.int .i64 y.flags,sv y.text,.bool y.filter.on,.slice q2 y.filter.scopes.length d2] 29)
  rwa [World.size_alloc] at this
 have hz1:((w.alloc (.cells #[sv x.tag,.int .i64 x.kind,sv x.box,sv x.dst,.bool x.uid,.slice p x.sset.length c,.int .i64 x.op,.int .i64 x.flags,sv x.text,.bool x.filter.on,.slice q x.filter.scopes.length d] 29)).alloc (.cells #[sv y.tag,.int .i64 y.kind,sv y.box,sv y.dst,.bool y.uid,.slice p2 y.sset.length c2,.int .i64 y.op,.int .i64 y.flags,sv y.text,.bool y.filter.on,.slice q2 y.filter.scopes.length d2] 29)).heap.size=w.heap.size+2:=by simp
 have HA:=aa9 hA
 have HB:=aa9 hB
 have HZ:=aa9 hz1
 have HNE:=aa9 (fun h:x ≠ y=>(decide_eq_false h:decide (x=y)=false))
 have CS:=aa9 cs
 have CF:=aa9 cf
 clear ha hb ha2 hb2 hA hB hz1 cs cf
 cases h_tag:(x.tag==y.tag) with
 | false=>
   have HV:=aa9 (HNE.out (by intro e;rw [e] at h_tag;simp at h_tag))
   go_enter Tryz.func15,Tryz.ntmps15
   go_wp2
   go_ret
   exact ⟨by rw [HV.out];rfl,hb1⟩
 | true=>
   cases h_kind:(x.kind==y.kind) with
   | false=>
     have HV:=aa9 (HNE.out (by intro e;rw [e] at h_kind;simp at h_kind))
     go_enter Tryz.func15,Tryz.ntmps15
     go_wp2
     go_ret
     exact ⟨by rw [HV.out];rfl,hb1⟩
   | true=>
     cases h_box:(x.box==y.box) with
     | false=>
       have HV:=aa9 (HNE.out (by intro e;rw [e] at h_box;simp at h_box))
       go_enter Tryz.func15,Tryz.ntmps15
       go_wp2
       go_ret
       exact ⟨by rw [HV.out];rfl,hb1⟩
     | true=>
       cases h_dst:(x.dst==y.dst) with
       | false=>
         have HV:=aa9 (HNE.out (by intro e;rw [e] at h_dst;simp at h_dst))
         go_enter Tryz.func15,Tryz.ntmps15
         go_wp2
         go_ret
         exact ⟨by rw [HV.out];rfl,hb1⟩
       | true=>
         cases h_uid:(x.uid==y.uid) with
         | false=>
           have HV:=aa9 (HNE.out (by intro e;rw [e] at h_uid;simp at h_uid))
           go_enter Tryz.func15,Tryz.ntmps15
           go_wp2
           go_ret
           exact ⟨by rw [HV.out];rfl,hb1⟩
         | true=>
           cases hS:decide (x.sset=y.sset) with
           | false=>
             have HV:=aa9 (HNE.out (by intro e;rw [e] at hS;simp at hS))
             go_enter Tryz.func15,Tryz.ntmps15
             rw [hS] at CS
             go_wp2_with fail
             refine (CS.out _ hb1).mono ?_
             rintro e w1 ⟨rfl,b1⟩
             have hb2:=hb1.trans (b1.mono (by rw [HZ.out];omega))
             have HA1:=aa9 ((b1.block w.heap.size (by rw [HZ.out];omega)).trans HA.out)
             have HB1:=aa9 ((b1.block (w.heap.size+1) (by rw [HZ.out];omega)).trans HB.out)
             have p6:w1.cell? ⟨w.heap.size,6,none⟩=some (.int .i64 x.op):=(aa8 HA1.out 6).trans rfl
             have q6:w1.cell? ⟨w.heap.size+1,6,none⟩=some (.int .i64 y.op):=(aa8 HB1.out 6).trans rfl
             have p7:w1.cell? ⟨w.heap.size,7,none⟩=some (.int .i64 x.flags):=(aa8 HA1.out 7).trans rfl
             have q7:w1.cell? ⟨w.heap.size+1,7,none⟩=some (.int .i64 y.flags):=(aa8 HB1.out 7).trans rfl
             have p8:w1.cell? ⟨w.heap.size,8,none⟩=some (sv x.text):=(aa8 HA1.out 8).trans rfl
             have q8:w1.cell? ⟨w.heap.size+1,8,none⟩=some (sv y.text):=(aa8 HB1.out 8).trans rfl
             have p9:w1.cell? ⟨w.heap.size,9,none⟩=some (.bool x.filter.on):=(aa8 HA1.out 9).trans rfl
             have q9:w1.cell? ⟨w.heap.size+1,9,none⟩=some (.bool y.filter.on):=(aa8 HB1.out 9).trans rfl
             have p10:w1.cell? ⟨w.heap.size,10,none⟩=some (.slice q x.filter.scopes.length d):=(aa8 HA1.out 10).trans rfl
             have q10:w1.cell? ⟨w.heap.size+1,10,none⟩=some (.slice q2 y.filter.scopes.length d2):=(aa8 HB1.out 10).trans rfl
             clear b1 CS hb1
             have hbz:=hb2
             go_wp2
             go_ret
             exact ⟨by rw [HV.out];rfl,hbz⟩
           | true=>
             cases h_op:(x.op==y.op) with
             | false=>
               have HV:=aa9 (HNE.out (by intro e;rw [e] at h_op;simp at h_op))
               go_enter Tryz.func15,Tryz.ntmps15
               rw [hS] at CS
               go_wp2_with fail
               refine (CS.out _ hb1).mono ?_
               rintro e w1 ⟨rfl,b1⟩
               have hb2:=hb1.trans (b1.mono (by rw [HZ.out];omega))
               have HA1:=aa9 ((b1.block w.heap.size (by rw [HZ.out];omega)).trans HA.out)
               have HB1:=aa9 ((b1.block (w.heap.size+1) (by rw [HZ.out];omega)).trans HB.out)
               have p6:w1.cell? ⟨w.heap.size,6,none⟩=some (.int .i64 x.op):=(aa8 HA1.out 6).trans rfl
               have q6:w1.cell? ⟨w.heap.size+1,6,none⟩=some (.int .i64 y.op):=(aa8 HB1.out 6).trans rfl
               have p7:w1.cell? ⟨w.heap.size,7,none⟩=some (.int .i64 x.flags):=(aa8 HA1.out 7).trans rfl
               have q7:w1.cell? ⟨w.heap.size+1,7,none⟩=some (.int .i64 y.flags):=(aa8 HB1.out 7).trans rfl
               have p8:w1.cell? ⟨w.heap.size,8,none⟩=some (sv x.text):=(aa8 HA1.out 8).trans rfl
               have q8:w1.cell? ⟨w.heap.size+1,8,none⟩=some (sv y.text):=(aa8 HB1.out 8).trans rfl
               have p9:w1.cell? ⟨w.heap.size,9,none⟩=some (.bool x.filter.on):=(aa8 HA1.out 9).trans rfl
               have q9:w1.cell? ⟨w.heap.size+1,9,none⟩=some (.bool y.filter.on):=(aa8 HB1.out 9).trans rfl
               have p10:w1.cell? ⟨w.heap.size,10,none⟩=some (.slice q x.filter.scopes.length d):=(aa8 HA1.out 10).trans rfl
               have q10:w1.cell? ⟨w.heap.size+1,10,none⟩=some (.slice q2 y.filter.scopes.length d2):=(aa8 HB1.out 10).trans rfl
               clear b1 CS hb1
               have hbz:=hb2
               go_wp2
               go_ret
               exact ⟨by rw [HV.out];rfl,hbz⟩
             | true=>
               cases h_flags:(x.flags==y.flags) with
               | false=>
                 have HV:=aa9 (HNE.out (by intro e;rw [e] at h_flags;simp at h_flags))
                 go_enter Tryz.func15,Tryz.ntmps15
                 rw [hS] at CS
                 go_wp2_with fail
                 refine (CS.out _ hb1).mono ?_
                 rintro e w1 ⟨rfl,b1⟩
                 have hb2:=hb1.trans (b1.mono (by rw [HZ.out];omega))
                 have HA1:=aa9 ((b1.block w.heap.size (by rw [HZ.out];omega)).trans HA.out)
                 have HB1:=aa9 ((b1.block (w.heap.size+1) (by rw [HZ.out];omega)).trans HB.out)
                 have p6:w1.cell? ⟨w.heap.size,6,none⟩=some (.int .i64 x.op):=(aa8 HA1.out 6).trans rfl
                 have q6:w1.cell? ⟨w.heap.size+1,6,none⟩=some (.int .i64 y.op):=(aa8 HB1.out 6).trans rfl
                 have p7:w1.cell? ⟨w.heap.size,7,none⟩=some (.int .i64 x.flags):=(aa8 HA1.out 7).trans rfl
                 have q7:w1.cell? ⟨w.heap.size+1,7,none⟩=some (.int .i64 y.flags):=(aa8 HB1.out 7).trans rfl
                 have p8:w1.cell? ⟨w.heap.size,8,none⟩=some (sv x.text):=(aa8 HA1.out 8).trans rfl
                 have q8:w1.cell? ⟨w.heap.size+1,8,none⟩=some (sv y.text):=(aa8 HB1.out 8).trans rfl
                 have p9:w1.cell? ⟨w.heap.size,9,none⟩=some (.bool x.filter.on):=(aa8 HA1.out 9).trans rfl
                 have q9:w1.cell? ⟨w.heap.size+1,9,none⟩=some (.bool y.filter.on):=(aa8 HB1.out 9).trans rfl
                 have p10:w1.cell? ⟨w.heap.size,10,none⟩=some (.slice q x.filter.scopes.length d):=(aa8 HA1.out 10).trans rfl
                 have q10:w1.cell? ⟨w.heap.size+1,10,none⟩=some (.slice q2 y.filter.scopes.length d2):=(aa8 HB1.out 10).trans rfl
                 clear b1 CS hb1
                 have hbz:=hb2
                 go_wp2
                 go_ret
                 exact ⟨by rw [HV.out];rfl,hbz⟩
               | true=>
                 cases h_text:(x.text==y.text) with
                 | false=>
                   have HV:=aa9 (HNE.out (by intro e;rw [e] at h_text;simp at h_text))
                   go_enter Tryz.func15,Tryz.ntmps15
                   rw [hS] at CS
                   go_wp2_with fail
                   refine (CS.out _ hb1).mono ?_
                   rintro e w1 ⟨rfl,b1⟩
                   have hb2:=hb1.trans (b1.mono (by rw [HZ.out];omega))
                   have HA1:=aa9 ((b1.block w.heap.size (by rw [HZ.out];omega)).trans HA.out)
                   have HB1:=aa9 ((b1.block (w.heap.size+1) (by rw [HZ.out];omega)).trans HB.out)
                   have p6:w1.cell? ⟨w.heap.size,6,none⟩=some (.int .i64 x.op):=(aa8 HA1.out 6).trans rfl
                   have q6:w1.cell? ⟨w.heap.size+1,6,none⟩=some (.int .i64 y.op):=(aa8 HB1.out 6).trans rfl
                   have p7:w1.cell? ⟨w.heap.size,7,none⟩=some (.int .i64 x.flags):=(aa8 HA1.out 7).trans rfl
                   have q7:w1.cell? ⟨w.heap.size+1,7,none⟩=some (.int .i64 y.flags):=(aa8 HB1.out 7).trans rfl
                   have p8:w1.cell? ⟨w.heap.size,8,none⟩=some (sv x.text):=(aa8 HA1.out 8).trans rfl
                   have q8:w1.cell? ⟨w.heap.size+1,8,none⟩=some (sv y.text):=(aa8 HB1.out 8).trans rfl
                   have p9:w1.cell? ⟨w.heap.size,9,none⟩=some (.bool x.filter.on):=(aa8 HA1.out 9).trans rfl
                   have q9:w1.cell? ⟨w.heap.size+1,9,none⟩=some (.bool y.filter.on):=(aa8 HB1.out 9).trans rfl
                   have p10:w1.cell? ⟨w.heap.size,10,none⟩=some (.slice q x.filter.scopes.length d):=(aa8 HA1.out 10).trans rfl
                   have q10:w1.cell? ⟨w.heap.size+1,10,none⟩=some (.slice q2 y.filter.scopes.length d2):=(aa8 HB1.out 10).trans rfl
                   clear b1 CS hb1
                   have hbz:=hb2
                   go_wp2
                   go_ret
                   exact ⟨by rw [HV.out];rfl,hbz⟩
                 | true=>
                   cases hF:decide (x.filter=y.filter) with
                   | false=>
                     have HV:=aa9 (HNE.out (by intro e;rw [e] at hF;simp at hF))
                     go_enter Tryz.func15,Tryz.ntmps15
                     rw [hS] at CS
                     go_wp2_with fail
                     refine (CS.out _ hb1).mono ?_
                     rintro e w1 ⟨rfl,b1⟩
                     have hb2:=hb1.trans (b1.mono (by rw [HZ.out];omega))
                     have HA1:=aa9 ((b1.block w.heap.size (by rw [HZ.out];omega)).trans HA.out)
                     have HB1:=aa9 ((b1.block (w.heap.size+1) (by rw [HZ.out];omega)).trans HB.out)
                     have p6:w1.cell? ⟨w.heap.size,6,none⟩=some (.int .i64 x.op):=(aa8 HA1.out 6).trans rfl
                     have q6:w1.cell? ⟨w.heap.size+1,6,none⟩=some (.int .i64 y.op):=(aa8 HB1.out 6).trans rfl
                     have p7:w1.cell? ⟨w.heap.size,7,none⟩=some (.int .i64 x.flags):=(aa8 HA1.out 7).trans rfl
                     have q7:w1.cell? ⟨w.heap.size+1,7,none⟩=some (.int .i64 y.flags):=(aa8 HB1.out 7).trans rfl
                     have p8:w1.cell? ⟨w.heap.size,8,none⟩=some (sv x.text):=(aa8 HA1.out 8).trans rfl
                     have q8:w1.cell? ⟨w.heap.size+1,8,none⟩=some (sv y.text):=(aa8 HB1.out 8).trans rfl
                     have p9:w1.cell? ⟨w.heap.size,9,none⟩=some (.bool x.filter.on):=(aa8 HA1.out 9).trans rfl
                     have q9:w1.cell? ⟨w.heap.size+1,9,none⟩=some (.bool y.filter.on):=(aa8 HB1.out 9).trans rfl
                     have p10:w1.cell? ⟨w.heap.size,10,none⟩=some (.slice q x.filter.scopes.length d):=(aa8 HA1.out 10).trans rfl
                     have q10:w1.cell? ⟨w.heap.size+1,10,none⟩=some (.slice q2 y.filter.scopes.length d2):=(aa8 HB1.out 10).trans rfl
                     clear b1 CS hb1
                     rw [hF] at CF
                     go_wp2_with fail
                     refine (CF.out _ hb2).mono ?_
                     rintro e w2 ⟨rfl,b2⟩
                     have hbz:=hb2.trans (b2.mono hb2.size)
                     clear b2 CF
                     go_wp2
                     go_ret
                     exact ⟨by rw [HV.out];rfl,hbz⟩
                   | true=>
                     have HV:=aa9 (show decide (x=y)=true from decide_eq_true (by
                      obtain ⟨x0,x1,x2,x3,x4,x5,x6,x7,x8,x9⟩:=x
                      obtain ⟨y0,y1,y2,y3,y4,y5,y6,y7,y8,y9⟩:=y
                      simp only [beq_iff_eq,decide_eq_true_eq] at h_tag h_kind h_box h_dst h_uid hS h_op h_flags h_text hF
                      rw [h_tag,h_kind,h_box,h_dst,h_uid,hS,h_op,h_flags,h_text,hF]))
                     go_enter Tryz.func15,Tryz.ntmps15
                     rw [hS] at CS
                     go_wp2_with fail
                     refine (CS.out _ hb1).mono ?_
                     rintro e w1 ⟨rfl,b1⟩
                     have hb2:=hb1.trans (b1.mono (by rw [HZ.out];omega))
                     have HA1:=aa9 ((b1.block w.heap.size (by rw [HZ.out];omega)).trans HA.out)
                     have HB1:=aa9 ((b1.block (w.heap.size+1) (by rw [HZ.out];omega)).trans HB.out)
                     have p6:w1.cell? ⟨w.heap.size,6,none⟩=some (.int .i64 x.op):=(aa8 HA1.out 6).trans rfl
                     have q6:w1.cell? ⟨w.heap.size+1,6,none⟩=some (.int .i64 y.op):=(aa8 HB1.out 6).trans rfl
                     have p7:w1.cell? ⟨w.heap.size,7,none⟩=some (.int .i64 x.flags):=(aa8 HA1.out 7).trans rfl
                     have q7:w1.cell? ⟨w.heap.size+1,7,none⟩=some (.int .i64 y.flags):=(aa8 HB1.out 7).trans rfl
                     have p8:w1.cell? ⟨w.heap.size,8,none⟩=some (sv x.text):=(aa8 HA1.out 8).trans rfl
                     have q8:w1.cell? ⟨w.heap.size+1,8,none⟩=some (sv y.text):=(aa8 HB1.out 8).trans rfl
                     have p9:w1.cell? ⟨w.heap.size,9,none⟩=some (.bool x.filter.on):=(aa8 HA1.out 9).trans rfl
                     have q9:w1.cell? ⟨w.heap.size+1,9,none⟩=some (.bool y.filter.on):=(aa8 HB1.out 9).trans rfl
                     have p10:w1.cell? ⟨w.heap.size,10,none⟩=some (.slice q x.filter.scopes.length d):=(aa8 HA1.out 10).trans rfl
                     have q10:w1.cell? ⟨w.heap.size+1,10,none⟩=some (.slice q2 y.filter.scopes.length d2):=(aa8 HB1.out 10).trans rfl
                     clear b1 CS hb1
                     rw [hF] at CF
                     go_wp2_with fail
                     refine (CF.out _ hb2).mono ?_
                     rintro e w2 ⟨rfl,b2⟩
                     have hbz:=hb2.trans (b2.mono hb2.size)
                     clear b2 CF
                     go_wp2
                     go_ret
                     exact ⟨by rw [HV.out];rfl,hbz⟩
end Go.Proofs.YtmlgkoeacbeopaaGreatDoor
