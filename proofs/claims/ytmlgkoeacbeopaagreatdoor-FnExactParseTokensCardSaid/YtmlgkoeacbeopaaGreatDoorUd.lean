/- Ud -/
import Derived.Test.YtmlgkoeacbeopaaGreatDoorUc
set_option maxHeartbeats 6400000
namespace Go.Proofs.YtmlgkoeacbeopaaGreatDoor
open Go.RowKit
def oL2 : List (Nat × Bool) := [(0, true), (1, true), (2, true), (3, true), (4, true), (5, false), (6, true), (7, true), (8, true), (9, true), (10, true), (11, true), (12, true), (13, true), (14, true), (15, true), (16, true), (17, true), (18, true), (19, true), (20, true), (21, true), (22, true), (23, true), (24, true)]
theorem cFalse {a b : Int} (h : ¬ a = b) : (a == b) = false := beq_eq_false_iff_ne.2 h
theorem aa8 {w : World} {b : Nat} {cs : Array Value} {T : TypeId} {fr : Nat × Nat} (hb : w.heap[b]? = some (.cells cs T fr)) (j : Nat) : w.cell? ⟨b, j, none⟩ = cs[j]? := Lib.cell_of_heap hb j
def flB (n:Int):Bool:=decide (0≤n) && decide (n≤31)
def flW:List (List UInt8):=[[115,101,101,110],[97,110,115,119,101,114,101,100],[102,108,97,103,103,101,100],[100,101,108,101,116,101,100],[100,114,97,102,116]]
def dn (i:Nat):List UInt8:=flW.getD i []
def sG (n k:Nat):List (List UInt8):=((List.range k).filter fun i=>n.testBit i).map dn
def flT (n:Int):List UInt8:=if flB n=true then Lib.join (sG n.toNat 5) [32] else []
theorem vD {n k:Nat} (h:n.testBit k=true):sG n (k+1)=sG n k++[dn k]:=by unfold sG;rw [List.range_succ,List.filter_append,List.map_append];simp [h]
theorem xv {n k:Nat} (h:n.testBit k=false):sG n (k+1)=sG n k:=by unfold sG;rw [List.range_succ,List.filter_append,List.map_append];simp [h]
theorem zz (n k:Nat):(sG n k).length≤k:=by unfold sG;rw [List.length_map];have:=List.length_filter_le (fun i=>n.testBit i) (List.range k);simpa using this
theorem zV {n:Int} (h:flB n=true): ∃ m:Nat,n=(m:Int)∧m≤31:=by
 unfold flB at h
 simp only [Bool.and_eq_true,decide_eq_true_eq] at h
 exact ⟨n.toNat,by omega,by omega⟩
theorem kQ (n:Int) (w:World):
 Calls Tryz.prog 56 #[.int .i64 n] w fun e w'=>e= .returned (.bool (flB n))∧w=w':=by
 have C1:=aa9 (fun W=>bI n 0 31 W)
 go_enter Tryz.func56,Tryz.ntmps56
 go_wp2_with fail
 refine (C1.out _).mono ?_
 rintro e w1 ⟨rfl,rfl⟩
 go_wp2
 go_ret
 exact ⟨rfl,rfl⟩
theorem pZ (w:World):
 Calls Tryz.prog 160 #[] w fun e w'=>e= .returned (.slice (some ⟨w.heap.size,0,none⟩) 5 5)∧w'=w.alloc (.cells #[sv (dn 0),sv (dn 1),sv (dn 2),sv (dn 3),sv (dn 4)] 9):=by
 go_enter Tryz.func160,Tryz.ntmps160
 go_wp2
 go_ret
 exact ⟨rfl,rfl⟩
theorem oq {w w':World} {e:TypeId} (hw:w'=w.alloc (.cells #[sv (dn 0),sv (dn 1),sv (dn 2),sv (dn 3),sv (dn 4)] e)) (k:Nat) (h:k < 5):w'.cell? ⟨w.heap.size,k,none⟩=some (sv (dn k)):=by
 subst hw
 have hk:k=0∨k=1∨k=2∨k=3∨k=4:=by omega
 rcases hk with rfl | rfl | rfl | rfl | rfl <;> simp [go_sem]
theorem aaD (m k:Nat) (hm:m≤31) (hk:k < 5):(bits .and .i64 ((m:Int) / 2 ^ k) 1==1)=m.testBit k:=by
 have h: ∀ m:Fin 32,∀ k:Fin 5,(bits .and .i64 ((m.val:Int) / 2 ^ k.val) 1==1)=m.val.testBit k.val:=by decide+kernel
 exact h ⟨m,by omega⟩ ⟨k,hk⟩
theorem ng (k:Nat):(dn k).length≤8:=by
 match k with
 | 0=>decide
 | 1=>decide
 | 2=>decide
 | 3=>decide
 | 4=>decide
 | k+5=>simp [dn,flW]
theorem zA (n k:Nat):szl (sG n k)≤8 * k:=by
 induction k with
 | zero=>simp [sG,szl]
 | succ k ih=>
   cases h:n.testBit k with
   | false=>rw [xv h];omega
   | true=>rw [vD h,qY];have:=ng k;omega
def kR (l:List (List UInt8)) (i:Nat):Bool:=aH (l.getD i []) && (i==0 || Op.bytesLess (l.getD (i - 1) []) (l.getD i []))
def iA (l:List (List UInt8)):Bool:=(List.range l.length).all (kR l)
def bp (s:Scp):Bool:=(decide (1≤s.kind) && decide (s.kind≤4)) && (decide (1≤s.events) && decide (s.events≤15)) &&
 if s.kind < 3 then decide (s.names.length=0) else iA s.names && (decide ((1:Int)≤(s.names.length:Int)) && decide ((s.names.length:Int)≤3))
def aN (f:Flt):Bool:=f.scopes.all bp && if f.on then (decide ((1:Int)≤(f.scopes.length:Int)) && decide ((f.scopes.length:Int)≤3)) else decide (f.scopes.length=0)
theorem eS {l:List (List UInt8)} {k:Nat} (hk:k < l.length) (h:kR l k=false):iA l=false:=d7 (k:=k) (x:=k) (by simp [hk]) h
theorem qa {l:List (List UInt8)} {k:Nat} {x:List UInt8} (h:l[k]? =some x):l.getD k []=x:=by rw [List.getD_eq_getElem?_getD,h];rfl
theorem fS {l:List (List UInt8)} {x:List UInt8} (h:l[0]? =some x):kR l 0=aH x:=by unfold kR;rw [qa h];simp
theorem iB {l:List (List UInt8)} {j:Nat} {y x:List UInt8} (hy:l[j]? =some y) (h:l[j+1]? =some x):kR l (j+1)=(aH x && Op.bytesLess y x):=by
 unfold kR
 rw [qa h,Nat.add_sub_cancel,qa hy]
 rfl
theorem dB {l:List (List UInt8)} {k:Nat} (h:(List.range k).all (kR l)=true) (hs:kR l k=true):(List.range (k+1)).all (kR l)=true:=by
 rw [List.range_succ,List.all_append,h]
 simp [hs]
theorem kS (s:Scp) (vn:Value) (w:World) (hr:Rd1 sv w vn s.names) (hl:s.names.length≤140737488355328) (hx: ∀ x∈s.names,x.length≤140737488355328):
 Calls Tryz.prog 115 #[.agg #[.int .i64 s.kind,vn,.int .i64 s.events]] w fun e w'=>e= .returned (.bool (bp s))∧Below w.heap.size w w':=by
 obtain ⟨kd,names,ev⟩:=s
 simp only at *
 obtain ⟨p,c,rfl,hp⟩:=hr.ex
 have HX:=aa9 hx
 have hb1:Below w.heap.size w (w.alloc (.cells #[.int .i64 kd,.slice p names.length c,.int .i64 ev] 123)):=(Below.refl _ _).alloc (Nat.le_refl _) _
 have hA:(w.alloc (.cells #[.int .i64 kd,.slice p names.length c,.int .i64 ev] 123)).heap[w.heap.size]? =some (.cells #[.int .i64 kd,.slice p names.length c,.int .i64 ev] 123 (0,0)):=heap_alloc_new w _
 have HA:=aa9 hA
 have hz1:(w.alloc (.cells #[.int .i64 kd,.slice p names.length c,.int .i64 ev] 123)).heap.size=w.heap.size+1:=by simp
 have HZ:=aa9 hz1
 have HP:=aa9 hp
 clear hr hp hx hA hz1
 have c1:=fun W=>bI kd 1 4 W
 have c2:=fun W=>bI ev 1 15 W
 have c3:=fun W=>bI (names.length:Int) 1 3 W
 cases h1:(decide (1≤kd) && decide (kd≤4)) with
 | false=>
   have HV:=aa9 (show bp ⟨kd,names,ev⟩=false by simp only [bp,h1,Bool.false_and])
   rw [h1] at c1
   have C1:=aa9 c1
   clear c1 c2 c3 h1
   go_enter Tryz.func115,Tryz.ntmps115
   go_wp2_with fail
   refine (C1.out _).mono ?_
   rintro e w' ⟨rfl,rfl⟩
   go_wp2
   go_ret
   exact ⟨by rw [HV.out];rfl,hb1⟩
 | true=>
   rw [h1] at c1
   have C1:=aa9 c1
   cases h2:(decide (1≤ev) && decide (ev≤15)) with
   | false=>
     have HV:=aa9 (show bp ⟨kd,names,ev⟩=false by simp only [bp,h1,h2,Bool.false_and,Bool.and_false])
     rw [h2] at c2
     have C2:=aa9 c2
     clear c1 c2 c3 h1 h2
     go_enter Tryz.func115,Tryz.ntmps115
     go_wp2_with fail
     refine (C1.out _).mono ?_
     rintro e w' ⟨rfl,rfl⟩
     go_wp2_with fail
     refine (C2.out _).mono ?_
     rintro e w' ⟨rfl,rfl⟩
     go_wp2
     go_ret
     exact ⟨by rw [HV.out];rfl,hb1⟩
   | true=>
     rw [h2] at c2
     have C2:=aa9 c2
     by_cases h3:kd < 3
     · have HV:=aa9 (show bp ⟨kd,names,ev⟩=decide (names.length=0) by simp only [bp,h1,h2,Bool.true_and,if_pos h3])
       clear c1 c2 c3 h1 h2
       by_cases h0:names.length=0
       · have hz:((names.length:Int)==0)=true:=by simp [h0]
         have HV2:=aa9 (show bp ⟨kd,names,ev⟩=true by rw [HV.out];exact decide_eq_true h0)
         clear HV h0
         go_enter Tryz.func115,Tryz.ntmps115
         go_wp2_with fail
         refine (C1.out _).mono ?_
         rintro e w' ⟨rfl,rfl⟩
         go_wp2_with fail
         refine (C2.out _).mono ?_
         rintro e w' ⟨rfl,rfl⟩
         go_wp2
         go_ret
         exact ⟨by rw [HV2.out];rfl,hb1⟩
       · have hz:((names.length:Int)==0)=false:=cFalse (by omega)
         have HV2:=aa9 (show bp ⟨kd,names,ev⟩=false by rw [HV.out];exact decide_eq_false h0)
         clear HV h0
         go_enter Tryz.func115,Tryz.ntmps115
         go_wp2_with fail
         refine (C1.out _).mono ?_
         rintro e w' ⟨rfl,rfl⟩
         go_wp2_with fail
         refine (C2.out _).mono ?_
         rintro e w' ⟨rfl,rfl⟩
         go_wp2
         go_ret
         exact ⟨by rw [HV2.out];rfl,hb1⟩
     · have HS:=aa9 (show bp ⟨kd,names,ev⟩=(iA names && (decide ((1:Int)≤(names.length:Int)) && decide ((names.length:Int)≤3))) by simp only [bp,h1,h2,Bool.true_and,if_neg h3])
       have C3:=aa9 c3
       clear c1 c2 c3 h1 h2
       go_enter Tryz.func115,Tryz.ntmps115
       go_wp2_with fail
       refine (C1.out _).mono ?_
       rintro e w' ⟨rfl,rfl⟩
       go_wp2_with fail
       refine (C2.out _).mono ?_
       rintro e w' ⟨rfl,rfl⟩
       clear C1 C2
       have hbb:Below (w.heap.size+1) (w.alloc (.cells #[.int .i64 kd,.slice p names.length c,.int .i64 ev] 123)) (w.alloc (.cells #[.int .i64 kd,.slice p names.length c,.int .i64 ev] 123)):=Below.refl _ _
       go_wp2
       go_loopw [3] (fun i wr=> ∃ k:Nat,k≤names.length∧i= .int .i64 k∧(List.range k).all (kR names)=true∧Below (w.heap.size+1) (w.alloc (.cells #[.int .i64 kd,.slice p names.length c,.int .i64 ev] 123)) wr) (fun i _=>names.length - (intOf i).toNat)
       case atStart=>exact ⟨0,by omega,rfl,rfl,hbb⟩
       case round=>
        obtain ⟨k,hk,rfl,hall,hbr⟩:=hrel
        have hbw:=hb1.trans (hbr.mono (by omega))
        have q1:wr.cell? ⟨w.heap.size,1,none⟩=some (.slice p names.length c):=(aa8 ((hbr.block w.heap.size (by omega)).trans HA.out) 1).trans rfl
        have Hall:=aa9 hall
        clear hall hbb
        by_cases hlt:k < names.length
        · obtain ⟨b,off,rfl,hb,hcell⟩:=HP.out.resolve_left (by intro h;subst h;simp at hlt)
          obtain ⟨x,hx⟩: ∃ x,names[k]? =some x:=⟨_,List.getElem?_eq_getElem hlt⟩
          have hxl:=HX.out x (List.mem_of_getElem? hx)
          have f1:wr.drew.cell? ⟨b,off+k,none⟩=some (sv x):=(hbw.cell (p:=⟨b,off+k,none⟩) hb).trans (hcell k x hx)
          have d1:wr.drew.cell? ⟨w.heap.size,1,none⟩=some (.slice (some ⟨b,off,none⟩) names.length c):=q1
          have c4:=fun W=>eB ⟨x.toArray⟩ W (by unfold maxLen;show x.toArray.size≤_;simp;omega)
          have c4': ∀ W,Calls Tryz.prog 53 #[sv x] W fun e w'=>e= .returned (.bool (aH x))∧W=w':=fun W=>by have:=c4 W;simpa using this
          have hbd:=hbr.drew
          have hbwd:Below w.heap.size w wr.drew:=hbw.drew
          clear c4
          cases k with
          | zero=>
            rw [Nat.add_zero] at f1
            cases h4:aH x with
            | false=>
              have HV:=aa9 (show bp ⟨kd,names,ev⟩=false by rw [HS.out,eS hlt (by rw [fS hx,h4])];rfl)
              rw [h4] at c4'
              have C4:=aa9 c4'
              clear c4' hx HP hcell h4 hbr hbw HS HX HA HZ Hall C3
              go_wp2
              refine ah oL2 (fun W=>W.cell? ⟨w.heap.size,1,none⟩=some (.slice (some ⟨b,off,none⟩) names.length c)∧W.cell? ⟨b,off,none⟩=some (sv x)) (by kernel_rfl) (by kernel_rfl) rfl (by kernel_rfl) ?_
              intro ops' hops
              simp only [oL2,List.map_cons,List.map_nil,ae,ag]
              iterate 5 (refine aa ?_ (fun _ _ _ h=>h) rfl ?_ ⟨d1,f1⟩ ?_;rotate_left;focus (intro W hS;obtain ⟨s1,s2⟩:=hS;go_simp;rfl))
              refine al (by rw [hops.out];kernel_rfl) ?_
              go_simp
              refine (C4.out _).mono ?_
              rintro e w1 ⟨rfl,rfl⟩
              refine ⟨⟨d1,f1⟩,?_⟩
              iterate 2 (refine aa ?_ (fun _ _ _ h=>h) rfl ?_ ⟨d1,f1⟩ ?_;rotate_left;focus (intro W hS;obtain ⟨s1,s2⟩:=hS;go_simp;rfl))
              iterate 16 (refine aJ (fun _ _ _ h=>h) (by rw [hops.out];kernel_rfl) ⟨d1,f1⟩ ?_)
              iterate 1 (refine aa ?_ (fun _ _ _ h=>h) rfl ?_ ⟨d1,f1⟩ ?_;rotate_left;focus (intro W hS;obtain ⟨s1,s2⟩:=hS;go_simp;rfl))
              refine ai ?_
              go_simp
              go_wp2
              go_ret
              exact ⟨by rw [HV.out];rfl,hbwd⟩
            | true=>
              have HN:=aa9 (dB Hall.out (by rw [fS hx,h4]))
              rw [h4] at c4'
              have C4:=aa9 c4'
              clear c4' hx hcell h4 hbr hbw Hall
              go_wp2
              refine ah oL2 (fun W=>W.cell? ⟨w.heap.size,1,none⟩=some (.slice (some ⟨b,off,none⟩) names.length c)∧W.cell? ⟨b,off,none⟩=some (sv x)) (by kernel_rfl) (by kernel_rfl) rfl (by kernel_rfl) ?_
              intro ops' hops
              simp only [oL2,List.map_cons,List.map_nil,ae,ag]
              iterate 5 (refine aa ?_ (fun _ _ _ h=>h) rfl ?_ ⟨d1,f1⟩ ?_;rotate_left;focus (intro W hS;obtain ⟨s1,s2⟩:=hS;go_simp;rfl))
              refine al (by rw [hops.out];kernel_rfl) ?_
              go_simp
              refine (C4.out _).mono ?_
              rintro e w1 ⟨rfl,rfl⟩
              refine ⟨⟨d1,f1⟩,?_⟩
              iterate 2 (refine aa ?_ (fun _ _ _ h=>h) rfl ?_ ⟨d1,f1⟩ ?_;rotate_left;focus (intro W hS;obtain ⟨s1,s2⟩:=hS;go_simp;rfl))
              iterate 3 (refine aa ?_ (fun _ _ _ h=>h) (by rw [hops.out];kernel_rfl) ?_ ⟨d1,f1⟩ ?_;rotate_left;focus (intro W hS;obtain ⟨s1,s2⟩:=hS;go_simp;rfl))
              iterate 12 (refine aJ (fun _ _ _ h=>h) (by rw [hops.out];kernel_rfl) ⟨d1,f1⟩ ?_)
              iterate 1 (refine aa ?_ (fun _ _ _ h=>h) (by rw [hops.out];kernel_rfl) ?_ ⟨d1,f1⟩ ?_;rotate_left;focus (intro W hS;obtain ⟨s1,s2⟩:=hS;go_simp;rfl))
              iterate 1 (refine aa ?_ (fun _ _ _ h=>h) rfl ?_ ⟨d1,f1⟩ ?_;rotate_left;focus (intro W hS;obtain ⟨s1,s2⟩:=hS;go_simp;rfl))
              refine ai ?_
              go_simp
              clear d1 f1 q1
              go_wp2
              go_roundw
              case rel=>exact ⟨1,by omega,by go_num,HN.out,hbd⟩
              case measure=>simp [intOf];omega
          | succ j=>
            obtain ⟨y,hy⟩: ∃ y,names[j]? =some y:=⟨_,List.getElem?_eq_getElem (by omega)⟩
            have f0:wr.drew.cell? ⟨b,off+j,none⟩=some (sv y):=(hbw.cell (p:=⟨b,off+j,none⟩) hb).trans (hcell j y hy)
            have hstep:=iB hy hx
            have hjc:((j+1:Nat):Int)=(j:Int)+1:=by omega
            have hwr:IntKind.i64.wrap (j:Int)=(j:Int):=IntWalk.i64_in _ (by omega)
            cases h4:aH x with
            | false=>
              have HV:=aa9 (show bp ⟨kd,names,ev⟩=false by rw [HS.out,eS hlt (by rw [hstep,h4];rfl)];rfl)
              rw [h4] at c4'
              have C4:=aa9 c4'
              clear c4' hx hy HP hcell h4 hbr hbw HS HX HA HZ Hall C3 hstep f0
              go_wp2
              refine ah oL2 (fun W=>W.cell? ⟨w.heap.size,1,none⟩=some (.slice (some ⟨b,off,none⟩) names.length c)∧W.cell? ⟨b,off+(j+1),none⟩=some (sv x)) (by kernel_rfl) (by kernel_rfl) rfl (by kernel_rfl) ?_
              intro ops' hops
              simp only [oL2,List.map_cons,List.map_nil,ae,ag]
              iterate 5 (refine aa ?_ (fun _ _ _ h=>h) rfl ?_ ⟨d1,f1⟩ ?_;rotate_left;focus (intro W hS;obtain ⟨s1,s2⟩:=hS;go_simp;rfl))
              refine al (by rw [hops.out];kernel_rfl) ?_
              go_simp
              refine (C4.out _).mono ?_
              rintro e w1 ⟨rfl,rfl⟩
              refine ⟨⟨d1,f1⟩,?_⟩
              iterate 2 (refine aa ?_ (fun _ _ _ h=>h) rfl ?_ ⟨d1,f1⟩ ?_;rotate_left;focus (intro W hS;obtain ⟨s1,s2⟩:=hS;go_simp;rfl))
              iterate 16 (refine aJ (fun _ _ _ h=>h) (by rw [hops.out];kernel_rfl) ⟨d1,f1⟩ ?_)
              iterate 1 (refine aa ?_ (fun _ _ _ h=>h) rfl ?_ ⟨d1,f1⟩ ?_;rotate_left;focus (intro W hS;obtain ⟨s1,s2⟩:=hS;go_simp;rfl))
              refine ai ?_
              go_simp
              go_wp2
              go_ret
              exact ⟨by rw [HV.out];rfl,hbwd⟩
            | true=>
              rw [h4] at c4'
              have C4:=aa9 c4'
              cases h5:Op.bytesLess y x with
              | false=>
                have HV:=aa9 (show bp ⟨kd,names,ev⟩=false by rw [HS.out,eS hlt (by rw [hstep,h5,Bool.and_false])];rfl)
                clear c4' hx hy HP hcell h4 hbr hbw HS HX HA HZ Hall C3 hstep
                go_wp2
                refine ah oL2 (fun W=>W.cell? ⟨w.heap.size,1,none⟩=some (.slice (some ⟨b,off,none⟩) names.length c)∧W.cell? ⟨b,off+j,none⟩=some (sv y)∧W.cell? ⟨b,off+(j+1),none⟩=some (sv x)) (by kernel_rfl) (by kernel_rfl) rfl (by kernel_rfl) ?_
                intro ops' hops
                simp only [oL2,List.map_cons,List.map_nil,ae,ag]
                iterate 5 (refine aa ?_ (fun _ _ _ h=>h) rfl ?_ ⟨d1,f0,f1⟩ ?_;rotate_left;focus (intro W hS;obtain ⟨s1,s2,s3⟩:=hS;go_simp;rfl))
                refine al (by rw [hops.out];kernel_rfl) ?_
                go_simp
                refine (C4.out _).mono ?_
                rintro e w1 ⟨rfl,rfl⟩
                refine ⟨⟨d1,f0,f1⟩,?_⟩
                iterate 2 (refine aa ?_ (fun _ _ _ h=>h) rfl ?_ ⟨d1,f0,f1⟩ ?_;rotate_left;focus (intro W hS;obtain ⟨s1,s2,s3⟩:=hS;go_simp;rfl))
                iterate 7 (refine aa ?_ (fun _ _ _ h=>h) (by rw [hops.out];kernel_rfl) ?_ ⟨d1,f0,f1⟩ ?_;rotate_left;focus (intro W hS;obtain ⟨s1,s2,s3⟩:=hS;go_simp;rfl))
                refine aa (.pointer (some ⟨b,off+j,none⟩)) (fun _ _ _ h=>h) (by rw [hops.out];kernel_rfl) ?_ ⟨d1,f0,f1⟩ ?_
                · intro W hS
                  go_simp
                  try (intro h;omega)
                iterate 4 (refine aa ?_ (fun _ _ _ h=>h) (by rw [hops.out];kernel_rfl) ?_ ⟨d1,f0,f1⟩ ?_;rotate_left;focus (intro W hS;obtain ⟨s1,s2,s3⟩:=hS;go_simp;rfl))
                refine aa (.pointer (some ⟨b,off+(j+1),none⟩)) (fun _ _ _ h=>h) (by rw [hops.out];kernel_rfl) ?_ ⟨d1,f0,f1⟩ ?_
                · intro W hS
                  go_simp
                  try (intro h;omega)
                iterate 3 (refine aa ?_ (fun _ _ _ h=>h) (by rw [hops.out];kernel_rfl) ?_ ⟨d1,f0,f1⟩ ?_;rotate_left;focus (intro W hS;obtain ⟨s1,s2,s3⟩:=hS;go_simp;rfl))
                iterate 1 (refine aa ?_ (fun _ _ _ h=>h) rfl ?_ ⟨d1,f0,f1⟩ ?_;rotate_left;focus (intro W hS;obtain ⟨s1,s2,s3⟩:=hS;go_simp;rfl))
                refine ai ?_
                go_simp
                go_wp2
                go_ret
                exact ⟨by rw [HV.out];rfl,hbwd⟩
              | true=>
                have HN:=aa9 (dB Hall.out (by rw [hstep,h4,h5];rfl))
                clear c4' hx hy hcell h4 hbr hbw Hall hstep
                go_wp2
                refine ah oL2 (fun W=>W.cell? ⟨w.heap.size,1,none⟩=some (.slice (some ⟨b,off,none⟩) names.length c)∧W.cell? ⟨b,off+j,none⟩=some (sv y)∧W.cell? ⟨b,off+(j+1),none⟩=some (sv x)) (by kernel_rfl) (by kernel_rfl) rfl (by kernel_rfl) ?_
                intro ops' hops
                simp only [oL2,List.map_cons,List.map_nil,ae,ag]
                iterate 5 (refine aa ?_ (fun _ _ _ h=>h) rfl ?_ ⟨d1,f0,f1⟩ ?_;rotate_left;focus (intro W hS;obtain ⟨s1,s2,s3⟩:=hS;go_simp;rfl))
                refine al (by rw [hops.out];kernel_rfl) ?_
                go_simp
                refine (C4.out _).mono ?_
                rintro e w1 ⟨rfl,rfl⟩
                refine ⟨⟨d1,f0,f1⟩,?_⟩
                iterate 2 (refine aa ?_ (fun _ _ _ h=>h) rfl ?_ ⟨d1,f0,f1⟩ ?_;rotate_left;focus (intro W hS;obtain ⟨s1,s2,s3⟩:=hS;go_simp;rfl))
                iterate 7 (refine aa ?_ (fun _ _ _ h=>h) (by rw [hops.out];kernel_rfl) ?_ ⟨d1,f0,f1⟩ ?_;rotate_left;focus (intro W hS;obtain ⟨s1,s2,s3⟩:=hS;go_simp;rfl))
                refine aa (.pointer (some ⟨b,off+j,none⟩)) (fun _ _ _ h=>h) (by rw [hops.out];kernel_rfl) ?_ ⟨d1,f0,f1⟩ ?_
                · intro W hS
                  go_simp
                  try (intro h;omega)
                iterate 4 (refine aa ?_ (fun _ _ _ h=>h) (by rw [hops.out];kernel_rfl) ?_ ⟨d1,f0,f1⟩ ?_;rotate_left;focus (intro W hS;obtain ⟨s1,s2,s3⟩:=hS;go_simp;rfl))
                refine aa (.pointer (some ⟨b,off+(j+1),none⟩)) (fun _ _ _ h=>h) (by rw [hops.out];kernel_rfl) ?_ ⟨d1,f0,f1⟩ ?_
                · intro W hS
                  go_simp
                  try (intro h;omega)
                iterate 3 (refine aa ?_ (fun _ _ _ h=>h) (by rw [hops.out];kernel_rfl) ?_ ⟨d1,f0,f1⟩ ?_;rotate_left;focus (intro W hS;obtain ⟨s1,s2,s3⟩:=hS;go_simp;rfl))
                iterate 1 (refine aa ?_ (fun _ _ _ h=>h) rfl ?_ ⟨d1,f0,f1⟩ ?_;rotate_left;focus (intro W hS;obtain ⟨s1,s2,s3⟩:=hS;go_simp;rfl))
                refine ai ?_
                go_simp
                clear d1 f1 f0 q1
                go_wp2
                go_roundw
                case rel=>exact ⟨j+2,by omega,by go_num,HN.out,hbd⟩
                case measure=>simp [intOf];omega
        · obtain rfl:k=names.length:=by omega
          have HV:=aa9 (show bp ⟨kd,names,ev⟩=(decide ((1:Int)≤(names.length:Int)) && decide ((names.length:Int)≤3)) by rw [HS.out,show iA names=true from Hall.out,Bool.true_and])
          clear HS Hall
          go_wp2_with fail
          refine (C3.out _).mono ?_
          rintro e w1 ⟨rfl,rfl⟩
          go_wp2
          go_ret
          exact ⟨by rw [HV.out];rfl,hbw⟩
theorem kT {f:Flt} {k:Nat} {s:Scp} (h:f.scopes[k]? =some s) (hs:bp s=false):aN f=false:=by unfold aN;rw [d7 h hs];rfl
theorem iC {α:Type} {p:α→Bool} {l:List α} {k:Nat} {x:α} (hx:l[k]? =some x) (h:(l.take k).all p=true) (hp:p x=true):(l.take (k+1)).all p=true:=by
 obtain ⟨h1,h2⟩:=List.getElem?_eq_some_iff.1 hx
 rw [List.take_succ_eq_append_getElem h1,h2,List.all_append,h]
 simp [hp]
theorem dJ (f:Flt) (vs:Value) (w:World) (hr:az w (aj f.scopes) vs) (hl:f.scopes.length≤140737488355328) (hx: ∀ s∈f.scopes,s.names.length≤140737488355328∧ ∀ x∈s.names,x.length≤140737488355328):
 Calls Tryz.prog 57 #[.agg #[.bool f.on,vs]] w fun e w'=>e= .returned (.bool (aN f))∧Below w.heap.size w w':=by
 obtain ⟨on,l⟩:=f
 simp only at *
 obtain ⟨p,c,rfl,hp⟩:=cq hr
 have HX:=aa9 hx
 have hb1:Below w.heap.size w (w.alloc (.cells #[.bool on,.slice p l.length c] 27)):=(Below.refl _ _).alloc (Nat.le_refl _) _
 have hA:(w.alloc (.cells #[.bool on,.slice p l.length c] 27)).heap[w.heap.size]? =some (.cells #[.bool on,.slice p l.length c] 27 (0,0)):=heap_alloc_new w _
 have HA:=aa9 hA
 have hz1:(w.alloc (.cells #[.bool on,.slice p l.length c] 27)).heap.size=w.heap.size+1:=by simp
 have HZ:=aa9 hz1
 have HP:=aa9 hp
 have C3:=aa9 (fun W=>bI (l.length:Int) 1 3 W)
 clear hr hp hx hA hz1
 have hbb:Below (w.heap.size+1) (w.alloc (.cells #[.bool on,.slice p l.length c] 27)) (w.alloc (.cells #[.bool on,.slice p l.length c] 27)):=Below.refl _ _
 go_enter Tryz.func57,Tryz.ntmps57
 go_wp2
 go_loopw [3] (fun i wr=> ∃ k:Nat,k≤l.length∧i= .int .i64 k∧(l.take k).all bp=true∧Below (w.heap.size+1) (w.alloc (.cells #[.bool on,.slice p l.length c] 27)) wr) (fun i _=>l.length - (intOf i).toNat)
 case atStart=>exact ⟨0,by omega,rfl,rfl,hbb⟩
 case round=>
  obtain ⟨k,hk,rfl,hall,hbr⟩:=hrel
  have hbw:=hb1.trans (hbr.mono (by omega))
  have hzr:w.heap.size+1≤wr.heap.size:=by have:=hbr.size;rw [HZ.out] at this;exact this
  have q0:wr.cell? ⟨w.heap.size,0,none⟩=some (.bool on):=(aa8 ((hbr.block w.heap.size (by omega)).trans HA.out) 0).trans rfl
  have q1:wr.cell? ⟨w.heap.size,1,none⟩=some (.slice p l.length c):=(aa8 ((hbr.block w.heap.size (by omega)).trans HA.out) 1).trans rfl
  have Hall:=aa9 hall
  clear hall hbb hb1
  by_cases hlt:k < l.length
  · obtain ⟨b,off,rfl,hb,hcell⟩:=HP.out.resolve_left (by intro h;subst h;simp at hlt)
    obtain ⟨s,hs⟩: ∃ s,l[k]? =some s:=⟨_,List.getElem?_eq_getElem hlt⟩
    have hsl:=HX.out s (List.mem_of_getElem? hs)
    obtain ⟨v1,n1,x0,x1,x2⟩:=hcell k s hs
    have e0:wr.cell? ⟨b,off+k * 3,none⟩=some (.int .i64 s.kind):=(hbw.cell (p:=⟨b,off+k * 3,none⟩) hb).trans x0
    have e1:wr.cell? ⟨b,off+k * 3+1,none⟩=some v1:=(hbw.cell (p:=⟨b,off+k * 3+1,none⟩) hb).trans x1
    have e2:wr.cell? ⟨b,off+k * 3+2,none⟩=some (.int .i64 s.events):=(hbw.cell (p:=⟨b,off+k * 3+2,none⟩) hb).trans x2
    have c4:=kS s v1 wr (n1.below hbw) hsl.1 hsl.2
    cases h4:bp s with
    | false=>
      have HV:=aa9 (show aN ⟨on,l⟩=false from kT (f:=⟨on,l⟩) hs h4)
      rw [h4] at c4
      have C4:=aa9 c4
      clear c4 hs HP hcell h4 x0 x1 x2 n1 HA HX Hall C3
      go_wp2_with fail
      refine (C4.out).mono ?_
      rintro e w1 ⟨rfl,b1⟩
      have hb2:=hbw.trans (b1.mono (by omega))
      clear b1
      go_wp2
      go_ret
      exact ⟨by rw [HV.out];rfl,hb2⟩
    | true=>
      have HN:=aa9 (iC hs Hall.out h4)
      rw [h4] at c4
      have C4:=aa9 c4
      clear c4 hs hcell h4 x0 x1 x2 n1 Hall hbw
      go_wp2_with fail
      refine (C4.out).mono ?_
      rintro e w1 ⟨rfl,b1⟩
      have hb2:=hbr.trans (b1.mono hzr)
      clear b1 hbr q0 q1 e0 e1 e2 C4
      go_wp2
      go_roundw
      case rel=>exact ⟨k+1,by omega,by go_num,HN.out,hb2⟩
      case measure=>simp [intOf];omega
  · obtain rfl:k=l.length:=by omega
    rw [List.take_length] at Hall
    cases on with
    | false=>
      have HV:=aa9 (show aN ⟨false,l⟩=decide (l.length=0) by unfold aN;rw [Hall.out];rfl)
      by_cases h0:l.length=0
      · have hz:((l.length:Int)==0)=true:=by simp [h0]
        have HV2:=aa9 (HV.out.trans (decide_eq_true h0))
        clear h0 HV
        go_wp2
        go_ret
        exact ⟨by rw [HV2.out];rfl,hbw⟩
      · have hz:((l.length:Int)==0)=false:=cFalse (by omega)
        have HV2:=aa9 (HV.out.trans (decide_eq_false h0))
        clear h0 HV
        go_wp2
        go_ret
        exact ⟨by rw [HV2.out];rfl,hbw⟩
    | true=>
      have HV:=aa9 (show aN ⟨true,l⟩=(decide ((1:Int)≤(l.length:Int)) && decide ((l.length:Int)≤3)) by unfold aN;rw [Hall.out];rfl)
      go_wp2_with fail
      refine (C3.out _).mono ?_
      rintro e w1 ⟨rfl,rfl⟩
      go_wp2
      go_ret
      exact ⟨by rw [HV.out];rfl,hbw⟩
deriving instance DecidableEq for Scp
deriving instance DecidableEq for Flt
theorem cc {α:Type} {l m:List α} {k:Nat} {x:α} (hx:l[k]? =some x) (hy:m[k]? =some x) (h:l.take k=m.take k):l.take (k+1)=m.take (k+1):=by
 obtain ⟨h1,h2⟩:=List.getElem?_eq_some_iff.1 hx
 obtain ⟨h3,h4⟩:=List.getElem?_eq_some_iff.1 hy
 rw [List.take_succ_eq_append_getElem h1,h2,List.take_succ_eq_append_getElem h3,h4,h]
theorem cQ {α:Type} {l m:List α} {k:Nat} {x y:α} (hx:l[k]? =some x) (hy:m[k]? =some y) (h:x ≠ y):l ≠ m:=by
 intro e
 rw [e,hy] at hx
 injection hx with hx
 exact h hx.symm
end Go.Proofs.YtmlgkoeacbeopaaGreatDoor
