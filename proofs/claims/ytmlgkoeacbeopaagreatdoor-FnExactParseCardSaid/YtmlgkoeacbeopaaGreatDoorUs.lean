/- Us -/
import Derived.Deep.DeepCutAuto
import Derived.Deep.Cut
import Derived.Deep.CutRange
import Derived.Deep.LoopGhost
import Derived.Lib.OwnKind
import Derived.Lib.Fields
import Derived.Test.YtmlgkoeacbeopaaGreatDoorUg
set_option maxHeartbeats 6400000
namespace Go.Proofs.YtmlgkoeacbeopaaGreatDoor
open Go.RowKit
open Go.Lib (decDigits itoa)
def oL15 : List (Nat × Bool) := [(0, true), (1, true), (2, true), (3, true), (4, true), (5, true), (6, true), (7, true), (8, true), (9, true), (10, true), (11, true), (12, true), (13, true), (14, true), (15, true), (16, true), (17, true), (18, true), (19, true), (20, false), (21, true), (22, true), (23, true)]
def oL14 : List (Nat × Bool) := [(0, true), (1, true), (2, true), (3, true), (4, true), (5, true), (6, true), (7, true), (8, true), (9, true), (10, true), (11, true), (12, true)]
def oL13 : List (Nat × Bool) := ((0, true) :: (1, true) :: (2, true) :: (3, true) :: (4, true) :: (5, true) :: (6, true) :: (7, true) :: (8, true) :: (9, true) :: (10, true) :: (11, true) :: (12, true) :: (13, true) :: (14, true) :: (15, true) :: (16, true) :: (17, true) :: (18, true) :: (19, true) :: (20, true) :: (21, true) :: (22, true) :: (23, true) :: (24, true) :: (25, true) :: (26, true) :: (27, true) :: (28, true) :: (29, true) :: (30, true) :: (31, true) :: (32, true) :: (33, true) :: (34, true) :: (35, true) :: (36, true) :: (37, true) :: (38, true) :: (39, true) :: (40, true) :: (41, true) :: (42, true) :: [])
theorem jv (m:Nat) (h1:1≤m) (h:m≤9223372036854775808):(decDigits m).length≤20:=by
 have:=Lib.itoa_length_le (-(m:Int)) (by omega) (by omega)
 rw [Lib.itoa_neg m h1] at this
 simpa using this
theorem l7 (n:Nat) (k:Int) (hk:k= -(n:Int)) (w:World) (h1:1≤n) (hn:n≤9223372036854775808):
 Calls Tryz.prog 200 #[.int .i64 k] w fun e w'=>e= .returned (sv (45::decDigits n))∧Below w.heap.size w w':=by
 subst hk
 have hb0:(-(n:Int)==0)=false:=by simp;omega
 have hl0: -(n:Int) < 0:=by omega
 have hd:=jv n h1 hn
 go_enter Tryz.func200,Tryz.ntmps200
 go_wp2
 go_loopw [0,4,5] (fun x out _ wr=> ∃ (m:Nat) (l:List UInt8),m≤n∧x= .int .i64 (-(m:Int))∧out=sv l∧(m=0→l=decDigits n)∧(0 < m→decDigits m++l=decDigits n)∧Below w.heap.size w wr) (fun x _ _ _=>(-(intOf x)).toNat)
 case atStart=>exact ⟨n,[],by omega,rfl,rfl,by omega,by simp,Below.refl _ _⟩
 case round=>
  obtain ⟨m,l,hm,rfl,rfl,hz,hp,hbr⟩:=hrel
  have Hz:=aa9 hz
  have Hp:=aa9 hp
  clear hz hp hb0 hl0
  have hbr0:=hbr.size
  by_cases hm0:m=0
  · have hl:=aa9 (Hz.out hm0)
    have hll:l.length≤20:=by rw [hl.out];exact hd
    have hb0:(-(m:Int) != 0)=false:=by simp;omega
    clear hm0
    go_wp2
    go_ret
    refine ⟨?_,hbr⟩
    rw [←hl.out]
    rfl
  · have hb0:(-(m:Int) != 0)=true:=by simp;omega
    have ht:(-(m:Int)).tmod 10= -((m % 10:Nat):Int):=by rw [Int.neg_tmod,Int.tmod_eq_emod_of_nonneg (by omega)];omega
    have hq:(-(m:Int)).tdiv 10= -((m / 10:Nat):Int):=by rw [Int.neg_tdiv,Int.tdiv_eq_ediv_of_nonneg (by omega)];omega
    have ht0:m % 10 < 10:=by omega
    have hcv:=fun W g hc=>gf (P:=Tryz.prog) 22 9 5 Tryz.underlying22 Tryz.underlying5 Tryz.underlying9 (48+(m:Int) % 10) (by omega) (by omega) 1 W g hc
    have hst:=aa9 (mP hm0 (Hp.out (by omega)))
    have hlen:l.length≤21:=by
     rw [←Hp.out (by omega),List.length_append] at hd
     omega
    have he8:(48:UInt8)+UInt8.ofNat (m % 10)=UInt8.ofNat (48+m % 10):=by
     apply UInt8.toNat_inj.1
     simp
    have He8:=aa9 he8
    clear he8
    by_cases hd0:m % 10=0
    · have hd1: ¬ -((m:Int) % 10) < 0:=by omega
      have hcv0:=fun W g hc=>gf (P:=Tryz.prog) 22 9 5 Tryz.underlying22 Tryz.underlying5 Tryz.underlying9 48 (by omega) (by omega) 1 W g hc
      have hst0:=aa9 (show (m / 10=0→UInt8.ofNat (48+0)::l=decDigits n)∧(0 < m / 10→decDigits (m / 10)++UInt8.ofNat (48+0)::l=decDigits n) from by have:=hst.out;rw [hd0] at this;exact this)
      go_wp2
      go_roundw
      case rel=>exact ⟨m / 10,_::l,by omega,by go_num,rfl,hst0.out.1,hst0.out.2,hbr.alloc hbr0 _⟩
      case measure=>simp [intOf];omega
    · have hd1: -((m:Int) % 10) < 0:=by omega
      go_wp2
      go_roundw
      case rel=>
       refine ⟨m / 10,_::l,by omega,by go_num,?_,hst.out.1,hst.out.2,hbr.alloc hbr0 _⟩
       rw [←He8.out]
       rfl
      case measure=>simp [intOf];omega
theorem mt (n:Int):itoa n=if n < 0 then 45::decDigits n.natAbs else decDigits n.toNat:=rfl
theorem l8 (n:Int) (w:World) (h0: -9223372036854775808≤n) (h1:n≤9223372036854775807):
 Calls Tryz.prog 200 #[.int .i64 n] w fun e w'=>e= .returned (sv (itoa n))∧Below w.heap.size w w':=by
 rw [mt]
 by_cases h:n < 0
 · rw [if_pos h]
   exact l7 n.natAbs n (by omega) w (by omega) (by omega)
 · rw [if_neg h]
   have:=gI n.toNat w (by omega)
   rw [Int.toNat_of_nonneg (by omega)] at this
   exact this
def dN (n:Int):List UInt8:=if n=0 then [42] else itoa n
def fa (s:Spn):List UInt8:=if s.high=s.low then dN s.low else dN s.low++58::dN s.high
def fJ (l:List Spn):List UInt8:=if setB l=true then Lib.join (l.map fa) [44] else []
def l4n (w:List UInt8):Int:=match eJ w with | some n=>(n:Int) | none=>0
def gY (w:List UInt8):Spn:=⟨l4n ((aR 58 w).headD []),l4n ((aR 58 w).getLastD [])⟩
def pL (s:List UInt8):List Spn:=if (aR 44 s).length≤5 then (aR 44 s).map gY else []
def bq (s:List UInt8):Option (List Spn):=if s=[]∨fJ (pL s) ≠ s then none else some (pL s)
theorem eU {s:List UInt8} {l:List Spn} (h:bq s=some l):setB l=true∧fJ l=s:=by
 unfold bq at h
 split at h
 · cases h
 · rename_i hn
   injection h with h
   subst h
   have hs: ¬s=[]:=fun e=>hn (.inl e)
   have ht:fJ (pL s)=s:=Decidable.byContradiction fun e=>hn (.inr e)
   refine ⟨?_,ht⟩
   cases hb:setB (pL s) with
   | true=>rfl
   | false=>
     unfold fJ at ht
     rw [hb] at ht
     exact absurd ht.symm hs
theorem lc (c:UInt8): ∀ (ws:List (List UInt8)),ws ≠ []→(∀ w∈ws,∀ b∈w,b ≠ c)→aR c (Lib.join ws [c])=ws
 | [],h,_=>absurd rfl h
 | [w],_,h=>by rw [Lib.join_one];exact dj c w (h w (by simp))
 | w::x::r,_,h=>by
   have e:Lib.join (w::x::r) [c]=w++c::Lib.join (x::r) [c]:=by
    rw [Lib.join_cons,Lib.join_cons]
    simp [Lib.joinTail]
   rw [e,gh c w _ (h w (by simp)),lc c (x::r) (by simp) (fun y hy=>h y (by simp [hy]))]
theorem nw (n:Nat):itoa (n:Int)=decDigits n:=by rw [mt,if_neg (by omega)];rfl
theorem nx {n:Int} (h:kE n=true): ∃ k:Nat,n=(k:Int)∧k≤999999999:=by
 unfold kE at h
 simp only [Bool.and_eq_true,decide_eq_true_eq] at h
 exact ⟨n.toNat,by omega,by omega⟩
theorem jw {n:Int} (h:kE n=true):l4n (dN n)=n:=by
 obtain ⟨k,rfl,hk⟩:=nx h
 unfold dN
 by_cases h0:(k:Int)=0
 · rw [if_pos h0,h0];rfl
 · rw [if_neg h0,nw]
   have:eJ (decDigits k)=some k:=by
    unfold eJ
    rw [if_pos ⟨(ib _).2 (by rw [(bl k).1]),by rw [(bl k).1];exact hk⟩,(bl k).1]
   unfold l4n
   rw [this]
theorem cW {n:Int} (h:kE n=true): ∀ b∈dN n,b ≠ 58∧b ≠ 44:=by
 obtain ⟨k,rfl,hk⟩:=nx h
 unfold dN
 by_cases h0:(k:Int)=0
 · rw [if_pos h0]
   intro b hb
   rw [List.mem_singleton.1 hb]
   exact ⟨by decide,by decide⟩
 · rw [if_neg h0,nw]
   intro b hb
   have:=List.all_eq_true.1 (bl k).2.1 b hb
   unfold isd at this
   simp only [Bool.and_eq_true,decide_eq_true_eq] at this
   constructor
   · rintro rfl;exact absurd this.2 (by decide)
   · rintro rfl;exact absurd this.1 (by decide)
theorem gx {n:Int} (h:kE n=true):1≤(dN n).length∧(dN n).length≤21:=by
 obtain ⟨k,rfl,hk⟩:=nx h
 unfold dN
 by_cases h0:(k:Int)=0
 · rw [if_pos h0];simp
 · rw [if_neg h0,nw]
   have h1:=bR k (by omega)
   have h2:decDigits k ≠ []:=by
    intro e
    have h3:=(bl k).1
    rw [e] at h3
    rw [wJ] at h3
    omega
   have:=List.length_pos_iff.2 h2
   omega
theorem rX {s:Spn} (h:kF s=true): ∀ b∈fa s,b ≠ 44:=by
 unfold kF at h
 simp only [Bool.and_eq_true] at h
 unfold fa
 split
 · exact fun b hb=>(cW h.1 b hb).2
 · intro b hb
   rcases List.mem_append.1 hb with hb | hb
   · exact (cW h.1 b hb).2
   · rcases List.mem_cons.1 hb with rfl | hb
     · decide
     · exact (cW h.2 b hb).2
theorem tQ {s:Spn} (h:kF s=true):gY (fa s)=s:=by
 unfold kF at h
 simp only [Bool.and_eq_true] at h
 unfold gY fa
 by_cases he:s.high=s.low
 · rw [if_pos he,dj 58 _ (fun b hb=>(cW h.1 b hb).1)]
   show (⟨l4n (dN s.low),l4n (dN s.low)⟩:Spn)=s
   rw [jw h.1]
   cases s
   simp only at he
   rw [he]
 · rw [if_neg he,gh 58 _ _ (fun b hb=>(cW h.1 b hb).1),dj 58 _ (fun b hb=>(cW h.2 b hb).1)]
   show (⟨l4n (dN s.low),l4n (dN s.high)⟩:Spn)=s
   rw [jw h.1,jw h.2]
theorem ny {s:Spn} (h:kF s=true):1≤(fa s).length∧(fa s).length≤43:=by
 unfold kF at h
 simp only [Bool.and_eq_true] at h
 have h1:=gx h.1
 have h2:=gx h.2
 unfold fa
 split
 · omega
 · simp;omega
theorem cX {l:List Spn} (h:setB l=true):(∀ s∈l,kF s=true)∧1≤l.length∧l.length≤5:=by
 unfold setB at h
 simp only [Bool.and_eq_true,decide_eq_true_eq,List.all_eq_true] at h
 exact ⟨h.1,h.2.1,h.2.2⟩
theorem jx {l:List Spn} (h:setB l=true):aR 44 (fJ l)=l.map fa:=by
 obtain ⟨h1,h2,h3⟩:=cX h
 unfold fJ
 rw [if_pos h]
 refine lc 44 _ (by cases l with | nil=>simp at h2 | cons a r=>simp) ?_
 intro w hw
 obtain ⟨s,hs,rfl⟩:=List.mem_map.1 hw
 exact rX (h1 s hs)
theorem tR {l:List Spn} (h:setB l=true):pL (fJ l)=l:=by
 obtain ⟨h1,h2,h3⟩:=cX h
 unfold pL
 rw [jx h,if_pos (by simpa using h3),List.map_map]
 conv=>rhs;rw [←List.map_id l]
 exact List.map_congr_left fun s hs=>tQ (h1 s hs)
theorem xy {l:List Spn} (h:setB l=true): ¬fJ l=[]:=by
 obtain ⟨h1,h2,h3⟩:=cX h
 intro e
 have hp:=jx h
 rw [e] at hp
 cases l with
 | nil=>simp at h2
 | cons a r=>
   have hp2:aR 44 []=[[]]:=dj 44 [] (by simp)
   rw [hp2] at hp
   simp only [List.map_cons,List.cons.injEq] at hp
   have:=(ny (h1 a (by simp))).1
   rw [←hp.1] at this
   simp at this
theorem rY {l:List Spn} (h:setB l=true):bq (fJ l)=some l:=by
 unfold bq
 rw [tR h,if_neg]
 rintro (e | e)
 · exact xy h e
 · exact e rfl
theorem tS (s:List UInt8) (l:List Spn):bq s=some l↔setB l=true∧fJ l=s:=
 ⟨eU,fun h=>by rw [←h.2];exact rY h.1⟩
theorem rZ {s:List UInt8} (h: ∀ l,setB l=true→fJ l ≠ s):bq s=none:=by
 cases hr:bq s with
 | none=>rfl
 | some l=>exact absurd (eU hr).2 (h l (eU hr).1)
end Go.Proofs.YtmlgkoeacbeopaaGreatDoor
namespace Go.Proofs.YtmlgkoeacbeopaaGreatDoor
open Go.RowKit
def eg:List (List UInt8):=[[],[115,101,108,101,99,116,101,100],[112,101,114,115,111,110,97,108],[115,117,98,116,114,101,101],[98,111,120,101,115]]
def da:List (List UInt8):=[[110,101,119],[103,111,110,101],[102,108,97,103,115],[110,97,109,101,115]]
theorem qn (w:World):
 Calls Tryz.prog 161 #[] w fun e w'=>e= .returned (.slice (some ⟨w.heap.size,0,none⟩) 5 5)∧(∀ j x,eg[j]? =some x→w'.cell? ⟨w.heap.size,j,none⟩=some (sv x))∧w.heap.size < w'.heap.size∧Below w.heap.size w w':=by
 go_enter Tryz.func161,Tryz.ntmps161
 go_wp2
 go_ret
 have h:=heap_alloc_new w (.cells #[sv [],sv [115,101,108,101,99,116,101,100],sv [112,101,114,115,111,110,97,108],sv [115,117,98,116,114,101,101],sv [98,111,120,101,115]] 9)
 refine ⟨rfl,fun j x hx=> ?_,by simp,(Below.refl _ _).alloc (Nat.le_refl _) _⟩
 refine (aa8 h j).trans ?_
 match j with
 | 0=>simp [eg] at hx;subst hx;rfl
 | 1=>simp [eg] at hx;subst hx;rfl
 | 2=>simp [eg] at hx;subst hx;rfl
 | 3=>simp [eg] at hx;subst hx;rfl
 | 4=>simp [eg] at hx;subst hx;rfl
 | n+5=>simp [eg] at hx
theorem jX (w:World):
 Calls Tryz.prog 162 #[] w fun e w'=>e= .returned (.slice (some ⟨w.heap.size,0,none⟩) 4 4)∧(∀ j x,da[j]? =some x→w'.cell? ⟨w.heap.size,j,none⟩=some (sv x))∧w.heap.size < w'.heap.size∧Below w.heap.size w w':=by
 go_enter Tryz.func162,Tryz.ntmps162
 go_wp2
 go_ret
 have h:=heap_alloc_new w (.cells #[sv [110,101,119],sv [103,111,110,101],sv [102,108,97,103,115],sv [110,97,109,101,115]] 9)
 refine ⟨rfl,fun j x hx=> ?_,by simp,(Below.refl _ _).alloc (Nat.le_refl _) _⟩
 refine (aa8 h j).trans ?_
 match j with
 | 0=>simp [da] at hx;subst hx;rfl
 | 1=>simp [da] at hx;subst hx;rfl
 | 2=>simp [da] at hx;subst hx;rfl
 | 3=>simp [da] at hx;subst hx;rfl
 | n+4=>simp [da] at hx
structure In6 (W:World) (g:Nat) (p:Option Addr) (l:List Tok) (cap at_:Nat) (bad:Bool):Prop where
 blk:W.heap[g]? =some (.cells #[.slice p l.length cap,.int .i64 at_,.bool bad] 76 (0,0))
 rd:l=[]∨ ∃ b off,p=some ⟨b,off,none⟩∧b < g∧ ∀ i t,l[i]? =some t→W.cell? ⟨b,off+i * 2,none⟩=some (.int .i64 t.kind)∧W.cell? ⟨b,off+i * 2+1,none⟩=some (sv t.text)
def iM (l:List Tok) (at_:Nat) (kind:Int):Option (List UInt8):=
 match l[at_]? with
 | some t=>if t.kind=kind∧(kind=1∨t.text=[]) then some t.text else none
 | none=>none
theorem In6.set {W:World} {g cap at_ j:Nat} {p:Option Addr} {l:List Tok} {bad bad':Bool} {at':Nat} {u:Value} (h:In6 W g p l cap at_ bad) (hu:(#[.slice p l.length cap,.int .i64 at_,.bool bad]:Array Value).setIfInBounds j u= #[.slice p l.length cap,.int .i64 at',.bool bad']):In6 (W.setCell ⟨g,j,none⟩ u) g p l cap at' bad':=by
 refine ⟨by rw [bz h.blk,hu],h.rd.imp id fun ⟨b,off,hp,hb,hc⟩=>⟨b,off,hp,hb,fun i t ht=> ?_⟩⟩
 obtain ⟨h1,h2⟩:=hc i t ht
 exact ⟨(World.cell?_setCell_other W _ _ _ (by intro e;injection e with e _;omega)).trans h1,(World.cell?_setCell_other W _ _ _ (by intro e;injection e with e _;omega)).trans h2⟩
theorem In6.drew {W:World} {g cap at_:Nat} {p:Option Addr} {l:List Tok} {bad:Bool} (h:In6 W g p l cap at_ bad):In6 W.drew g p l cap at_ bad:=⟨h.blk,h.rd⟩
def vV (W:World) (g:Nat) (p:Option Addr) (l:List Tok) (cap at_:Nat) (bad:Bool) (kind:Int) (e:Ending) (w':World):Prop:=
 W.grownBy w' (some g)∧((∃ x,iM l at_ kind=some x∧e= .returned (sv x)∧In6 w' g p l cap (at_+1) bad)∨(iM l at_ kind=none∧e= .returned (sv [])∧In6 w' g p l cap at_ true))
set_option maxRecDepth 4000 in
theorem jy (g cap at_:Nat) (p:Option Addr) (l:List Tok) (bad:Bool) (kind:Int) (W:World) (h:In6 W g p l cap at_ bad) (hl:l.length≤140737488355328) (ha:at_≤l.length):
 Calls Tryz.prog 59 #[.pointer (some ⟨g,0,none⟩),.int .i64 kind] W fun e w'=>vV W g p l cap at_ bad kind e w':=by
 have HI:=aa9 h
 have q0:W.cell? ⟨g,0,none⟩=some (.slice p l.length cap):=(aa8 h.blk 0).trans rfl
 have q1:W.cell? ⟨g,1,none⟩=some (.int .i64 at_):=(aa8 h.blk 1).trans rfl
 have q2:W.cell? ⟨g,2,none⟩=some (.bool bad):=(aa8 h.blk 2).trans rfl
 have z1:W.frozen? ⟨g,1,none⟩=false:=Lib.frozen_of_heap h.blk 1
 have z2:W.frozen? ⟨g,2,none⟩=false:=Lib.frozen_of_heap h.blk 2
 have HG2:=aa9 (show W.grownBy (W.drew.setCell ⟨g,2,none⟩ (.bool true)) (some g) from ⟨rfl,rfl,rfl,by simp,fun k _ hk=>Below.heap_setCell W.drew _ _ k (by intro e;exact hk (by rw [show k=g from e]))⟩)
 have HG1:=aa9 (show W.grownBy (W.drew.setCell ⟨g,1,none⟩ (.int .i64 ((at_:Int)+1))).drew (some g) from ⟨rfl,rfl,rfl,by simp,fun k _ hk=>Below.heap_setCell W.drew _ _ k (by intro e;exact hk (by rw [show k=g from e]))⟩)
 have HN2:=aa9 (show In6 (W.drew.setCell ⟨g,2,none⟩ (.bool true)) g p l cap at_ true from h.drew.set rfl)
 have d0:W.drew.cell? ⟨g,0,none⟩=some (.slice p l.length cap):=q0
 have d1:W.drew.cell? ⟨g,1,none⟩=some (.int .i64 at_):=q1
 have y2:W.drew.cell? ⟨g,2,none⟩=some (.bool bad):=q2
 have y3:W.drew.frozen? ⟨g,2,none⟩=false:=z2
 have y4:W.drew.frozen? ⟨g,1,none⟩=false:=z1
 by_cases hlt:at_ < l.length
 · obtain ⟨b,off,rfl,hb,hcell⟩:=h.rd.resolve_left (by intro h;subst h;simp at hlt)
   obtain ⟨t,ht⟩: ∃ t,l[at_]? =some t:=⟨_,List.getElem?_eq_getElem hlt⟩
   obtain ⟨e0,e1⟩:=hcell at_ t ht
   have f0:W.drew.cell? ⟨b,off+at_ * 2,none⟩=some (.int .i64 t.kind):=e0
   have f1:W.drew.cell? ⟨b,off+at_ * 2+1,none⟩=some (sv t.text):=e1
   have hV:iM l at_ kind=if t.kind=kind∧(kind=1∨t.text=[]) then some t.text else none:=by unfold iM;rw [ht]
   have HN1:=aa9 (show In6 (W.drew.setCell ⟨g,1,none⟩ (.int .i64 ((at_:Int)+1))).drew g (some ⟨b,off,none⟩) l cap (at_+1) bad from (h.drew.set (j:=1) (by rfl)).drew)
   have k0:(W.drew.setCell ⟨g,1,none⟩ (.int .i64 ((at_:Int)+1))).drew.cell? ⟨g,0,none⟩=some (.slice (some ⟨b,off,none⟩) l.length cap):=(aa8 HN1.out.blk 0).trans rfl
   have k1:(W.drew.setCell ⟨g,1,none⟩ (.int .i64 ((at_:Int)+1))).drew.cell? ⟨g,1,none⟩=some (.int .i64 ((at_:Int)+1)):=(aa8 HN1.out.blk 1).trans rfl
   have k2:(W.drew.setCell ⟨g,1,none⟩ (.int .i64 ((at_:Int)+1))).drew.cell? ⟨b,off+at_ * 2+1,none⟩=some (sv t.text):=(World.cell?_setCell_other W.drew _ _ _ (by intro e;injection e with e _;omega)).trans e1
   have hge: ¬(l.length:Int)≤(at_:Int):=by omega
   have hge2: ¬(at_:Int) ≥ (l.length:Int):=by omega
   have hge3:decide ((at_:Int) ≥ (l.length:Int))=false:=decide_eq_false hge2
   have hge5: ¬l.length≤at_:=by omega
   have hwr:IntKind.i64.wrap (at_:Int)=(at_:Int):=IntWalk.i64_in _ (by omega)
   clear h hcell ht
   cases h1:(t.kind==kind) with
   | false=>
     have h1n:=gL h1
     have HV:=aa9 (hV.trans (if_neg (by intro e;rw [e.1] at h1;simp at h1)))
     clear hV
     go_enter Tryz.func59,Tryz.ntmps59
     go_wp2
     refine ah oL13 (fun W=>W.cell? ⟨g,0,none⟩=some (.slice (some ⟨b,off,none⟩) l.length cap)∧W.cell? ⟨g,1,none⟩=some (.int .i64 at_)∧W.cell? ⟨b,off+at_ * 2,none⟩=some (.int .i64 t.kind)∧W.cell? ⟨b,off+at_ * 2+1,none⟩=some (sv t.text)) (by kernel_rfl) (by kernel_rfl) (by kernel_rfl) (by kernel_rfl) ?_
     intro ops' hops
     simp only [oL13,List.map_cons,List.map_nil,ae,ag]
     iterate 11 (refine aa ?_ (fun _ _ _ h=>h) rfl ?_ ⟨d0,d1,f0,f1⟩ ?_;rotate_left;focus (intro W hS;obtain ⟨s0,s1,s2,s3⟩:=hS;go_simp;rfl))
     iterate 13 (refine aa ?_ (fun _ _ _ h=>h) (by rw [hops.out];kernel_rfl) ?_ ⟨d0,d1,f0,f1⟩ ?_;rotate_left;focus (intro W hS;obtain ⟨s0,s1,s2,s3⟩:=hS;go_simp;rfl))
     iterate 2 (refine aa ?_ (fun _ _ _ h=>h) rfl ?_ ⟨d0,d1,f0,f1⟩ ?_;rotate_left;focus (intro W hS;obtain ⟨s0,s1,s2,s3⟩:=hS;go_simp;rfl))
     iterate 16 (refine aJ (fun _ _ _ h=>h) (by rw [hops.out];kernel_rfl) ⟨d0,d1,f0,f1⟩ ?_)
     iterate 1 (refine aa ?_ (fun _ _ _ h=>h) rfl ?_ ⟨d0,d1,f0,f1⟩ ?_;rotate_left;focus (intro W hS;obtain ⟨s0,s1,s2,s3⟩:=hS;go_simp;rfl))
     refine ai ?_
     go_simp
     go_wp2
     go_ret
     exact ⟨HG2.out,.inr ⟨HV.out,rfl,HN2.out⟩⟩
   | true=>
     have h1n:=iq h1
     cases h2:(kind==1) with
     | true=>
       have h2n:=iq h2
       have HV:=aa9 (hV.trans (if_pos ⟨by simpa using h1,.inl (by simpa using h2)⟩))
       clear hV
       go_enter Tryz.func59,Tryz.ntmps59
       go_wp2
       refine ah oL13 (fun W=>W.cell? ⟨g,0,none⟩=some (.slice (some ⟨b,off,none⟩) l.length cap)∧W.cell? ⟨g,1,none⟩=some (.int .i64 at_)∧W.cell? ⟨b,off+at_ * 2,none⟩=some (.int .i64 t.kind)∧W.cell? ⟨b,off+at_ * 2+1,none⟩=some (sv t.text)) (by kernel_rfl) (by kernel_rfl) (by kernel_rfl) (by kernel_rfl) ?_
       intro ops' hops
       simp only [oL13,List.map_cons,List.map_nil,ae,ag]
       iterate 11 (refine aa ?_ (fun _ _ _ h=>h) rfl ?_ ⟨d0,d1,f0,f1⟩ ?_;rotate_left;focus (intro W hS;obtain ⟨s0,s1,s2,s3⟩:=hS;go_simp;rfl))
       iterate 13 (refine aa ?_ (fun _ _ _ h=>h) (by rw [hops.out];kernel_rfl) ?_ ⟨d0,d1,f0,f1⟩ ?_;rotate_left;focus (intro W hS;obtain ⟨s0,s1,s2,s3⟩:=hS;go_simp;rfl))
       iterate 2 (refine aa ?_ (fun _ _ _ h=>h) rfl ?_ ⟨d0,d1,f0,f1⟩ ?_;rotate_left;focus (intro W hS;obtain ⟨s0,s1,s2,s3⟩:=hS;go_simp;rfl))
       iterate 3 (refine aa ?_ (fun _ _ _ h=>h) (by rw [hops.out];kernel_rfl) ?_ ⟨d0,d1,f0,f1⟩ ?_;rotate_left;focus (intro W hS;obtain ⟨s0,s1,s2,s3⟩:=hS;go_simp;rfl))
       iterate 12 (refine aJ (fun _ _ _ h=>h) (by rw [hops.out];kernel_rfl) ⟨d0,d1,f0,f1⟩ ?_)
       iterate 1 (refine aa ?_ (fun _ _ _ h=>h) (by rw [hops.out];kernel_rfl) ?_ ⟨d0,d1,f0,f1⟩ ?_;rotate_left;focus (intro W hS;obtain ⟨s0,s1,s2,s3⟩:=hS;go_simp;rfl))
       iterate 1 (refine aa ?_ (fun _ _ _ h=>h) rfl ?_ ⟨d0,d1,f0,f1⟩ ?_;rotate_left;focus (intro W hS;obtain ⟨s0,s1,s2,s3⟩:=hS;go_simp;rfl))
       refine ai ?_
       go_simp
       go_wp2
       refine ah oL14 (fun W=>W.cell? ⟨g,0,none⟩=some (.slice (some ⟨b,off,none⟩) l.length cap)∧W.cell? ⟨g,1,none⟩=some (.int .i64 ((at_:Int)+1))∧W.cell? ⟨b,off+at_ * 2+1,none⟩=some (sv t.text)) (by kernel_rfl) (by kernel_rfl) rfl (by kernel_rfl) ?_
       intro ops' hops
       clear hops
       simp only [oL14,List.map_cons,List.map_nil,ae,ag]
       iterate 9 (refine aa ?_ (fun _ _ _ h=>h) rfl ?_ ⟨k0,k1,k2⟩ ?_;rotate_left;focus (intro W hS;obtain ⟨s0,s1,s2⟩:=hS;go_simp;rfl))
       iterate 4 (refine aa ?_ (fun _ _ _ h=>h) rfl ?_ ⟨k0,k1,k2⟩ ?_;rotate_left;focus (intro W hS;obtain ⟨s0,s1,s2⟩:=hS;go_simp;rfl))
       refine ai ?_
       go_simp
       go_wp2
       go_ret
       exact ⟨HG1.out,.inl ⟨_,HV.out,rfl,HN1.out⟩⟩
     | false=>
       have h2n:=gL h2
       cases h3:(t.text==([]:List UInt8)) with
       | false=>
         have HV:=aa9 (hV.trans (if_neg (by intro e;rcases e.2 with e | e;rw [e] at h2;simp at h2;rw [e] at h3;simp at h3)))
         clear hV
         go_enter Tryz.func59,Tryz.ntmps59
         go_wp2
         refine ah oL13 (fun W=>W.cell? ⟨g,0,none⟩=some (.slice (some ⟨b,off,none⟩) l.length cap)∧W.cell? ⟨g,1,none⟩=some (.int .i64 at_)∧W.cell? ⟨b,off+at_ * 2,none⟩=some (.int .i64 t.kind)∧W.cell? ⟨b,off+at_ * 2+1,none⟩=some (sv t.text)) (by kernel_rfl) (by kernel_rfl) (by kernel_rfl) (by kernel_rfl) ?_
         intro ops' hops
         simp only [oL13,List.map_cons,List.map_nil,ae,ag]
         iterate 11 (refine aa ?_ (fun _ _ _ h=>h) rfl ?_ ⟨d0,d1,f0,f1⟩ ?_;rotate_left;focus (intro W hS;obtain ⟨s0,s1,s2,s3⟩:=hS;go_simp;rfl))
         iterate 13 (refine aa ?_ (fun _ _ _ h=>h) (by rw [hops.out];kernel_rfl) ?_ ⟨d0,d1,f0,f1⟩ ?_;rotate_left;focus (intro W hS;obtain ⟨s0,s1,s2,s3⟩:=hS;go_simp;rfl))
         iterate 2 (refine aa ?_ (fun _ _ _ h=>h) rfl ?_ ⟨d0,d1,f0,f1⟩ ?_;rotate_left;focus (intro W hS;obtain ⟨s0,s1,s2,s3⟩:=hS;go_simp;rfl))
         iterate 3 (refine aa ?_ (fun _ _ _ h=>h) (by rw [hops.out];kernel_rfl) ?_ ⟨d0,d1,f0,f1⟩ ?_;rotate_left;focus (intro W hS;obtain ⟨s0,s1,s2,s3⟩:=hS;go_simp;rfl))
         iterate 12 (refine aa ?_ (fun _ _ _ h=>h) (by rw [hops.out];kernel_rfl) ?_ ⟨d0,d1,f0,f1⟩ ?_;rotate_left;focus (intro W hS;obtain ⟨s0,s1,s2,s3⟩:=hS;go_simp;rfl))
         iterate 1 (refine aa ?_ (fun _ _ _ h=>h) (by rw [hops.out];kernel_rfl) ?_ ⟨d0,d1,f0,f1⟩ ?_;rotate_left;focus (intro W hS;obtain ⟨s0,s1,s2,s3⟩:=hS;go_simp;rfl))
         iterate 1 (refine aa ?_ (fun _ _ _ h=>h) rfl ?_ ⟨d0,d1,f0,f1⟩ ?_;rotate_left;focus (intro W hS;obtain ⟨s0,s1,s2,s3⟩:=hS;go_simp;rfl))
         refine ai ?_
         go_simp
         go_wp2
         go_ret
         exact ⟨HG2.out,.inr ⟨HV.out,rfl,HN2.out⟩⟩
       | true=>
         have HV:=aa9 (hV.trans (if_pos ⟨by simpa using h1,.inr (by simpa using h3)⟩))
         clear hV
         go_enter Tryz.func59,Tryz.ntmps59
         go_wp2
         refine ah oL13 (fun W=>W.cell? ⟨g,0,none⟩=some (.slice (some ⟨b,off,none⟩) l.length cap)∧W.cell? ⟨g,1,none⟩=some (.int .i64 at_)∧W.cell? ⟨b,off+at_ * 2,none⟩=some (.int .i64 t.kind)∧W.cell? ⟨b,off+at_ * 2+1,none⟩=some (sv t.text)) (by kernel_rfl) (by kernel_rfl) (by kernel_rfl) (by kernel_rfl) ?_
         intro ops' hops
         simp only [oL13,List.map_cons,List.map_nil,ae,ag]
         iterate 11 (refine aa ?_ (fun _ _ _ h=>h) rfl ?_ ⟨d0,d1,f0,f1⟩ ?_;rotate_left;focus (intro W hS;obtain ⟨s0,s1,s2,s3⟩:=hS;go_simp;rfl))
         iterate 13 (refine aa ?_ (fun _ _ _ h=>h) (by rw [hops.out];kernel_rfl) ?_ ⟨d0,d1,f0,f1⟩ ?_;rotate_left;focus (intro W hS;obtain ⟨s0,s1,s2,s3⟩:=hS;go_simp;rfl))
         iterate 2 (refine aa ?_ (fun _ _ _ h=>h) rfl ?_ ⟨d0,d1,f0,f1⟩ ?_;rotate_left;focus (intro W hS;obtain ⟨s0,s1,s2,s3⟩:=hS;go_simp;rfl))
         iterate 3 (refine aa ?_ (fun _ _ _ h=>h) (by rw [hops.out];kernel_rfl) ?_ ⟨d0,d1,f0,f1⟩ ?_;rotate_left;focus (intro W hS;obtain ⟨s0,s1,s2,s3⟩:=hS;go_simp;rfl))
         iterate 12 (refine aa ?_ (fun _ _ _ h=>h) (by rw [hops.out];kernel_rfl) ?_ ⟨d0,d1,f0,f1⟩ ?_;rotate_left;focus (intro W hS;obtain ⟨s0,s1,s2,s3⟩:=hS;go_simp;rfl))
         iterate 1 (refine aa ?_ (fun _ _ _ h=>h) (by rw [hops.out];kernel_rfl) ?_ ⟨d0,d1,f0,f1⟩ ?_;rotate_left;focus (intro W hS;obtain ⟨s0,s1,s2,s3⟩:=hS;go_simp;rfl))
         iterate 1 (refine aa ?_ (fun _ _ _ h=>h) rfl ?_ ⟨d0,d1,f0,f1⟩ ?_;rotate_left;focus (intro W hS;obtain ⟨s0,s1,s2,s3⟩:=hS;go_simp;rfl))
         refine ai ?_
         go_simp
         go_wp2
         refine ah oL14 (fun W=>W.cell? ⟨g,0,none⟩=some (.slice (some ⟨b,off,none⟩) l.length cap)∧W.cell? ⟨g,1,none⟩=some (.int .i64 ((at_:Int)+1))∧W.cell? ⟨b,off+at_ * 2+1,none⟩=some (sv t.text)) (by kernel_rfl) (by kernel_rfl) rfl (by kernel_rfl) ?_
         intro ops' hops
         clear hops
         simp only [oL14,List.map_cons,List.map_nil,ae,ag]
         iterate 9 (refine aa ?_ (fun _ _ _ h=>h) rfl ?_ ⟨k0,k1,k2⟩ ?_;rotate_left;focus (intro W hS;obtain ⟨s0,s1,s2⟩:=hS;go_simp;rfl))
         iterate 4 (refine aa ?_ (fun _ _ _ h=>h) rfl ?_ ⟨k0,k1,k2⟩ ?_;rotate_left;focus (intro W hS;obtain ⟨s0,s1,s2⟩:=hS;go_simp;rfl))
         refine ai ?_
         go_simp
         go_wp2
         go_ret
         exact ⟨HG1.out,.inl ⟨_,HV.out,rfl,HN1.out⟩⟩
 · obtain rfl:at_=l.length:=by omega
   have HV:=aa9 (show iM l l.length kind=none by unfold iM;rw [List.getElem?_eq_none (Nat.le_refl _)])
   clear h
   have hge3:decide (((l.length:Nat):Int) ≥ (l.length:Int))=true:=by simp
   go_enter Tryz.func59,Tryz.ntmps59
   go_wp2
   refine ah oL13 (fun W=>W.cell? ⟨g,0,none⟩=some (.slice p l.length cap)∧W.cell? ⟨g,1,none⟩=some (.int .i64 (l.length:Nat))) (by kernel_rfl) (by kernel_rfl) (by kernel_rfl) (by kernel_rfl) ?_
   intro ops' hops
   simp only [oL13,List.map_cons,List.map_nil,ae,ag]
   iterate 11 (refine aa ?_ (fun _ _ _ h=>h) rfl ?_ ⟨d0,d1⟩ ?_;rotate_left;focus (intro W hS;obtain ⟨s0,s1⟩:=hS;go_simp;rfl))
   iterate 13 (refine aJ (fun _ _ _ h=>h) (by rw [hops.out];kernel_rfl) ⟨d0,d1⟩ ?_)
   iterate 2 (refine aa ?_ (fun _ _ _ h=>h) rfl ?_ ⟨d0,d1⟩ ?_;rotate_left;focus (intro W hS;obtain ⟨s0,s1⟩:=hS;go_simp;rfl))
   iterate 16 (refine aJ (fun _ _ _ h=>h) (by rw [hops.out];kernel_rfl) ⟨d0,d1⟩ ?_)
   iterate 1 (refine aa ?_ (fun _ _ _ h=>h) rfl ?_ ⟨d0,d1⟩ ?_;rotate_left;focus (intro W hS;obtain ⟨s0,s1⟩:=hS;go_simp;rfl))
   refine ai ?_
   go_simp
   go_wp2
   go_ret
   exact ⟨HG2.out,.inr ⟨HV.out,rfl,HN2.out⟩⟩
end Go.Proofs.YtmlgkoeacbeopaaGreatDoor
namespace Go.Proofs.YtmlgkoeacbeopaaGreatDoor
open Go.RowKit
open Go.Lib (decDigits itoa)
theorem jz: ∀ (n:Nat) (l:List UInt8) (p q:Nat) (acc:List UInt8),l.length≤n→eH l (p+q) acc=(eH l q acc).map fun x=>(x.1,p+x.2)
 | _,[],p,q,acc,_=>by rw [il,il];rfl
 | 0,_::_,_,_,_,h=>by simp at h
 | n+1,b::r,p,q,acc,h=>by
   simp only [List.length_cons] at h
   by_cases h1:b.toNat=34
   · rw [dk _ _ _ h1,dk _ _ _ h1]
     split
     · rfl
     · simp;omega
   by_cases h2:b.toNat=92
   · rw [d5 _ _ _ h2,d5 _ _ _ h2]
     cases r with
     | nil=>rfl
     | cons c r'=>
       simp only [List.length_cons] at h
       cases hc:pK c with
       | false=>rw [io _ _ _ hc,io _ _ _ hc];rfl
       | true=>
         rw [eM _ _ _ hc,eM _ _ _ hc,show p+q+1+1=p+(q+1+1) by omega]
         exact jz n r' p _ _ (by omega)
   cases h3:mg b with
   | false=>rw [im _ _ _ h3,im _ _ _ h3];rfl
   | true=>
     rw [d6 _ _ _ h1 h2 h3,d6 _ _ _ h1 h2 h3,show p+q+1=p+(q+1) by omega]
     exact jz n r p _ _ (by omega)
def cd (b:UInt8):Bool:= !decide (b.toNat=125)
theorem xz {l:List UInt8} {k:Nat} {b:UInt8} (h:l[k]? =some b):l.take (k+1)=l.take k++[b]:=by
 obtain ⟨h1,h2⟩:=List.getElem?_eq_some_iff.1 h
 rw [List.take_succ_eq_append_getElem h1,h2]
def qo (r:List UInt8):Option (Tok×Nat):=
 let d:=r.takeWhile cd
 if r[d.length+1]? =some 13∧r[d.length+2]? =some 10 then
  match eJ d with
  | some n=>if n≤40∧n≤r.length - (d.length+3)∧d.length+3≤r.length then some (⟨2,(r.drop (d.length+3)).take n⟩,1+d.length+3+n) else none
  | none=>none
 else none
def jA (l:List UInt8):Option (Tok×Nat):=if dE (l.takeWhile cl)=true then some (⟨1,l.takeWhile cl⟩,(l.takeWhile cl).length) else none
def tkS:List UInt8→Option (Tok×Nat)
 | []=>none
 | b::r=>
   if b.toNat=40 then some (⟨3,[]⟩,1)
   else if b.toNat=41 then some (⟨4,[]⟩,1)
   else if b.toNat=34 then (eH r 1 []).map fun x=>(⟨2,x.1⟩,x.2)
   else if b.toNat=123 then qo r
   else jA (b::r)
def nz (prev:Option Tok) (blank:Bool) (t:Tok):Bool:=match prev with | none=> !blank | some a=>blank==lM a t
def l9:Nat→Option Tok→List UInt8→Option (List Tok)
 | 0,_,_=>none
 | _+1,_,[]=>some []
 | n+1,prev,c::r=>
   match tkS (if c.toNat=32 then r else c::r) with
   | none=>none
   | some (t,k)=>if nz prev (decide (c.toNat=32)) t=true then (l9 n (some t) ((if c.toNat=32 then r else c::r).drop k)).map (t:: ·) else none
def pM (l:List UInt8):Option (List Tok):=l9 (l.length+1) none l
theorem vW: ∀ (n:Nat) (l:List UInt8) (p:Nat) (acc t:List UInt8) (e:Nat),l.length≤n→eH l p acc=some (t,e)→p+1≤e∧e≤p+l.length:=by
 intro n l p acc t e hn h
 obtain ⟨z,r,_,h2,_,_,h5⟩:=ip n l p acc t e hn h
 have:l.length=(j9 z).length+1+r.length:=by rw [h2];simp;omega
 omega
theorem jB (l:List UInt8) (t:Tok) (k:Nat) (h:tkS l=some (t,k)):1≤k∧k≤l.length:=by
 cases l with
 | nil=>cases h
 | cons b r=>
   simp only [tkS] at h
   split at h
   · injection h with h;injection h with _ h;subst h;simp
   split at h
   · injection h with h;injection h with _ h;subst h;simp
   split at h
   · cases hu:eH r 1 [] with
     | none=>rw [hu] at h;cases h
     | some x=>
       rw [hu] at h
       injection h with h;injection h with _ h
       have:=vW r.length r 1 [] x.1 x.2 (Nat.le_refl _) hu
       simp only [List.length_cons];omega
   split at h
   · simp only [qo] at h
     split at h
     · split at h
       · split at h
         · injection h with h;injection h with _ h
           simp only [List.length_cons];omega
         · cases h
       · cases h
     · cases h
   · simp only [jA] at h
     split at h
     · rename_i ha
       injection h with h;injection h with _ h
       unfold dE at ha
       simp only [Bool.and_eq_true,decide_eq_true_eq] at ha
       have:=(List.takeWhile_sublist cl (l:=b::r)).length_le
       omega
     · cases h
theorem oJ: ∀ (n m:Nat) (prev:Option Tok) (l:List UInt8),l.length < n→l.length < m→l9 n prev l=l9 m prev l
 | 0,_,_,_,h,_=>by omega
 | _,0,_,_,_,h=>by omega
 | _+1,_+1,_,[],_,_=>rfl
 | n+1,m+1,prev,c::r,h1,h2=>by
   simp only [List.length_cons] at h1 h2
   simp only [l9]
   generalize hl:(if c.toNat=32 then r else c::r)=l'
   have hle:l'.length≤r.length+1:=by subst hl;split <;> simp
   cases ht:tkS l' with
   | none=>rfl
   | some x=>
     have:=jB l' x.1 x.2 ht
     simp only
     split
     · rw [oJ n m (some x.1) (l'.drop x.2) (by rw [List.length_drop];omega) (by rw [List.length_drop];omega)]
     · rfl
def nA:List UInt8→Bool
 | []=>true
 | b::_=> !cl b
theorem fk {l r:List UInt8} {p:UInt8→Bool} (h:l.all p=true) (hr: ∀ b r',r=b::r'→p b=false):(l++r).takeWhile p=l:=by
 induction l with
 | nil=>
   cases r with
   | nil=>rfl
   | cons b r'=>simp [hr b r' rfl]
 | cons x l ih=>
   simp only [List.all_cons,Bool.and_eq_true] at h
   simp [h.1,ih h.2]
theorem oK {l:List UInt8} (h:dE l=true): ∃ b r,l=b::r∧cl b=true∧ ¬b.toNat=40∧ ¬b.toNat=41∧ ¬b.toNat=34∧ ¬b.toNat=123∧ ¬b.toNat=32:=by
 unfold dE at h
 simp only [Bool.and_eq_true,decide_eq_true_eq] at h
 cases l with
 | nil=>simp at h
 | cons b r=>
   have hb:cl b=true:=by simp only [List.all_cons,Bool.and_eq_true] at h;exact h.1.1.1
   have h2:=hb
   unfold cl at h2
   simp only [Bool.and_eq_true,decide_eq_true_eq,Bool.not_eq_true',Bool.or_eq_false_iff,decide_eq_false_iff_not] at h2
   exact ⟨b,r,rfl,hb,by omega,by omega,by omega,by omega,by omega⟩
theorem nB (n:Nat):(decDigits n).all isd=true:=(bl n).2.1
theorem vX {n:Nat} (h:n≤999999999):eJ (decDigits n)=some n:=by
 unfold eJ
 rw [if_pos ⟨(ib _).2 (by rw [(bl n).1]),by rw [(bl n).1];exact h⟩,(bl n).1]
theorem nC {l:List UInt8} (h:l.all isd=true):l.all cd=true:=by
 rw [List.all_eq_true] at h ⊢
 intro b hb
 have:=h b hb
 unfold isd at this
 simp only [Bool.and_eq_true,decide_eq_true_eq] at this
 simp [cd];omega
theorem qp (t:Tok) (r:List UInt8) (h: ¬bF t=[]) (hr:t.kind=1→nA r=true):tkS (bF t++r)=some (t,(bF t).length):=by
 obtain ⟨k,x⟩:=t
 unfold bF at h ⊢
 simp only at h hr ⊢
 by_cases h1:k=1
 · subst h1
   simp only [if_true] at h ⊢
   cases ha:dE x with
   | false=>rw [ha] at h;exact absurd rfl h
   | true=>
     simp only [if_true]
     obtain ⟨b,y,hx,hb,n1,n2,n3,n4,n5⟩:=oK ha
     have hw:(x++r).takeWhile cl=x:=by
      refine fk (by unfold dE at ha;simp only [Bool.and_eq_true] at ha;exact ha.1.1) (fun c r' e=> ?_)
      have:=hr rfl
      rw [e] at this
      simpa [nA] using this
     rw [hx] at hw ha ⊢
     rw [List.cons_append]
     simp only [tkS,n1,n2,n3,n4,if_false,jA]
     rw [List.cons_append] at hw
     rw [hw,ha]
     simp
 rw [if_neg h1] at h ⊢
 by_cases h2:k=2
 · subst h2
   simp only [if_true] at h ⊢
   by_cases hq:fD x=[]
   · rw [if_pos hq] at h ⊢
     unfold yb at h ⊢
     by_cases hl:x.length≤40
     · rw [if_pos hl]
       have hd:(decDigits x.length).all isd=true:=nB x.length
       have htw:(decDigits x.length++([125,13,10]++x++r)).takeWhile cd=decDigits x.length:=
        fk (nC hd) (fun b r' e=>by simp at e;obtain ⟨e1,_⟩:=e;subst e1;rfl)
       have hn:eJ (decDigits x.length)=some x.length:=vX (by omega)
       have hs:[123]++decDigits x.length++[125,13,10]++x++r=123::(decDigits x.length++([125,13,10]++x++r)):=by simp
       rw [hs]
       have e0:tkS (123::(decDigits x.length++([125,13,10]++x++r)))=qo (decDigits x.length++([125,13,10]++x++r)):=rfl
       rw [e0]
       unfold qo
       simp only [htw]
       have g1:(decDigits x.length++([125,13,10]++x++r))[(decDigits x.length).length+1]? =some 13:=by
        rw [List.getElem?_append_right (by omega),Nat.add_sub_cancel_left];rfl
       have g2:(decDigits x.length++([125,13,10]++x++r))[(decDigits x.length).length+2]? =some 10:=by
        rw [List.getElem?_append_right (by omega),Nat.add_sub_cancel_left];rfl
       have g3:(decDigits x.length++([125,13,10]++x++r)).drop ((decDigits x.length).length+3)=x++r:=by
        rw [List.drop_append,List.drop_of_length_le (by omega),Nat.add_sub_cancel_left];rfl
       have g4:(decDigits x.length++([125,13,10]++x++r)).length=(decDigits x.length).length+3+x.length+r.length:=by simp;omega
       rw [if_pos ⟨g1,g2⟩,hn]
       simp only
       rw [if_pos ⟨hl,by omega,by omega⟩,g3]
       simp;omega
     · rw [if_neg hl] at h;exact absurd rfl h
   · rw [if_neg hq] at h ⊢
     have hc:x.all mg=true∧x.length≤40:=by
      by_cases hh:x.all mg=true∧x.length≤40
      · exact hh
      · exact absurd (by unfold fD;rw [if_neg hh]) hq
     rw [mh _ hc.1 hc.2]
     have e0:tkS (34::j9 x++[34]++r)=(eH (j9 x++34::r) 1 []).map fun y=>((⟨2,y.1⟩:Tok),y.2):=by simp [tkS]
     rw [e0,kw x r 1 [] hc.1 (by simpa using hc.2)]
     simp;omega
 rw [if_neg h2] at h ⊢
 by_cases h3:k=3
 · subst h3
   simp only [if_true] at h ⊢
   by_cases hx:x=[]
   · subst hx;rfl
   · rw [if_neg hx] at h;exact absurd rfl h
 rw [if_neg h3] at h ⊢
 by_cases h4:k=4
 · subst h4
   simp only [if_true] at h ⊢
   by_cases hx:x=[]
   · subst hx;rfl
   · rw [if_neg hx] at h;exact absurd rfl h
 · rw [if_neg h4] at h;exact absurd rfl h
theorem oL (t:Tok) (h: ¬bF t=[]): ∃ b r,bF t=b::r∧ ¬b.toNat=32:=by
 unfold bF at h ⊢
 split
 · rename_i h1
   rw [if_pos h1] at h
   cases ha:dE t.text with
   | false=>rw [ha] at h;exact absurd rfl h
   | true=>
     obtain ⟨b,y,hx,_,_,_,_,_,n5⟩:=oK ha
     exact ⟨b,y,by simpa using hx,n5⟩
 rename_i h1
 rw [if_neg h1] at h
 split
 · rename_i h2
   rw [if_pos h2] at h
   split
   · rename_i hq
     rw [if_pos hq] at h
     unfold yb at h ⊢
     split
     · exact ⟨123,_,by simp;rfl,by decide⟩
     · rename_i hl;rw [if_neg hl] at h;exact absurd rfl h
   · rename_i hq
     unfold fD at hq ⊢
     split
     · exact ⟨34,_,by simp;rfl,by decide⟩
     · rename_i hl;rw [if_neg hl] at hq;exact absurd rfl hq
 rename_i h2
 rw [if_neg h2] at h
 split
 · rename_i h3
   rw [if_pos h3] at h
   split
   · exact ⟨40,[],rfl,by decide⟩
   · rename_i hl;rw [if_neg hl] at h;exact absurd rfl h
 rename_i h3
 rw [if_neg h3] at h
 split
 · rename_i h4
   rw [if_pos h4] at h
   split
   · exact ⟨41,[],rfl,by decide⟩
   · rename_i hl;rw [if_neg hl] at h;exact absurd rfl h
 · rename_i h4;rw [if_neg h4] at h;exact absurd rfl h
theorem tT (a:Tok) (ha:a.kind=1) (l:List Tok) (hl:eR l=true):nA (bX (some a) l)=true:=by
 cases l with
 | nil=>rfl
 | cons t r=>
   simp only [bX]
   cases hg:lM a t with
   | true=>rw [mZ hg];rfl
   | false=>
     rw [tv hg]
     have h4:t.kind=4:=by
      unfold lM at hg
      rw [ha] at hg
      simpa using hg
     have hne: ¬bF t=[]:=by
      unfold eR at hl
      simp only [List.all_cons,Bool.and_eq_true,Bool.not_eq_true',List.isEmpty_eq_false_iff] at hl
      exact hl.1
     have:bF t=[41]:=by
      unfold bF at hne ⊢
      rw [h4] at hne ⊢
      simp only [show ¬(4:Int)=1 by decide,show ¬(4:Int)=2 by decide,show ¬(4:Int)=3 by decide,if_false,if_true] at hne ⊢
      split
      · rfl
      · rename_i hx;rw [if_neg hx] at hne;exact absurd rfl hne
     rw [this];rfl
theorem oM: ∀ (l:List Tok) (prev:Option Tok) (n:Nat),eR l=true→(bX prev l).length < n→l9 n prev (bX prev l)=some l
 | [],_,n,_,h=>by
   cases n with
   | zero=>simp at h
   | succ n=>rfl
 | t::r,prev,n,hok,h=>by
   have hok2:eR r=true:=by unfold eR at hok ⊢;simp only [List.all_cons,Bool.and_eq_true] at hok;exact hok.2
   have hne: ¬bF t=[]:=by
    unfold eR at hok
    simp only [List.all_cons,Bool.and_eq_true,Bool.not_eq_true',List.isEmpty_eq_false_iff] at hok
    exact hok.1
   obtain ⟨b,y,hb,hb32⟩:=oL t hne
   have htk:=qp t (bX (some t) r) hne (fun hk=>tT t hk r hok2)
   cases n with
   | zero=>simp at h
   | succ n=>
     simp only [bX] at h ⊢
     have hlen:0 < (bF t).length:=by rw [hb];simp
     have hrest:(bF t++bX (some t) r).drop (bF t).length=bX (some t) r:=List.drop_left
     have go: ∀ hl:(bX (some t) r).length < n,l9 n (some t) (bX (some t) r)=some r:=fun hl=>oM r (some t) n hok2 hl
     cases hs:wN prev t with
     | nil=>
       rw [hs] at h
       have hfit:nz prev false t=true:=by
        cases prev with
        | none=>rfl
        | some a=>
          cases hg:lM a t with
          | true=>rw [mZ hg] at hs;cases hs
          | false=>simp [nz,hg]
       simp only [List.nil_append] at h ⊢
       rw [hb] at htk hrest h ⊢
       simp only [List.cons_append] at htk hrest h ⊢
       simp only [l9,hb32,if_false,htk,decide_false,hfit,if_true,hrest]
       rw [go (by simp only [List.length_cons,List.length_append] at h;omega)]
       rfl
     | cons c z=>
       have hgap:c=32∧z=[]∧nz prev true t=true:=by
        cases prev with
        | none=>cases hs
        | some a=>
          cases hg:lM a t with
          | false=>rw [tv hg] at hs;cases hs
          | true=>
            rw [mZ hg] at hs
            injection hs with h1 h2
            exact ⟨h1.symm,h2.symm,by simp [nz,hg]⟩
       obtain ⟨rfl,rfl,hfit⟩:=hgap
       rw [hs] at h
       simp only [List.cons_append,List.nil_append] at h ⊢
       have e32:(32:UInt8).toNat=32:=rfl
       simp only [l9,e32,if_true,htk,decide_true,hfit,hrest]
       rw [go (by simp only [List.length_cons,List.length_append] at h;omega)]
       rfl
theorem r6 (l:List Tok) (h:eR l=true):pM (tu l)=some l:=by
 unfold tu
 rw [if_pos h]
 exact oM l none _ h (by omega)
theorem yP (l:List UInt8) (t:Tok) (k:Nat) (h:tkS l=some (t,k)): ¬bF t=[]∧t.text.length≤40:=by
 cases l with
 | nil=>cases h
 | cons b r=>
   simp only [tkS] at h
   split at h
   · injection h with h;injection h with h _;subst h;exact ⟨by decide,by simp⟩
   split at h
   · injection h with h;injection h with h _;subst h;exact ⟨by decide,by simp⟩
   split at h
   · cases hu:eH r 1 [] with
     | none=>rw [hu] at h;cases h
     | some x=>
       rw [hu] at h
       injection h with h;injection h with h _
       obtain ⟨z,_,h1,_,h3,h4,_⟩:=ip r.length r 1 [] x.1 x.2 (Nat.le_refl _) hu
       simp only [List.nil_append] at h1
       subst h
       refine ⟨?_,h4⟩
       have hq: ¬fD x.1=[]:=by rw [mh _ (by rw [h1];exact h3) h4];simp
       unfold bF
       rw [if_neg (by show ¬((2:Int)=1);decide),if_pos rfl,if_neg hq]
       exact hq
   split at h
   · simp only [qo] at h
     split at h
     · split at h
       · split at h
         · rename_i nn hq hc
           injection h with h;injection h with h _
           subst h
           have hl:((r.drop ((r.takeWhile cd).length+3)).take nn).length≤nn:=List.length_take_le _ _
           refine ⟨?_,by exact Nat.le_trans hl hc.1⟩
           unfold bF
           rw [if_neg (by show ¬((2:Int)=1);decide),if_pos rfl]
           split
           · unfold yb
             rw [if_pos (by exact Nat.le_trans hl hc.1)]
             simp
           · assumption
         · cases h
       · cases h
     · cases h
   · simp only [jA] at h
     split at h
     · rename_i ha
       injection h with h;injection h with h _
       subst h
       have h2:=ha
       unfold dE at h2
       simp only [Bool.and_eq_true,decide_eq_true_eq] at h2
       refine ⟨?_,h2.2⟩
       unfold bF
       rw [if_pos rfl,if_pos ha]
       intro e
       have h3:=h2.1.2
       have e':List.takeWhile cl (b::r)=[]:=e
       rw [e'] at h3
       simp at h3
     · cases h
theorem nD: ∀ (n:Nat) (prev:Option Tok) (l:List UInt8) (ts:List Tok),l9 n prev l=some ts→eR ts=true∧(∀ t∈ts,t.text.length≤40)∧ts.length≤l.length
 | 0,_,_,_,h=>by cases h
 | n+1,_,[],ts,h=>by injection h with h;subst h;exact ⟨rfl,by simp,by simp⟩
 | n+1,prev,c::r,ts,h=>by
   simp only [l9] at h
   generalize hl:(if c.toNat=32 then r else c::r)=l' at h
   have hle:l'.length≤r.length+1:=by subst hl;split <;> simp
   cases ht:tkS l' with
   | none=>rw [ht] at h;cases h
   | some x=>
     rw [ht] at h
     simp only at h
     split at h
     · cases hn:l9 n (some x.1) (l'.drop x.2) with
       | none=>rw [hn] at h;cases h
       | some ys=>
         rw [hn] at h
         injection h with h
         subst h
         have h1:=yP l' x.1 x.2 ht
         have h2:=nD n (some x.1) (l'.drop x.2) ys hn
         have h3:=jB l' x.1 x.2 ht
         have h4:=h2.2.2
         rw [List.length_drop] at h4
         refine ⟨?_,?_,by simp only [List.length_cons];omega⟩
         · unfold eR at *
           rw [List.all_cons,h2.1]
           cases hh:bF x.1 with
           | nil=>exact absurd hh h1.1
           | cons a r=>rfl
         · intro t htm
           rcases List.mem_cons.1 htm with rfl | htm
           · exact h1.2
           · exact h2.2.1 t htm
     · cases h
theorem yQ (l:List UInt8) (ts:List Tok) (h:pM l=some ts):pM (tu ts)=some ts:=r6 ts (nD _ _ _ _ h).1
def bM (o:Option (Tok×Nat)) (p:Nat) (w:World) (e:Ending) (w':World):Prop:=
 (match o with | some (t,k)=>e= .returned (.tuple #[mj t,.int .i64 ((p+k:Nat):Int)]) | none=> ∃ t0:Tok,e= .returned (.tuple #[mj t0,.int .i64 (-1)]))∧Below w.heap.size w w'
theorem bM.some' {o:Option (Tok×Nat)} {t:Tok} {k p:Nat} {w w':World} {e:Ending} (h:o=some (t,k)) (he:e= .returned (.tuple #[mj t,.int .i64 ((p+k:Nat):Int)])) (hb:Below w.heap.size w w'):bM o p w e w':=by subst h;exact ⟨he,hb⟩
theorem bM.none' {o:Option (Tok×Nat)} (t0:Tok) {p:Nat} {w w':World} {e:Ending} (h:o=none) (he:e= .returned (.tuple #[mj t0,.int .i64 (-1)])) (hb:Below w.heap.size w w'):bM o p w e w':=by subst h;exact ⟨⟨t0,he⟩,hb⟩
theorem gy (b:UInt8) (r:List UInt8):tkS (b::r)=(if b.toNat=40 then some (⟨3,[]⟩,1) else if b.toNat=41 then some (⟨4,[]⟩,1) else if b.toNat=34 then (eH r 1 []).map fun x=>((⟨2,x.1⟩:Tok),x.2) else if b.toNat=123 then qo r else jA (b::r)):=rfl
theorem fm {n k:Nat} (h:((n:Int)==(k:Int))=true):n=k:=by have:=beq_iff_eq.1 h;omega
theorem cH {n k:Nat} (h:((n:Int)==(k:Int))=false): ¬n=k:=by have:=beq_eq_false_iff_ne.1 h;omega
section
variable (s:ByteArray) (p:Nat) (h:p < s.size)
include h
theorem tU (h1:((s[p].toNat:Int)==40)=true):tkS (s.data.toList.drop p)=some (⟨3,[]⟩,1):=by
 rw [bE s p h,gy,if_pos (fm h1)]
theorem rk (h1:((s[p].toNat:Int)==40)=false) (h2:((s[p].toNat:Int)==41)=true):tkS (s.data.toList.drop p)=some (⟨4,[]⟩,1):=by
 rw [bE s p h,gy,if_neg (cH h1),if_pos (fm h2)]
theorem rl (h1:((s[p].toNat:Int)==40)=false) (h2:((s[p].toNat:Int)==41)=false) (h3:((s[p].toNat:Int)==34)=true):uqO s.data.toList (p:Int)=(tkS (s.data.toList.drop p)).map (fun x=>(x.1.text,p+x.2))∧(∀ x,tkS (s.data.toList.drop p)=some x→x.1.kind=2):=by
 rw [ti s p h,if_pos (beq_iff_eq.1 h3),bE s p h,gy,if_neg (cH h1),if_neg (cH h2),if_pos (fm h3),jz _ _ p 1 [] (Nat.le_refl _)]
 cases eH (s.data.toList.drop (p+1)) 1 [] with
 | none=>exact ⟨rfl,fun x hx=>by cases hx⟩
 | some y=>exact ⟨rfl,fun x hx=>by injection hx with hx;subst hx;rfl⟩
theorem wU (h1:((s[p].toNat:Int)==40)=false) (h2:((s[p].toNat:Int)==41)=false) (h3:((s[p].toNat:Int)==34)=false) (h4:((s[p].toNat:Int)==123)=true):tkS (s.data.toList.drop p)=qo (s.data.toList.drop (p+1)):=by
 rw [bE s p h,gy,if_neg (cH h1),if_neg (cH h2),if_neg (cH h3),if_pos (fm h4)]
theorem tV (h1:((s[p].toNat:Int)==40)=false) (h2:((s[p].toNat:Int)==41)=false) (h3:((s[p].toNat:Int)==34)=false) (h4:((s[p].toNat:Int)==123)=false):tkS (s.data.toList.drop p)=jA (s.data.toList.drop p):=by
 rw [bE s p h,gy,if_neg (cH h1),if_neg (cH h2),if_neg (cH h3),if_neg (cH h4)]
end
theorem rm (s:ByteArray) (q:UInt8→Bool) (p k:Nat) (hp:p≤k) (ha:((s.data.toList.drop p).take (k - p)).all q=true) (he: ∀ h:k < s.size,q s[k]=false):(s.data.toList.drop p).takeWhile q=(s.data.toList.drop p).take (k - p):=by
 have e:s.data.toList.drop p=(s.data.toList.drop p).take (k - p)++s.data.toList.drop k:=by
  have:=List.take_append_drop (k - p) (s.data.toList.drop p)
  rw [List.drop_drop,show p+(k - p)=k by omega] at this
  exact this.symm
 conv=>lhs;rw [e]
 refine fk ha (fun b r' hb=> ?_)
 by_cases hlt:k < s.size
 · rw [bE s k hlt] at hb
   injection hb with hb _
   rw [←hb];exact he hlt
 · rw [ck s k hlt] at hb;cases hb
theorem nF (s:ByteArray) (q:UInt8→Bool) (p k:Nat) (hp:p≤k) (hk:k < s.size) (ha:((s.data.toList.drop p).take (k - p)).all q=true) (he:q s[k]=true):((s.data.toList.drop p).take (k+1 - p)).all q=true:=by
 have e:(s.data.toList.drop p).take (k+1 - p)=(s.data.toList.drop p).take (k - p)++[s[k]]:=by
  rw [show k+1 - p=(k - p)+1 by omega]
  refine xz ?_
  rw [List.getElem?_drop,show p+(k - p)=k by omega,List.getElem?_eq_getElem (by simpa using hk)]
  rfl
 rw [e,List.all_append,ha];simp [he]
theorem nG (s:ByteArray) (p k:Nat) (hp:p≤k) (hk:k≤s.size):((s.data.toList.drop p).take (k - p)).length=k - p:=by simp;omega
theorem iO (s:ByteArray) (p k:Nat):(s.extract p k).data.toList=(s.data.toList.drop p).take (k - p):=Lib.extract_data s p k
theorem oN (s:ByteArray) (p k:Nat):Value.string (s.extract p k)=sv ((s.data.toList.drop p).take (k - p)):=by rw [Lib.extract_eq]
theorem xA (s:ByteArray) (k:Nat) (h:k < s.size):dE (s.extract k (k+1)).data.toList=cl s[k]:=by
 rw [iO,bE s k h,show k+1 - k=1 by omega]
 simp [dE]
theorem ld {l a:List UInt8} (h:l.takeWhile cl=a) (ha:dE a=true):jA l=some (⟨1,a⟩,a.length):=by unfold jA;rw [h,if_pos ha]
theorem kh {l a:List UInt8} (h:l.takeWhile cl=a) (ha:dE a=false):jA l=none:=by unfold jA;rw [h,if_neg (by rw [ha];simp)]
theorem yR (s:ByteArray) (p k:Nat) (hp:p < s.size) (h4:((s[p].toNat:Int)==123)=true) (hpk:p≤k) (hk:k≤s.size) (ha:((s.data.toList.drop p).take (k - p)).all cd=true) (he: ∀ h:k < s.size,cd s[k]=false):
 p+1≤k∧(s.data.toList.drop (p+1)).takeWhile cd=(s.data.toList.drop (p+1)).take (k - (p+1))∧((s.data.toList.drop (p+1)).takeWhile cd).length=k - (p+1):=by
 have hne:cd s[p]=true:=by unfold cd;rw [fm h4];rfl
 have h1:p+1≤k:=by
  rcases Nat.lt_or_ge p k with h | h
  · exact h
  · obtain rfl:k=p:=by omega
    rw [he hp] at hne;cases hne
 have ha2:((s.data.toList.drop (p+1)).take (k - (p+1))).all cd=true:=by
  rw [bE s p hp,show k - p=(k - (p+1))+1 by omega,List.take_succ_cons,List.all_cons,Bool.and_eq_true] at ha
  exact ha.2
 have h2:=rm s cd (p+1) k h1 ha2 he
 exact ⟨h1,h2,by rw [h2,nG s (p+1) k h1 hk]⟩
theorem rn (s:ByteArray) (p j:Nat) (h:p+j < s.size):(s.data.toList.drop p)[j]? =some s[p+j]:=by
 rw [List.getElem?_drop,List.getElem?_eq_getElem (by simpa using h)]
 rfl
theorem jC {r:List UInt8} (h: ¬(r[(r.takeWhile cd).length+1]? =some 13∧r[(r.takeWhile cd).length+2]? =some 10)):qo r=none:=by
 unfold qo;simp only;rw [if_neg h]
theorem ro {r d:List UInt8} {m:Nat} (hd:r.takeWhile cd=d) (hm:d.length=m) (h1:r[m+1]? =some 13) (h2:r[m+2]? =some 10):
 qo r=match eJ d with | some n=>if n≤40∧n≤r.length - (m+3)∧m+3≤r.length then some (⟨2,(r.drop (m+3)).take n⟩,1+m+3+n) else none | none=>none:=by
 subst hm
 unfold qo
 simp only [hd]
 rw [if_pos ⟨h1,h2⟩] <;> rfl
theorem yS {b:UInt8} {n:Nat} (h:((b.toNat:Int)==(n:Int))=true) (hn:n < 256):b=UInt8.ofNat n:=by
 apply UInt8.toNat_inj.1
 rw [UInt8.toNat_ofNat_of_lt' (by simpa using hn)]
 exact fm h
theorem bT {w w1:World} {cs:Array Value} {e:TypeId} (hb:Below (w.heap.size+1) (w.alloc (.cells cs e)) w1):(∀ j,w1.cell? ⟨w.heap.size,j,none⟩=cs[j]?)∧(∀ j,w1.frozen? ⟨w.heap.size,j,none⟩=false):=
 ⟨fun j=>(hb.cell (p:=⟨w.heap.size,j,none⟩) (by simp)).trans (by simp [go_sem]),fun j=>(hb.frozen (p:=⟨w.heap.size,j,none⟩) (by simp)).trans (by simp [go_sem])⟩
theorem cm {w1:World} {b:Nat} {x0 x1:Value} (h0:w1.cell? ⟨b,0,none⟩=some x0) (h1:w1.cell? ⟨b,1,none⟩=some x1):
 (∀ v,(w1.setCell ⟨b,0,none⟩ v).cell? ⟨b,0,none⟩=some v)∧(∀ v v',((w1.setCell ⟨b,0,none⟩ v).setCell ⟨b,1,none⟩ v').cell? ⟨b,1,none⟩=some v'):=by
 refine ⟨fun v=>World.cell?_setCell_same w1 _ _ h0,fun v v'=>World.cell?_setCell_same _ _ _ (u:=x1) ?_⟩
 rw [World.cell?_setCell_other w1 _ _ _ (by intro hh;injection hh with _ h2;cases h2)]
 exact h1
theorem mu (s:ByteArray) (p:Nat) (w:World) (hs:s.size≤1048576) (hp:p < s.size):
 Calls Tryz.prog 114 #[.string s,.int .i64 p] w fun e w'=>bM (tkS (s.data.toList.drop p)) p w e w':=by
 have hbn:s[p].toNat < 256:=s[p].toNat_lt
 have hb0:Below w.heap.size w (w.alloc (.cells #[.int .i64 0,.string ⟨#[]⟩] 80)):=(Below.refl _ _).alloc (Nat.le_refl _) _
 cases h1:((s[p].toNat:Int)==40) with
 | true=>
   have HV:=aa9 (tU s p hp h1)
   go_enter Tryz.func114,Tryz.ntmps114
   go_wp2
   go_returns
   exact bM.some' HV.out rfl ((Below.refl _ _).alloc (Nat.le_refl _) _)
 | false=>
   cases h2:((s[p].toNat:Int)==41) with
   | true=>
     have HV:=aa9 (rk s p hp h1 h2)
     go_enter Tryz.func114,Tryz.ntmps114
     go_wp2
     go_returns
     exact bM.some' HV.out rfl ((Below.refl _ _).alloc (Nat.le_refl _) _)
   | false=>
     cases h3:((s[p].toNat:Int)==34) with
     | true=>
       obtain ⟨hu,hk2⟩:=rl s p hp h1 h2 h3
       have c1:=fun W=>kC s (p:Int) W hs
       rw [hu] at c1
       cases ht:tkS (s.data.toList.drop p) with
       | none=>
         rw [ht] at c1
         simp only [Option.map_none,qS] at c1
         have C1:=aa9 c1
         clear c1 hu hk2 ht
         go_enter Tryz.func114,Tryz.ntmps114
         go_wp2_with fail
         refine (C1.out _).mono ?_
         rintro e w1 ⟨rfl,b1⟩
         obtain ⟨hc,hf⟩:=bT (cs:= #[.int .i64 0,.string ⟨#[]⟩]) (e:=80) (by simpa using b1)
         have hc0:=hc 0
         have hc1:=hc 1
         have hf0:=hf 0
         have hf1:=hf 1
         have hb1:=hb0.trans (b1.mono (by simp))
         simp only [List.getElem?_toArray,List.getElem?_cons_zero,List.getElem?_cons_succ] at hc0 hc1
         obtain ⟨hs0,hs1⟩:=cm hc0 hc1
         clear hc hf b1 hb0
         go_wp2
         exact bodyPost_ret (v:= .tuple #[mj ⟨2,[]⟩,.int .i64 (-1)]) (by simp [results,Tryz.results114,go_sem,hs0,hs1]) rfl (bM.none' ⟨2,[]⟩ rfl rfl ((hb1.setCell (Nat.le_refl _) _).setCell (Nat.le_refl _) _))
       | some x=>
         rw [ht] at c1
         obtain ⟨x,k⟩:=x
         obtain ⟨kd,tx⟩:=x
         have hkd:kd=2:=hk2 _ ht
         subst hkd
         simp only [Option.map_some,ka] at c1
         have C1:=aa9 c1
         clear c1 hu hk2 ht
         go_enter Tryz.func114,Tryz.ntmps114
         go_wp2_with fail
         refine (C1.out _).mono ?_
         rintro e w1 ⟨rfl,b1⟩
         obtain ⟨hc,hf⟩:=bT (cs:= #[.int .i64 0,.string ⟨#[]⟩]) (e:=80) (by simpa using b1)
         have hc0:=hc 0
         have hc1:=hc 1
         have hf0:=hf 0
         have hf1:=hf 1
         have hb1:=hb0.trans (b1.mono (by simp))
         simp only [List.getElem?_toArray,List.getElem?_cons_zero,List.getElem?_cons_succ] at hc0 hc1
         obtain ⟨hs0,hs1⟩:=cm hc0 hc1
         clear hc hf b1 hb0
         go_wp2
         exact bodyPost_ret (v:= .tuple #[mj ⟨2,tx⟩,.int .i64 ((p+k:Nat):Int)]) (by simp [results,Tryz.results114,go_sem,hs0,hs1]) rfl (bM.some' rfl rfl ((hb1.setCell (Nat.le_refl _) _).setCell (Nat.le_refl _) _))
     | false=>
       cases h4:((s[p].toNat:Int)==123) with
       | true=>
         have htk:=wU s p hp h1 h2 h3 h4
         have Hh4:=aa9 h4
         go_enter Tryz.func114,Tryz.ntmps114
         go_wp2
         go_loop [8] (fun i=> ∃ k:Nat,p≤k∧k≤s.size∧i= .int .i64 k∧((s.data.toList.drop p).take (k - p)).all cd=true) (fun i=>s.size - (intOf i).toNat)
         case atStart=>exact ⟨p,Nat.le_refl _,by omega,rfl,by simp⟩
         case round=>
          obtain ⟨k,hpk,hk,rfl,hall⟩:=hrel
          by_cases hlt:k < s.size
          · have hbk:s[k].toNat < 256:=s[k].toNat_lt
            cases h5:((s[k].toNat:Int)==125) with
            | false=>
              have h6:=gL h5
              have HA:=aa9 (nF s cd p k hpk hlt hall (by unfold cd;rw [decide_eq_false (cH h5)];rfl))
              clear hall htk
              go_wp2
              go_round
              case rel=>exact ⟨k+1,by omega,by omega,by go_num,HA.out⟩
              case measure=>simp [intOf];omega
            | true=>
              have h6:=iq h5
              obtain ⟨hpk1,hd,hm⟩:=yR s p k hp Hh4.out hpk hk hall (fun _=>by unfold cd;rw [decide_eq_true (fm h5)];rfl)
              clear hall
              by_cases hk2:k+2 < s.size
              · have hk3: ¬(s.size:Int)≤(k:Int)+2:=by omega
                have hb1':s[k+1].toNat < 256:=s[k+1].toNat_lt
                have hb2':s[k+2].toNat < 256:=s[k+2].toNat_lt
                have e1:=rn s (p+1) ((s.data.toList.drop (p+1)).takeWhile cd |>.length.succ) (by rw [hm];omega)
                have e2:=rn s (p+1) (((s.data.toList.drop (p+1)).takeWhile cd).length+2) (by rw [hm];omega)
                have i1:p+1+((s.data.toList.drop (p+1)).takeWhile cd).length.succ=k+1:=by rw [hm];omega
                have i2:p+1+(((s.data.toList.drop (p+1)).takeWhile cd).length+2)=k+2:=by rw [hm];omega
                simp only [i1,i2] at e1 e2
                cases h7:((s[k+1].toNat:Int)==13) with
                | false=>
                  have h8:=gL h7
                  have HV:=aa9 (show tkS (s.data.toList.drop p)=none by rw [htk];exact jC (by rintro ⟨g,_⟩;rw [e1] at g;injection g with g;rw [g] at h7;cases h7))
                  clear htk hd hm e1 e2 i1 i2
                  go_wp2
                  go_returns
                  exact bM.none' ⟨0,[]⟩ HV.out rfl hb0
                | true=>
                  have h8:=iq h7
                  cases h9:((s[k+2].toNat:Int)==10) with
                  | false=>
                    have h10:=gL h9
                    have HV:=aa9 (show tkS (s.data.toList.drop p)=none by rw [htk];exact jC (by rintro ⟨_,g⟩;rw [e2] at g;injection g with g;rw [g] at h9;cases h9))
                    clear htk hd hm e1 e2 i1 i2
                    go_wp2
                    go_returns
                    exact bM.none' ⟨0,[]⟩ HV.out rfl hb0
                  | true=>
                    have h10:=iq h9
                    rw [yS (n:=13) h7 (by omega)] at e1
                    rw [yS (n:=10) h9 (by omega)] at e2
                    rw [hm] at e1 e2
                    have hlit:=ro hd (by rw [←hd,hm]) e1 e2
                    rw [←htk] at hlit
                    have hds:(s.data.toList.drop (p+1)).length=s.size - (p+1):=by simp
                    have hez:(s.extract (p+1) k).size≤1048576:=by simp;omega
                    have c1:=fun W=>gJ (s.extract (p+1) k) W hez
                    rw [iO] at c1
                    generalize hdd:(s.data.toList.drop (p+1)).take (k - (p+1))=dd at *
                    clear e1 e2 i1 i2 hd hm htk hez hdd
                    cases hn:eJ dd with
                    | none=>
                      rw [eL hn] at c1
                      rw [hn] at hlit
                      have HV:=aa9 hlit
                      have C1:=aa9 c1
                      clear hlit c1 hn hds
                      go_wp2_with fail
                      refine (C1.out _).mono ?_
                      rintro e w1 ⟨rfl,b1⟩
                      obtain ⟨hc,hf⟩:=bT (cs:= #[.int .i64 0,.string ⟨#[]⟩]) (e:=80) (by simpa using b1)
                      have hc0:=hc 0
                      have hc1:=hc 1
                      have hf0:=hf 0
                      have hf1:=hf 1
                      have hb1:=hb0.trans (b1.mono (by simp))
                      simp only [List.getElem?_toArray,List.getElem?_cons_zero,List.getElem?_cons_succ] at hc0 hc1
                      obtain ⟨hs0,hs1⟩:=cm hc0 hc1
                      clear hc hf b1 hb0
                      go_wp2
                      exact bodyPost_ret (v:= .tuple #[mj ⟨0,[]⟩,.int .i64 (-1)]) (by simp [results,Tryz.results114,go_sem,hs0,hs1]) rfl (bM.none' ⟨0,[]⟩ HV.out rfl ((hb1.setCell (Nat.le_refl _) _).setCell (Nat.le_refl _) _))
                    | some n=>
                      rw [ic hn] at c1
                      rw [hn] at hlit
                      simp only at hlit
                      have C1:=aa9 c1
                      clear c1 hn
                      by_cases hok:n≤40∧n≤s.size - (k+3)
                      · have hlit2:tkS (s.data.toList.drop p)=some (⟨2,(s.data.toList.drop (k+3)).take n⟩,k - p+3+n):=by
                         rw [hlit,if_pos ⟨hok.1,by rw [hds];omega,by rw [hds];omega⟩,List.drop_drop,show p+1+(k - (p+1)+3)=k+3 by omega,show 1+(k - (p+1))+3+n=k - p+3+n by omega]
                        have HV:=aa9 hlit2
                        have hx:=oN s (k+3) (k+3+n)
                        rw [show k+3+n - (k+3)=n by omega] at hx
                        have hcast:=aa9 (show ((p+(k - p+3+n):Nat):Int)=(k:Int)+3+(n:Int) by omega)
                        have HX:=aa9 hx
                        have g1: ¬40 < (n:Int):=by omega
                        have g2: ¬(s.size:Int) - (k:Int) - 3 < (n:Int):=by omega
                        obtain ⟨q1,q2⟩:=hok
                        clear hlit hlit2 hds hx
                        go_wp2_with fail
                        refine (C1.out _).mono ?_
                        rintro e w1 ⟨rfl,b1⟩
                        obtain ⟨hc,hf⟩:=bT (cs:= #[.int .i64 0,.string ⟨#[]⟩]) (e:=80) (by simpa using b1)
                        have hc0:=hc 0
                        have hc1:=hc 1
                        have hf0:=hf 0
                        have hf1:=hf 1
                        have hb1:=hb0.trans (b1.mono (by simp))
                        simp only [List.getElem?_toArray,List.getElem?_cons_zero,List.getElem?_cons_succ] at hc0 hc1
                        obtain ⟨hs0,hs1⟩:=cm hc0 hc1
                        clear hc hf b1 hb0
                        go_wp2
                        exact bodyPost_ret (v:= .tuple #[.agg #[.int .i64 2,.string (s.extract (k+3) (k+3+n))],.int .i64 ((k:Int)+3+(n:Int))]) (by simp [results,Tryz.results114,go_sem,hs0,hs1]) rfl (bM.some' HV.out (by rw [HX.out,hcast.out]) ((hb1.setCell (Nat.le_refl _) _).setCell (Nat.le_refl _) _))
                      · have HV:=aa9 (show tkS (s.data.toList.drop p)=none by rw [hlit,if_neg (by rw [hds];omega)])
                        clear hlit hds
                        have hor:40 < (n:Int)∨ ¬40 < (n:Int)∧(s.size:Int) - (k:Int) - 3 < (n:Int):=by omega
                        clear hok
                        rcases hor with g1 | ⟨g1,g2⟩
                        all_goals
                         go_wp2_with fail
                         refine (C1.out _).mono ?_
                         rintro e w1 ⟨rfl,b1⟩
                         obtain ⟨hc,hf⟩:=bT (cs:= #[.int .i64 0,.string ⟨#[]⟩]) (e:=80) (by simpa using b1)
                         have hc0:=hc 0
                         have hc1:=hc 1
                         have hf0:=hf 0
                         have hf1:=hf 1
                         have hb1:=hb0.trans (b1.mono (by simp))
                         simp only [List.getElem?_toArray,List.getElem?_cons_zero,List.getElem?_cons_succ] at hc0 hc1
                         obtain ⟨hs0,hs1⟩:=cm hc0 hc1
                         clear hc hf b1 hb0
                         go_wp2
                         exact bodyPost_ret (v:= .tuple #[mj ⟨0,[]⟩,.int .i64 (-1)]) (by simp [results,Tryz.results114,go_sem,hs0,hs1]) rfl (bM.none' ⟨0,[]⟩ HV.out rfl ((hb1.setCell (Nat.le_refl _) _).setCell (Nat.le_refl _) _))
              · have hk3:(s.size:Int)≤(k:Int)+2:=by omega
                have HV:=aa9 (show tkS (s.data.toList.drop p)=none by rw [htk];exact jC (by rintro ⟨_,g⟩;rw [hm,List.getElem?_drop,List.getElem?_eq_none (by simp;omega)] at g;cases g))
                clear htk hd hm
                go_wp2
                go_returns
                exact bM.none' ⟨0,[]⟩ HV.out rfl hb0
          · obtain rfl:k=s.size:=by omega
            obtain ⟨hpk1,hd,hm⟩:=yR s p s.size hp Hh4.out hpk hk hall (fun h=>absurd h hlt)
            clear hall
            have hk3:(s.size:Int)≤(s.size:Int)+2:=by omega
            have HV:=aa9 (show tkS (s.data.toList.drop p)=none by rw [htk];exact jC (by rintro ⟨_,g⟩;rw [hm,List.getElem?_drop,List.getElem?_eq_none (by simp;omega)] at g;cases g))
            clear htk hd hm
            go_wp2
            go_returns
            exact bM.none' ⟨0,[]⟩ HV.out rfl hb0
       | false=>
         have htk:=tV s p hp h1 h2 h3 h4
         go_enter Tryz.func114,Tryz.ntmps114
         go_wp2
         go_loop [11] (fun i=> ∃ k:Nat,p≤k∧k≤s.size∧i= .int .i64 k∧((s.data.toList.drop p).take (k - p)).all cl=true) (fun i=>s.size - (intOf i).toNat)
         case atStart=>exact ⟨p,Nat.le_refl _,by omega,rfl,by simp⟩
         case round=>
          obtain ⟨k,hpk,hk,rfl,hall⟩:=hrel
          by_cases hlt:k < s.size
          · have c0:=fun W=>eA (s.extract k (k+1)) W (by unfold maxLen;simp;omega)
            rw [xA s k hlt] at c0
            cases h5:cl s[k] with
            | true=>
              have HA:=aa9 (nF s cl p k hpk hlt hall h5)
              rw [h5] at c0
              have C0:=aa9 c0
              clear c0 hall htk h5
              go_wp2_with fail
              refine (C0.out _).mono ?_
              rintro e w0 ⟨rfl,rfl⟩
              go_wp2
              go_round
              case rel=>exact ⟨k+1,by omega,by omega,by go_num,HA.out⟩
              case measure=>simp [intOf];omega
            | false=>
              have he: ∀ h:k < s.size,cl s[k]=false:=fun _=>h5
              rw [h5] at c0
              have C0:=aa9 c0
              have HE:=aa9 he
              clear c0 h5 he
              have hrun:=rm s cl p k hpk hall HE.out
              have hl:=nG s p k hpk hk
              have c1:=fun W=>eA (s.extract p k) W (by unfold maxLen;simp;omega)
              rw [iO] at c1
              cases ha:dE ((s.data.toList.drop p).take (k - p)) with
              | true=>
                have HV:=aa9 (show tkS (s.data.toList.drop p)=some (⟨1,(s.data.toList.drop p).take (k - p)⟩,k - p) by rw [htk,ld hrun ha,hl])
                rw [ha] at c1
                have C1:=aa9 c1
                have HX:=aa9 (oN s p k)
                have hcast:=aa9 (show ((p+(k - p):Nat):Int)=(k:Int) by omega)
                clear htk hrun hl ha c1 hall
                go_wp2_with fail
                refine (C0.out _).mono ?_
                rintro e w0 ⟨rfl,rfl⟩
                go_wp2_with fail
                refine (C1.out _).mono ?_
                rintro e w1 ⟨rfl,rfl⟩
                go_wp2
                exact bodyPost_ret (v:= .tuple #[.agg #[.int .i64 1,.string (s.extract p k)],.int .i64 (k:Int)]) (by simp [results,Tryz.results114,go_sem]) rfl (bM.some' HV.out (by rw [HX.out,hcast.out]) ((Below.refl _ _).alloc (Nat.le_refl _) _))
              | false=>
                have HV:=aa9 (show tkS (s.data.toList.drop p)=none by rw [htk,kh hrun ha])
                rw [ha] at c1
                have C1:=aa9 c1
                clear htk hrun hl ha c1 hall
                go_wp2_with fail
                refine (C0.out _).mono ?_
                rintro e w0 ⟨rfl,rfl⟩
                go_wp2_with fail
                refine (C1.out _).mono ?_
                rintro e w1 ⟨rfl,rfl⟩
                go_wp2
                go_returns
                exact bM.none' ⟨0,[]⟩ HV.out rfl hb0
          · obtain rfl:k=s.size:=by omega
            have HE:=aa9 (show ∀ h:s.size < s.size,cl s[s.size]=false from fun h=>absurd h hlt)
            have hrun:=rm s cl p s.size hpk hall HE.out
            have hl:=nG s p s.size hpk hk
            have c1:=fun W=>eA (s.extract p s.size) W (by unfold maxLen;simp;omega)
            rw [iO] at c1
            cases ha:dE ((s.data.toList.drop p).take (s.size - p)) with
            | true=>
              have HV:=aa9 (show tkS (s.data.toList.drop p)=some (⟨1,(s.data.toList.drop p).take (s.size - p)⟩,s.size - p) by rw [htk,ld hrun ha,hl])
              rw [ha] at c1
              have C1:=aa9 c1
              have HX:=aa9 (oN s p s.size)
              have hcast:=aa9 (show ((p+(s.size - p):Nat):Int)=(s.size:Int) by omega)
              clear htk hrun hl ha c1 hall
              skip
              go_wp2_with fail
              refine (C1.out _).mono ?_
              rintro e w1 ⟨rfl,rfl⟩
              go_wp2
              exact bodyPost_ret (v:= .tuple #[.agg #[.int .i64 1,.string (s.extract p s.size)],.int .i64 (s.size:Int)]) (by simp [results,Tryz.results114,go_sem]) rfl (bM.some' HV.out (by rw [HX.out,hcast.out]) ((Below.refl _ _).alloc (Nat.le_refl _) _))
            | false=>
              have HV:=aa9 (show tkS (s.data.toList.drop p)=none by rw [htk,kh hrun ha])
              rw [ha] at c1
              have C1:=aa9 c1
              clear htk hrun hl ha c1 hall
              skip
              go_wp2_with fail
              refine (C1.out _).mono ?_
              rintro e w1 ⟨rfl,rfl⟩
              go_wp2
              go_returns
              exact bM.none' ⟨0,[]⟩ HV.out rfl hb0
theorem Tryz.el_tok:lP Tryz.prog 43 80 2 24:=lP.mk' (z:= .agg #[.int .i64 0,.string ⟨#[]⟩]) Tryz.underlying43 (by kernel_rfl) rfl (by omega)
def jD (U:Option (List Tok)) (w:World) (e:Ending) (w':World):Prop:=
 ∃ v,e= .returned (.tuple #[v,.bool U.isSome])∧w'.ownsRow w.heap.size 80 2 v (U.getD []).length ((U.getD []).flatMap dh)∧Below w.heap.size w w'
def pN (l:List UInt8) (p:Nat) (ts:List Tok) (n:Nat) (U:Option (List Tok)):Prop:=
 n=ts.length∧(l9 (l.length - p+1) (cV none ts) (l.drop p)).map (ts++ ·)=U
theorem pN.start (l:List UInt8):pN l 0 [] 0 (pM l):=by
 refine ⟨rfl,?_⟩
 show (l9 (l.length - 0+1) none (l.drop 0)).map ([]++ ·)=_
 unfold pM
 rw [List.drop_zero,Nat.sub_zero]
 cases l9 (l.length+1) none l <;> simp
section
variable {s:ByteArray} {p n:Nat} {ts:List Tok} {U:Option (List Tok)}
theorem pN.done (h:pN s.data.toList p ts n U) (hp: ¬p < s.size):U=some ts:=by
 rw [←h.2,ck s p hp]
 simp [l9]
def wV (s:ByteArray) (p:Nat) (blank:Bool):Option (Tok×Nat):=tkS (s.data.toList.drop (if blank=true then p+1 else p))
theorem qq (s:ByteArray) (p n:Nat) (prev:Option Tok) (h:p < s.size) (blank:Bool) (hb:decide (s[p].toNat=32)=blank):
 l9 (n+1) prev (s.data.toList.drop p)=match wV s p blank with | none=>none | some (t,k)=>if nz prev blank t=true then (l9 n (some t) (s.data.toList.drop ((if blank=true then p+1 else p)+k))).map (t:: ·) else none:=by
 unfold wV
 rw [bE s p h]
 simp only [l9]
 cases blank with
 | true=>
   have h32:=of_decide_eq_true hb
   simp only [h32,if_true,decide_true,List.drop_drop]
   try (cases tkS (s.data.toList.drop (p+1)) <;> rfl)
 | false=>
   have h32:=of_decide_eq_false hb
   simp only [h32,if_false,decide_false,Bool.false_eq_true]
   rw [←bE s p h]
   simp only [List.drop_drop]
   try (cases tkS (s.data.toList.drop p) <;> rfl)
theorem pN.bad (h:pN s.data.toList p ts n U) (hp:p < s.size) (blank:Bool) (hb:decide (s[p].toNat=32)=blank) (ht:wV s p blank=none):U=none:=by
 rw [←h.2,qq s p _ _ hp blank hb,ht];rfl
theorem pN.unfit (h:pN s.data.toList p ts n U) (hp:p < s.size) (blank:Bool) (hb:decide (s[p].toNat=32)=blank) {t:Tok} {k:Nat} (ht:wV s p blank=some (t,k)) (hf:nz (cV none ts) blank t=false):U=none:=by
 rw [←h.2,qq s p _ _ hp blank hb,ht]
 simp only [hf]
 rfl
theorem pN.step (h:pN s.data.toList p ts n U) (hp:p < s.size) (blank:Bool) (hb:decide (s[p].toNat=32)=blank) {t:Tok} {k:Nat} (ht:wV s p blank=some (t,k)) (hf:nz (cV none ts) blank t=true):
 pN s.data.toList ((if blank=true then p+1 else p)+k) (ts++[t]) (n+1) U∧p < (if blank=true then p+1 else p)+k∧(if blank=true then p+1 else p)+k≤s.size:=by
 have hk:=jB _ _ _ ht
 rw [List.length_drop,dI] at hk
 have hq:p < (if blank=true then p+1 else p)+k∧(if blank=true then p+1 else p)+k≤s.size:=by cases blank <;> simp at hk ⊢ <;> omega
 refine ⟨⟨by rw [h.1];simp,?_⟩,hq⟩
 rw [←h.2,qq s p _ _ hp blank hb,ht]
 simp only [hf,if_true]
 rw [eb]
 rw [oJ (s.data.toList.length - ((if blank=true then p+1 else p)+k)+1) (s.data.toList.length - p) (some t) _ (by rw [List.length_drop];omega) (by rw [List.length_drop,dI];omega)]
 cases l9 (s.data.toList.length - p) (some t) (s.data.toList.drop ((if blank=true then p+1 else p)+k)) <;> simp
end
theorem jE: ∀ (l:List Tok) (p:Option Tok) (m:Nat),l.length=m+1→ ∃ t,l[m]? =some t∧cV p l=some t
 | [],_,_,h=>by simp at h
 | [x],_,m,h=>by
   simp only [List.length_cons,List.length_nil] at h
   obtain rfl:m=0:=by omega
   exact ⟨x,rfl,rfl⟩
 | x::y::l,p,m,h=>by
   cases m with
   | zero=>simp at h
   | succ m=>
     obtain ⟨t,h1,h2⟩:=jE (y::l) (some x) m (by simpa using h)
     exact ⟨t,by simpa using h1,h2⟩
theorem zE (l:List UInt8) (ts:List Tok) (h:pM l=some ts):ts.length≤l.length:=(nD _ _ _ _ h).2.2
theorem fU (w:World) (e:TypeId) (B size:Nat) (hb:B≤w.heap.size):(w.alloc (.cells #[] e)).ownsRow B e size (.slice (some ⟨w.heap.size,0,none⟩) 0 0) 0 []:=World.ownsRow_made w #[] 0 hb (by unfold maxLen;omega) (by simp)
theorem jF (w1:World) (o:Obj) (e:TypeId) (B size:Nat) (hB:B≤w1.heap.size):((w1.alloc o).alloc (.cells #[] e)).drew.ownsRow B e size (.slice (some ⟨w1.heap.size+1,0,none⟩) 0 0) 0 []:=by
 have h:=fU (w1.alloc o) e B size (by simp;omega)
 simp only [World.size_alloc] at h
 exact h.drew
theorem qr (s:ByteArray) (w:World) (hs:s.size≤1048576):
 Calls Tryz.prog 48 #[.string s] w fun e w'=>jD (pM s.data.toList) w e w':=by
 have hst:=pN.start s.data.toList
 generalize pM s.data.toList=U at *
 have HS0:=aa9 hst
 clear hst
 go_enter Tryz.func48,Tryz.ntmps48
 go_wp2
 go_loopw [4,5] (fun v i wr=> ∃ (p n:Nat) (ts:List Tok),p≤s.size∧n≤p∧i= .int .i64 p∧pN s.data.toList p ts n U∧wr.ownsRow w.heap.size 80 2 v n (ts.flatMap dh)∧Below w.heap.size w wr) (fun _ i _=>s.size - (intOf i).toNat)
 case atStart=>exact ⟨0,0,[],by omega,by omega,rfl,HS0.out,fU w _ _ 2 (Nat.le_refl _),(Below.refl _ _).alloc (Nat.le_refl _) _⟩
 case round=>
  obtain ⟨p,n,ts,hps,hnp,rfl,hst,hown,hbr⟩:=hrel
  have HS:=aa9 hst
  have hbr0:=hbr.size
  obtain ⟨pv,cv,rfl⟩:=fN hown
  clear hst HS0
  by_cases hlt:p < s.size
  · have hbp:s[p].toNat < 256:=s[p].toNat_lt
    cases h32:((s[p].toNat:Int)==32) with
    | true=>
      have hB:decide (s[p].toNat=32)=true:=decide_eq_true (fm h32)
      have HB:=aa9 hB
      clear hB
      by_cases hlt2:p+1 < s.size
      · have hlt3: ¬(s.size:Int)≤(p:Int)+1:=by omega
        have c1:=fun W=>mu s (p+1) W hs hlt2
        cases ht:tkS (s.data.toList.drop (p+1)) with
        | none=>
          have HU:=aa9 (show U=none from HS.out.bad hlt true HB.out ht)
          rw [ht] at c1
          have C1:=aa9 c1
          clear c1 ht hown
          go_wp2_with fail
          refine (C1.out _).mono ?_
          rintro e w1 ⟨⟨t0,rfl⟩,b1⟩
          have hb1:=hbr.trans (b1.mono hbr0)
          have hz1:=hb1.size
          have hbX:Below w.heap.size w (w1.alloc (.cells #[.int .i64 t0.kind,sv t0.text] 80)):=hb1.alloc hz1 _
          have hzX:=hbX.size
          clear b1 hbr hbr0
          go_wp2
          refine ah oL15 (fun _=>True) (by kernel_rfl) (by kernel_rfl) rfl (by kernel_rfl) ?_
          intro ops' hops
          simp only [oL15,List.map_cons,List.map_nil,ae,ag]
          iterate 3 (refine aa ?_ (fun _ _ _ h=>h) rfl ?_ trivial ?_;rotate_left;focus (intro _ _;go_simp;rfl))
          iterate 5 (refine aJ (fun _ _ _ h=>h) (by rw [hops.out];kernel_rfl) trivial ?_)
          iterate 2 (refine aa ?_ (fun _ _ _ h=>h) rfl ?_ trivial ?_;rotate_left;focus (intro _ _;go_simp;rfl))
          iterate 10 (refine aJ (fun _ _ _ h=>h) (by rw [hops.out];kernel_rfl) trivial ?_)
          refine bD trivial (by rw [hops.out];kernel_rfl) ?_
          iterate 2 (refine aJ (fun _ _ _ h=>h) (by rw [hops.out];kernel_rfl) trivial ?_)
          iterate 1 (refine aa ?_ (fun _ _ _ h=>h) rfl ?_ trivial ?_;rotate_left;focus (intro _ _;go_simp;rfl))
          refine ai ?_
          go_simp
          go_wp2
          go_ret2
          refine ⟨_,by rw [HU.out];rfl,?_,(hbX.alloc hzX _).drew⟩
          rw [HU.out]
          exact jF _ _ _ _ 2 hz1
        | some x=>
          obtain ⟨t,k⟩:=x
          have hkp:=jB _ _ _ ht
          rw [List.length_drop,dI] at hkp
          rw [ht] at c1
          have C1:=aa9 c1
          have HT:=aa9 (show wV s p true=some (t,k) from ht)
          clear c1 ht
          have hgn: ¬((p+1+k:Nat):Int) < 0:=by omega
          by_cases hn0:n=0
          · subst hn0
            have hts:ts=[]:=List.eq_nil_of_length_eq_zero HS.out.1.symm
            subst hts
            go_wp2_with fail
            refine (C1.out _).mono ?_
            rintro e w1 ⟨rfl,b1⟩
            have hb1:=hbr.trans (b1.mono hbr0)
            have hz1:=hb1.size
            have hown1:=ao hown b1
            have hbX:Below w.heap.size w (w1.alloc (.cells #[.int .i64 t.kind,sv t.text] 80)):=hb1.alloc hz1 _
            have hzX:=hbX.size
            clear b1 hbr hbr0 hown
            go_wp2
            refine ah oL15 (fun _=>True) (by kernel_rfl) (by kernel_rfl) rfl (by kernel_rfl) ?_
            intro ops' hops
            simp only [oL15,List.map_cons,List.map_nil,ae,ag]
            iterate 3 (refine aa ?_ (fun _ _ _ h=>h) rfl ?_ trivial ?_;rotate_left;focus (intro _ _;go_simp;rfl))
            iterate 5 (refine aa ?_ (fun _ _ _ h=>h) (by rw [hops.out];kernel_rfl) ?_ trivial ?_;rotate_left;focus (intro _ _;go_simp;rfl))
            iterate 2 (refine aa ?_ (fun _ _ _ h=>h) rfl ?_ trivial ?_;rotate_left;focus (intro _ _;go_simp;rfl))
            iterate 10 (refine aJ (fun _ _ _ h=>h) (by rw [hops.out];kernel_rfl) trivial ?_)
            refine bD trivial (by rw [hops.out];kernel_rfl) ?_
            iterate 2 (refine aJ (fun _ _ _ h=>h) (by rw [hops.out];kernel_rfl) trivial ?_)
            iterate 1 (refine aa ?_ (fun _ _ _ h=>h) rfl ?_ trivial ?_;rotate_left;focus (intro _ _;go_simp;rfl))
            refine ai ?_
            go_simp
            have HU:=aa9 (show U=none from HS.out.unfit hlt true HB.out HT.out rfl)
            clear hown1
            go_wp2
            go_ret2
            refine ⟨_,by rw [HU.out];rfl,?_,(hbX.alloc hzX _).drew⟩
            rw [HU.out]
            exact jF _ _ _ _ 2 hz1
          · obtain ⟨m,rfl⟩: ∃ m,n=m+1:=⟨n - 1,by omega⟩
            obtain ⟨t0,ht0,hlast⟩:=jE ts none m HS.out.1.symm
            have HL:=aa9 hlast
            obtain ⟨g0,cap0,hpv,_,_⟩:=hown.form (by omega)
            injection hpv with hpv1 _ hcv
            subst hpv1
            subst hcv
            have hmc:((m+1:Nat):Int)=(m:Int)+1:=by omega
            have hwr:IntKind.i64.wrap (m:Int)=(m:Int):=IntWalk.i64_in _ (by omega)
            have hm0:((m:Int)+1==0)=false:=by simp;omega
            have hm1:(0:Int) < (m:Int)+1:=by omega
            clear hn0
            go_wp2_with fail
            refine (C1.out _).mono ?_
            rintro e w1 ⟨rfl,b1⟩
            have hb1:=hbr.trans (b1.mono hbr0)
            have hz1:=hb1.size
            have hown1:=ao hown b1
            have hg0:=(hown1.lt g0 rfl).2
            have q1:w1.cell? ⟨g0,m * 2,none⟩=some (.int .i64 t0.kind):=by
             rw [hown1.cellAt (m * 2) (by omega)]
             exact ji (m:=2) dh ts (fun _=>rfl) m t0 ht0 0 _ rfl
            have q2:w1.cell? ⟨g0,m * 2+1,none⟩=some (sv t0.text):=by
             rw [hown1.cellAt (m * 2+1) (by omega)]
             exact ji (m:=2) dh ts (fun _=>rfl) m t0 ht0 1 _ rfl
            have hown2:((w1.alloc (.cells #[.int .i64 t.kind,sv t.text] 80)).drew).ownsRow w.heap.size 80 2 (.slice (some ⟨g0,0,none⟩) (m+1) cv) (m+1) (ts.flatMap dh):=(hown1.alloc _).drew
            have hb2:Below w.heap.size w (w1.alloc (.cells #[.int .i64 t.kind,sv t.text] 80)).drew:=(hb1.alloc hz1 _).drew
            have hz2:=hb2.size
            have f1:(w1.alloc (.cells #[.int .i64 t.kind,sv t.text] 80)).drew.cell? ⟨w1.heap.size,0,none⟩=some (.int .i64 t.kind):=by simp [go_sem]
            have f2:(w1.alloc (.cells #[.int .i64 t.kind,sv t.text] 80)).drew.cell? ⟨w1.heap.size,1,none⟩=some (sv t.text):=by simp [go_sem]
            have p1:(w1.alloc (.cells #[.int .i64 t.kind,sv t.text] 80)).drew.cell? ⟨g0,m * 2,none⟩=some (.int .i64 t0.kind):=(World.cell?_alloc_lt w1 _ _ (by exact hg0)).trans q1
            have p2:(w1.alloc (.cells #[.int .i64 t.kind,sv t.text] 80)).drew.cell? ⟨g0,m * 2+1,none⟩=some (sv t0.text):=(World.cell?_alloc_lt w1 _ _ (by exact hg0)).trans q2
            have hsz2:(w1.alloc (.cells #[.int .i64 t.kind,sv t.text] 80)).drew.heap.size=w1.heap.size+1:=by simp
            clear b1 hbr hbr0 hown hown1 q1 q2 ht0 hlast
            go_wp2
            refine ah oL15 (fun W=>W.cell? ⟨g0,m * 2,none⟩=some (.int .i64 t0.kind)∧W.cell? ⟨g0,m * 2+1,none⟩=some (sv t0.text)∧W.cell? ⟨w1.heap.size,0,none⟩=some (.int .i64 t.kind)∧W.cell? ⟨w1.heap.size,1,none⟩=some (sv t.text)) (by kernel_rfl) (by kernel_rfl) rfl (by kernel_rfl) ?_
            intro ops' hops
            simp only [oL15,List.map_cons,List.map_nil,ae,ag]
            have hF: ∀ W,W=(w1.alloc (.cells #[.int .i64 t.kind,sv t.text] 80)).drew→True:=fun _ _=>trivial
            clear hF
            iterate 3 (refine aa ?_ (fun _ _ _ h=>h) rfl ?_ ⟨p1,p2,f1,f2⟩ ?_;rotate_left;focus (intro W hS;obtain ⟨s1,s2,s3,s4⟩:=hS;go_simp;rfl))
            iterate 3 (refine aa ?_ (fun _ _ _ h=>h) (by rw [hops.out];kernel_rfl) ?_ ⟨p1,p2,f1,f2⟩ ?_;rotate_left;focus (intro W hS;obtain ⟨s1,s2,s3,s4⟩:=hS;go_simp;rfl))
            iterate 1 (refine aJ (fun _ _ _ h=>h) (by rw [hops.out];kernel_rfl) ⟨p1,p2,f1,f2⟩ ?_)
            iterate 1 (refine aa ?_ (fun _ _ _ h=>h) (by rw [hops.out];kernel_rfl) ?_ ⟨p1,p2,f1,f2⟩ ?_;rotate_left;focus (intro W hS;obtain ⟨s1,s2,s3,s4⟩:=hS;go_simp;rfl))
            iterate 2 (refine aa ?_ (fun _ _ _ h=>h) rfl ?_ ⟨p1,p2,f1,f2⟩ ?_;rotate_left;focus (intro W hS;obtain ⟨s1,s2,s3,s4⟩:=hS;go_simp;rfl))
            iterate 7 (refine aa ?_ (fun _ _ _ h=>h) (by rw [hops.out];kernel_rfl) ?_ ⟨p1,p2,f1,f2⟩ ?_;rotate_left;focus (intro W hS;obtain ⟨s1,s2,s3,s4⟩:=hS;go_simp;rfl))
            refine aa (.pointer (some ⟨g0,m * 2,none⟩)) (fun _ _ _ h=>h) (by rw [hops.out];kernel_rfl) ?_ ⟨p1,p2,f1,f2⟩ ?_
            · intro W hS
              go_simp
              try (intro h;omega)
            iterate 2 (refine aa ?_ (fun _ _ _ h=>h) (by rw [hops.out];kernel_rfl) ?_ ⟨p1,p2,f1,f2⟩ ?_;rotate_left;focus (intro W hS;obtain ⟨s1,s2,s3,s4⟩:=hS;go_simp;rfl))
            refine al (by rw [hops.out];kernel_rfl) ?_
            go_simp
            refine (og t0 t _).mono ?_
            rintro e w3 ⟨rfl,b3⟩
            have i1:=(b3.cell (p:=⟨g0,m * 2,none⟩) (by show g0 < _;simp;omega)).trans p1
            have i2:=(b3.cell (p:=⟨g0,m * 2+1,none⟩) (by show g0 < _;simp;omega)).trans p2
            have i3:=(b3.cell (p:=⟨w1.heap.size,0,none⟩) (by show w1.heap.size < _;simp)).trans f1
            have i4:=(b3.cell (p:=⟨w1.heap.size,1,none⟩) (by show w1.heap.size < _;simp)).trans f2
            have hown3:=ao hown2 b3
            have hb3:=hb2.trans (b3.mono hz2)
            have hz3:=hb3.size
            refine ⟨⟨i1,i2,i3,i4⟩,?_⟩
            clear p1 p2 f1 f2 b3 hown2 hb2 hz2 hsz2
            cases hgap:lM t0 t with
            | false=>
              have HU:=aa9 (show U=none from HS.out.unfit hlt true HB.out HT.out (by rw [HL.out];simp [nz,hgap]))
              clear hgap
              iterate 2 (refine aa ?_ (fun _ _ _ h=>h) (by rw [hops.out];kernel_rfl) ?_ ⟨i1,i2,i3,i4⟩ ?_;rotate_left;focus (intro W hS;obtain ⟨s1,s2,s3,s4⟩:=hS;go_simp;rfl))
              iterate 1 (refine aa ?_ (fun _ _ _ h=>h) rfl ?_ ⟨i1,i2,i3,i4⟩ ?_;rotate_left;focus (intro W hS;obtain ⟨s1,s2,s3,s4⟩:=hS;go_simp;rfl))
              refine ai ?_
              go_simp
              clear i1 i2 i3 i4 hown3 hwr
              go_wp2
              go_ret2
              refine ⟨_,by rw [HU.out];rfl,?_,hb3.alloc hz3 _⟩
              rw [HU.out]
              exact fU _ _ _ 2 hz3
            | true=>
              have HN:=aa9 (HS.out.step hlt true HB.out HT.out (by rw [HL.out];simp [nz,hgap]))
              clear hgap
              iterate 2 (refine aa ?_ (fun _ _ _ h=>h) (by rw [hops.out];kernel_rfl) ?_ ⟨i1,i2,i3,i4⟩ ?_;rotate_left;focus (intro W hS;obtain ⟨s1,s2,s3,s4⟩:=hS;go_simp;rfl))
              iterate 1 (refine aa ?_ (fun _ _ _ h=>h) rfl ?_ ⟨i1,i2,i3,i4⟩ ?_;rotate_left;focus (intro W hS;obtain ⟨s1,s2,s3,s4⟩:=hS;go_simp;rfl))
              refine ai ?_
              go_simp
              clear i1 i2 hwr
              go_wp2_with (at_builtin;refine aE Tryz.el_tok rfl (.tmp 60) (.tmp 62) rfl w w3 (.slice (some ⟨g0,0,none⟩) (m+1) cv) (m+1) _ rfl hown3 hb3 hz3 #[.int .i64 t.kind,sv t.text] (.inr rfl) 1 1 rfl rfl (by simp [Value.oneCell']) (by omega) (by omega) (by omega) ?_)
              intro g cap w4 hown4 hb4 _ _ _
              clear hown3 hb3 hz3 i3 i4
              go_wp2
              go_roundw
              case rel=>exact ⟨p+1+k,m+1+1,ts++[t],by omega,by omega,by go_num,HN.out.1,by rw [List.flatMap_append];simpa [dh] using hown4,hb4⟩
              case measure=>simp [intOf];omega
      · have hlt3:(s.size:Int)≤(p:Int)+1:=by omega
        have HU:=aa9 (show U=none from HS.out.bad hlt true HB.out (by show tkS (s.data.toList.drop (p+1))=none;rw [ck s (p+1) hlt2];rfl))
        clear hown
        go_wp2
        go_ret2
        refine ⟨_,by rw [HU.out];rfl,?_,(hbr.alloc hbr0 _)⟩
        rw [HU.out]
        exact fU _ _ _ 2 hbr0
    | false=>
      have hB:decide (s[p].toNat=32)=false:=decide_eq_false (cH h32)
      have HB:=aa9 hB
      clear hB
      have c1:=fun W=>mu s (p) W hs hlt
      cases ht:tkS (s.data.toList.drop (p)) with
      | none=>
        have HU:=aa9 (show U=none from HS.out.bad hlt false HB.out ht)
        rw [ht] at c1
        have C1:=aa9 c1
        clear c1 ht hown
        go_wp2_with fail
        refine (C1.out _).mono ?_
        rintro e w1 ⟨⟨t0,rfl⟩,b1⟩
        have hb1:=hbr.trans (b1.mono hbr0)
        have hz1:=hb1.size
        have hbX:Below w.heap.size w (w1.alloc (.cells #[.int .i64 t0.kind,sv t0.text] 80)):=hb1.alloc hz1 _
        have hzX:=hbX.size
        clear b1 hbr hbr0
        go_wp2
        refine ah oL15 (fun _=>True) (by kernel_rfl) (by kernel_rfl) rfl (by kernel_rfl) ?_
        intro ops' hops
        simp only [oL15,List.map_cons,List.map_nil,ae,ag]
        iterate 3 (refine aa ?_ (fun _ _ _ h=>h) rfl ?_ trivial ?_;rotate_left;focus (intro _ _;go_simp;rfl))
        iterate 5 (refine aJ (fun _ _ _ h=>h) (by rw [hops.out];kernel_rfl) trivial ?_)
        iterate 2 (refine aa ?_ (fun _ _ _ h=>h) rfl ?_ trivial ?_;rotate_left;focus (intro _ _;go_simp;rfl))
        iterate 10 (refine aJ (fun _ _ _ h=>h) (by rw [hops.out];kernel_rfl) trivial ?_)
        refine bD trivial (by rw [hops.out];kernel_rfl) ?_
        iterate 2 (refine aJ (fun _ _ _ h=>h) (by rw [hops.out];kernel_rfl) trivial ?_)
        iterate 1 (refine aa ?_ (fun _ _ _ h=>h) rfl ?_ trivial ?_;rotate_left;focus (intro _ _;go_simp;rfl))
        refine ai ?_
        go_simp
        go_wp2
        go_ret2
        refine ⟨_,by rw [HU.out];rfl,?_,(hbX.alloc hzX _).drew⟩
        rw [HU.out]
        exact jF _ _ _ _ 2 hz1
      | some x=>
        obtain ⟨t,k⟩:=x
        have hkp:=jB _ _ _ ht
        rw [List.length_drop,dI] at hkp
        rw [ht] at c1
        have C1:=aa9 c1
        have HT:=aa9 (show wV s p false=some (t,k) from ht)
        clear c1 ht
        have hgn: ¬((p+k:Nat):Int) < 0:=by omega
        by_cases hn0:n=0
        · subst hn0
          have hts:ts=[]:=List.eq_nil_of_length_eq_zero HS.out.1.symm
          subst hts
          go_wp2_with fail
          refine (C1.out _).mono ?_
          rintro e w1 ⟨rfl,b1⟩
          have hb1:=hbr.trans (b1.mono hbr0)
          have hz1:=hb1.size
          have hown1:=ao hown b1
          have hbX:Below w.heap.size w (w1.alloc (.cells #[.int .i64 t.kind,sv t.text] 80)):=hb1.alloc hz1 _
          have hzX:=hbX.size
          clear b1 hbr hbr0 hown
          go_wp2
          refine ah oL15 (fun _=>True) (by kernel_rfl) (by kernel_rfl) rfl (by kernel_rfl) ?_
          intro ops' hops
          simp only [oL15,List.map_cons,List.map_nil,ae,ag]
          iterate 3 (refine aa ?_ (fun _ _ _ h=>h) rfl ?_ trivial ?_;rotate_left;focus (intro _ _;go_simp;rfl))
          iterate 5 (refine aa ?_ (fun _ _ _ h=>h) (by rw [hops.out];kernel_rfl) ?_ trivial ?_;rotate_left;focus (intro _ _;go_simp;rfl))
          iterate 2 (refine aa ?_ (fun _ _ _ h=>h) rfl ?_ trivial ?_;rotate_left;focus (intro _ _;go_simp;rfl))
          iterate 3 (refine aa ?_ (fun _ _ _ h=>h) (by rw [hops.out];kernel_rfl) ?_ trivial ?_;rotate_left;focus (intro _ _;go_simp;rfl))
          iterate 7 (refine aJ (fun _ _ _ h=>h) (by rw [hops.out];kernel_rfl) trivial ?_)
          refine bD trivial (by rw [hops.out];kernel_rfl) ?_
          iterate 1 (refine aJ (fun _ _ _ h=>h) (by rw [hops.out];kernel_rfl) trivial ?_)
          iterate 1 (refine aa ?_ (fun _ _ _ h=>h) (by rw [hops.out];kernel_rfl) ?_ trivial ?_;rotate_left;focus (intro _ _;go_simp;rfl))
          iterate 1 (refine aa ?_ (fun _ _ _ h=>h) rfl ?_ trivial ?_;rotate_left;focus (intro _ _;go_simp;rfl))
          refine ai ?_
          go_simp
          have HN:=aa9 (HS.out.step hlt false HB.out HT.out rfl)
          have hown2:((w1.alloc (.cells #[.int .i64 t.kind,sv t.text] 80)).drew).ownsRow w.heap.size 80 2 (.slice pv 0 cv) 0 (([]:List Tok).flatMap dh):=(hown1.alloc _).drew
          have hb2:Below w.heap.size w (w1.alloc (.cells #[.int .i64 t.kind,sv t.text] 80)).drew:=(hb1.alloc hz1 _).drew
          have hz2:=hb2.size
          have f1:(w1.alloc (.cells #[.int .i64 t.kind,sv t.text] 80)).drew.cell? ⟨w1.heap.size,0,none⟩=some (.int .i64 t.kind):=by simp [go_sem]
          have f2:(w1.alloc (.cells #[.int .i64 t.kind,sv t.text] 80)).drew.cell? ⟨w1.heap.size,1,none⟩=some (sv t.text):=by simp [go_sem]
          clear hown1 hb1 hz1
          generalize (w1.alloc (.cells #[.int .i64 t.kind,sv t.text] 80)).drew=w2 at *
          go_wp2_with (at_builtin;refine aE Tryz.el_tok rfl (.tmp 60) (.tmp 62) rfl w w2 (.slice pv 0 cv) 0 _ rfl hown2 hb2 hz2 #[.int .i64 t.kind,sv t.text] (.inr rfl) 1 1 rfl rfl (by simp [Value.oneCell']) (by omega) (by omega) (by omega) ?_)
          intro g cap w3 hown3 hb3 _ _ _
          clear hown2 hb2 hz2 f1 f2
          go_wp2
          go_roundw
          case rel=>exact ⟨p+k,1,[t],by omega,by omega,rfl,HN.out.1,hown3,hb3⟩
          case measure=>simp [intOf];omega
        · obtain ⟨m,rfl⟩: ∃ m,n=m+1:=⟨n - 1,by omega⟩
          obtain ⟨t0,ht0,hlast⟩:=jE ts none m HS.out.1.symm
          have HL:=aa9 hlast
          obtain ⟨g0,cap0,hpv,_,_⟩:=hown.form (by omega)
          injection hpv with hpv1 _ hcv
          subst hpv1
          subst hcv
          have hmc:((m+1:Nat):Int)=(m:Int)+1:=by omega
          have hwr:IntKind.i64.wrap (m:Int)=(m:Int):=IntWalk.i64_in _ (by omega)
          have hm0:((m:Int)+1==0)=false:=by simp;omega
          have hm1:(0:Int) < (m:Int)+1:=by omega
          clear hn0
          go_wp2_with fail
          refine (C1.out _).mono ?_
          rintro e w1 ⟨rfl,b1⟩
          have hb1:=hbr.trans (b1.mono hbr0)
          have hz1:=hb1.size
          have hown1:=ao hown b1
          have hg0:=(hown1.lt g0 rfl).2
          have q1:w1.cell? ⟨g0,m * 2,none⟩=some (.int .i64 t0.kind):=by
           rw [hown1.cellAt (m * 2) (by omega)]
           exact ji (m:=2) dh ts (fun _=>rfl) m t0 ht0 0 _ rfl
          have q2:w1.cell? ⟨g0,m * 2+1,none⟩=some (sv t0.text):=by
           rw [hown1.cellAt (m * 2+1) (by omega)]
           exact ji (m:=2) dh ts (fun _=>rfl) m t0 ht0 1 _ rfl
          have hown2:((w1.alloc (.cells #[.int .i64 t.kind,sv t.text] 80)).drew).ownsRow w.heap.size 80 2 (.slice (some ⟨g0,0,none⟩) (m+1) cv) (m+1) (ts.flatMap dh):=(hown1.alloc _).drew
          have hb2:Below w.heap.size w (w1.alloc (.cells #[.int .i64 t.kind,sv t.text] 80)).drew:=(hb1.alloc hz1 _).drew
          have hz2:=hb2.size
          have f1:(w1.alloc (.cells #[.int .i64 t.kind,sv t.text] 80)).drew.cell? ⟨w1.heap.size,0,none⟩=some (.int .i64 t.kind):=by simp [go_sem]
          have f2:(w1.alloc (.cells #[.int .i64 t.kind,sv t.text] 80)).drew.cell? ⟨w1.heap.size,1,none⟩=some (sv t.text):=by simp [go_sem]
          have p1:(w1.alloc (.cells #[.int .i64 t.kind,sv t.text] 80)).drew.cell? ⟨g0,m * 2,none⟩=some (.int .i64 t0.kind):=(World.cell?_alloc_lt w1 _ _ (by exact hg0)).trans q1
          have p2:(w1.alloc (.cells #[.int .i64 t.kind,sv t.text] 80)).drew.cell? ⟨g0,m * 2+1,none⟩=some (sv t0.text):=(World.cell?_alloc_lt w1 _ _ (by exact hg0)).trans q2
          have hsz2:(w1.alloc (.cells #[.int .i64 t.kind,sv t.text] 80)).drew.heap.size=w1.heap.size+1:=by simp
          clear b1 hbr hbr0 hown hown1 q1 q2 ht0 hlast
          go_wp2
          refine ah oL15 (fun W=>W.cell? ⟨g0,m * 2,none⟩=some (.int .i64 t0.kind)∧W.cell? ⟨g0,m * 2+1,none⟩=some (sv t0.text)∧W.cell? ⟨w1.heap.size,0,none⟩=some (.int .i64 t.kind)∧W.cell? ⟨w1.heap.size,1,none⟩=some (sv t.text)) (by kernel_rfl) (by kernel_rfl) rfl (by kernel_rfl) ?_
          intro ops' hops
          simp only [oL15,List.map_cons,List.map_nil,ae,ag]
          have hF: ∀ W,W=(w1.alloc (.cells #[.int .i64 t.kind,sv t.text] 80)).drew→True:=fun _ _=>trivial
          clear hF
          iterate 3 (refine aa ?_ (fun _ _ _ h=>h) rfl ?_ ⟨p1,p2,f1,f2⟩ ?_;rotate_left;focus (intro W hS;obtain ⟨s1,s2,s3,s4⟩:=hS;go_simp;rfl))
          iterate 3 (refine aa ?_ (fun _ _ _ h=>h) (by rw [hops.out];kernel_rfl) ?_ ⟨p1,p2,f1,f2⟩ ?_;rotate_left;focus (intro W hS;obtain ⟨s1,s2,s3,s4⟩:=hS;go_simp;rfl))
          iterate 1 (refine aJ (fun _ _ _ h=>h) (by rw [hops.out];kernel_rfl) ⟨p1,p2,f1,f2⟩ ?_)
          iterate 1 (refine aa ?_ (fun _ _ _ h=>h) (by rw [hops.out];kernel_rfl) ?_ ⟨p1,p2,f1,f2⟩ ?_;rotate_left;focus (intro W hS;obtain ⟨s1,s2,s3,s4⟩:=hS;go_simp;rfl))
          iterate 2 (refine aa ?_ (fun _ _ _ h=>h) rfl ?_ ⟨p1,p2,f1,f2⟩ ?_;rotate_left;focus (intro W hS;obtain ⟨s1,s2,s3,s4⟩:=hS;go_simp;rfl))
          iterate 7 (refine aa ?_ (fun _ _ _ h=>h) (by rw [hops.out];kernel_rfl) ?_ ⟨p1,p2,f1,f2⟩ ?_;rotate_left;focus (intro W hS;obtain ⟨s1,s2,s3,s4⟩:=hS;go_simp;rfl))
          refine aa (.pointer (some ⟨g0,m * 2,none⟩)) (fun _ _ _ h=>h) (by rw [hops.out];kernel_rfl) ?_ ⟨p1,p2,f1,f2⟩ ?_
          · intro W hS
            go_simp
            try (intro h;omega)
          iterate 2 (refine aa ?_ (fun _ _ _ h=>h) (by rw [hops.out];kernel_rfl) ?_ ⟨p1,p2,f1,f2⟩ ?_;rotate_left;focus (intro W hS;obtain ⟨s1,s2,s3,s4⟩:=hS;go_simp;rfl))
          refine al (by rw [hops.out];kernel_rfl) ?_
          go_simp
          refine (og t0 t _).mono ?_
          rintro e w3 ⟨rfl,b3⟩
          have i1:=(b3.cell (p:=⟨g0,m * 2,none⟩) (by show g0 < _;simp;omega)).trans p1
          have i2:=(b3.cell (p:=⟨g0,m * 2+1,none⟩) (by show g0 < _;simp;omega)).trans p2
          have i3:=(b3.cell (p:=⟨w1.heap.size,0,none⟩) (by show w1.heap.size < _;simp)).trans f1
          have i4:=(b3.cell (p:=⟨w1.heap.size,1,none⟩) (by show w1.heap.size < _;simp)).trans f2
          have hown3:=ao hown2 b3
          have hb3:=hb2.trans (b3.mono hz2)
          have hz3:=hb3.size
          refine ⟨⟨i1,i2,i3,i4⟩,?_⟩
          clear p1 p2 f1 f2 b3 hown2 hb2 hz2 hsz2
          cases hgap:lM t0 t with
          | true=>
            have HU:=aa9 (show U=none from HS.out.unfit hlt false HB.out HT.out (by rw [HL.out];simp [nz,hgap]))
            clear hgap
            iterate 2 (refine aa ?_ (fun _ _ _ h=>h) (by rw [hops.out];kernel_rfl) ?_ ⟨i1,i2,i3,i4⟩ ?_;rotate_left;focus (intro W hS;obtain ⟨s1,s2,s3,s4⟩:=hS;go_simp;rfl))
            iterate 1 (refine aa ?_ (fun _ _ _ h=>h) rfl ?_ ⟨i1,i2,i3,i4⟩ ?_;rotate_left;focus (intro W hS;obtain ⟨s1,s2,s3,s4⟩:=hS;go_simp;rfl))
            refine ai ?_
            go_simp
            clear i1 i2 i3 i4 hown3 hwr
            go_wp2
            go_ret2
            refine ⟨_,by rw [HU.out];rfl,?_,hb3.alloc hz3 _⟩
            rw [HU.out]
            exact fU _ _ _ 2 hz3
          | false=>
            have HN:=aa9 (HS.out.step hlt false HB.out HT.out (by rw [HL.out];simp [nz,hgap]))
            clear hgap
            iterate 2 (refine aa ?_ (fun _ _ _ h=>h) (by rw [hops.out];kernel_rfl) ?_ ⟨i1,i2,i3,i4⟩ ?_;rotate_left;focus (intro W hS;obtain ⟨s1,s2,s3,s4⟩:=hS;go_simp;rfl))
            iterate 1 (refine aa ?_ (fun _ _ _ h=>h) rfl ?_ ⟨i1,i2,i3,i4⟩ ?_;rotate_left;focus (intro W hS;obtain ⟨s1,s2,s3,s4⟩:=hS;go_simp;rfl))
            refine ai ?_
            go_simp
            clear i1 i2 hwr
            go_wp2_with (at_builtin;refine aE Tryz.el_tok rfl (.tmp 60) (.tmp 62) rfl w w3 (.slice (some ⟨g0,0,none⟩) (m+1) cv) (m+1) _ rfl hown3 hb3 hz3 #[.int .i64 t.kind,sv t.text] (.inr rfl) 1 1 rfl rfl (by simp [Value.oneCell']) (by omega) (by omega) (by omega) ?_)
            intro g cap w4 hown4 hb4 _ _ _
            clear hown3 hb3 hz3 i3 i4
            go_wp2
            go_roundw
            case rel=>exact ⟨p+k,m+1+1,ts++[t],by omega,by omega,by go_num,HN.out.1,by rw [List.flatMap_append];simpa [dh] using hown4,hb4⟩
            case measure=>simp [intOf];omega
  · obtain rfl:p=s.size:=by omega
    have HU:=aa9 (HS.out.done hlt)
    have HN:=aa9 HS.out.1
    go_wp2
    go_ret2
    refine ⟨_,by rw [HU.out];rfl,?_,hbr⟩
    rw [HU.out]
    show wr.ownsRow _ _ _ _ ts.length (ts.flatMap dh)
    rw [←HN.out]
    exact hown
end Go.Proofs.YtmlgkoeacbeopaaGreatDoor
namespace Go.Proofs.YtmlgkoeacbeopaaGreatDoor
open Go.RowKit
def atT (x:List UInt8):Tok:=⟨1,x⟩
def zF:Tok:=⟨3,[]⟩
def zG:Tok:=⟨4,[]⟩
def evB (ev:Int) (k:Nat):Bool:=bits .and .i64 (ev / (2 ^ k:Nat)) 1==1
def aag (ev:Int) (k:Nat):List Tok:=if evB ev k=true then [atT (da.getD k [])] else []
def vY (ev:Int) (k:Nat):List Tok:=(List.range k).flatMap (aag ev)
def xB (s:Scp):List Tok:=if 3≤s.kind then zF::(s.names.map atT++[zG]) else []
def vZ (s:Scp):List Tok:=zF::atT (eg.getD s.kind.toNat [])::(xB s++(zF::(vY s.events 4++[zG,zG])))
def aa2 (f:Flt):List Tok:=if aN f=true then (if f.on=true then atT [115,101,116]::f.scopes.flatMap vZ else [atT [110,111,110,101]]) else []
theorem eV {w:World} {B B' n s:Nat} {e:TypeId} {v:Value} {xs:List Value} (h:w.ownsRow B e s v n xs) (hb:B'≤B):w.ownsRow B' e s v n xs:=by
 refine ⟨h.1,?_⟩
 rcases h.2 with h0 | ⟨g,cap,cur,hv,h1,h2⟩
 · exact .inl h0
 · exact .inr ⟨g,cap,cur,hv,Nat.le_trans hb h1,h2⟩
structure TkB (W0:World) (c:Nat) (cs:Array Value) (u:Value) (toks:List Tok) (wr:World):Prop where
 own:wr.ownsRow W0.heap.size 80 2 u toks.length (toks.flatMap dh)
 below:Below W0.heap.size W0 wr
 blk:wr.heap[c]? =some (.cells cs 123 (0,0))
theorem TkB.lt {W0 wr:World} {c:Nat} {cs:Array Value} {u:Value} {toks:List Tok} (h:TkB W0 c cs u toks wr):c < wr.heap.size:=(Array.getElem?_eq_some_iff.1 h.blk).1
theorem TkB.call {W0 wr w':World} {c:Nat} {cs:Array Value} {u:Value} {toks:List Tok} (h:TkB W0 c cs u toks wr) (hb:Below wr.heap.size wr w'):TkB W0 c cs u toks w':=
 ⟨ao h.own hb,h.below.trans (hb.mono h.below.size),(hb.block c h.lt).trans h.blk⟩
theorem TkB.drew {W0 wr:World} {c:Nat} {cs:Array Value} {u:Value} {toks:List Tok} (h:TkB W0 c cs u toks wr):TkB W0 c cs u toks wr.drew:=⟨h.own.drew,h.below.drew,h.blk⟩
section
variable {P:Program} {w w0 W0:World} {ops:Array Oper} {rest:List Oper} {o:Oper} {a:Act} {c:Nat} {cs:Array Value} {u:Value} {toks:List Tok}
theorem yT {K:Act→World→Prop} {Q:Exit→Act→World→Prop} (h:TkB W0 c cs u toks w0) (xs:List Tok) (n:Nat) (s x:Operand) (ho:o.op= .call { callee:= .builtin .append,args:= #[s,x],argTypes:= #[43,43] })
 (hs:a.eval s=u) (cs2:Array Value) (hw:w=(w0.alloc (.cells cs2 80)).drew∨w=w0.alloc (.cells cs2 80)) (hcs:cs2.toList=xs.flatMap dh) (hx:a.eval x= .slice (some ⟨w0.heap.size,0,none⟩) n n) (hn:xs.length=n) (hp:0 < n) (hl:toks.length+n≤1000000)
 (hK: ∀ u' w',TkB W0 c cs u' (toks++xs) w'→K (a.put o.dst u') w'):o.wp Tryz.prog a w K Q:=by
 have hc2:cs2.size=n * 2:=by have:=congrArg List.length hcs;rw [nW (enc:=dh) (fun _=>rfl),hn] at this;simpa using this
 refine sM Tryz.el_tok s x ho W0 w0 u toks.length _ hs h.own h.below h.below.size cs2 hw n n hx hc2 ?_ hp (by omega) (by omega) ?_
 · rw [Array.all_eq_true']
   intro v hv
   have:v∈xs.flatMap dh:=by rw [←hcs];simpa using hv
   obtain ⟨t,_,ht⟩:=List.mem_flatMap.1 this
   have:v= .int .i64 t.kind∨v=sv t.text:=by simpa [dh] using ht
   rcases this with rfl | rfl <;> rfl
 · intro g cap w' h1 h2 h3 h4 _
   refine hK _ _ ⟨?_,h2,?_⟩
   · rw [List.length_append,hn,List.flatMap_append,←hcs];exact h1
   · refine (h3.block c h.lt ?_).trans h.blk
     intro e
     obtain ⟨cz,fz,hk⟩:=Lib.ownsRow_kind h.own c e.symm
     rw [h.blk] at hk
     injection hk with hk
     injection hk with _ hk _
     exact absurd hk (by decide)
theorem yf {Q:Exit→Act→World→Prop} (hgd:o.guard=none) (h:TkB W0 c cs u toks w0) (xs:List Tok) (n:Nat) (s x:Operand) (ho:o.op= .call { callee:= .builtin .append,args:= #[s,x],argTypes:= #[43,43] })
 (hs:a.eval s=u) (cs2:Array Value) (hw:w=(w0.alloc (.cells cs2 80)).drew∨w=w0.alloc (.cells cs2 80)) (hcs:cs2.toList=xs.flatMap dh) (hx:a.eval x= .slice (some ⟨w0.heap.size,0,none⟩) n n) (hn:xs.length=n) (hp:0 < n) (hl:toks.length+n≤1000000)
 (hK: ∀ u' w',TkB W0 c cs u' (toks++xs) w'→wpList Tryz.prog ops Q rest (a.put o.dst u') w'):wpList Tryz.prog ops Q (o::rest) a w:=
 wpList_plain hgd fun _ hKK=>yT h xs n s x ho hs cs2 hw hcs hx hn hp hl fun u' w' h'=>hKK _ _ (hK u' w' h')
end
theorem lg {s:Scp} (h:bp s=true):1≤s.kind∧s.kind≤4∧1≤s.events∧s.events≤15∧s.names.length≤3:=by
 unfold bp at h
 simp only [Bool.and_eq_true,decide_eq_true_eq] at h
 obtain ⟨⟨⟨h1,h2⟩,h3,h4⟩,h5⟩:=h
 refine ⟨h1,h2,h3,h4,?_⟩
 split at h5
 · simp at h5;simp [h5]
 · simp only [Bool.and_eq_true,decide_eq_true_eq] at h5;omega
theorem oO {f:Flt} (h:aN f=true):(∀ s∈f.scopes,bp s=true)∧f.scopes.length≤3:=by
 unfold aN at h
 simp only [Bool.and_eq_true,List.all_eq_true] at h
 refine ⟨h.1,?_⟩
 have h2:=h.2
 split at h2
 · simp only [Bool.and_eq_true,decide_eq_true_eq] at h2;omega
 · simp at h2;simp [h2]
theorem oQ (ev:Int): ∀ k,(vY ev k).length≤k
 | 0=>by simp [vY]
 | k+1=>by
   have ih:=oQ ev k
   unfold vY at *
   rw [List.range_succ,List.flatMap_append,List.length_append]
   have:(List.flatMap (aag ev) [k]).length≤1:=by simp only [List.flatMap_cons,List.flatMap_nil,List.append_nil];unfold aag;split <;> simp
   omega
theorem tW {s:Scp} (h:bp s=true):(vZ s).length≤14:=by
 have h1:=(lg h).2.2.2.2
 have h2:=oQ s.events 4
 have h3:(xB s).length≤5:=by unfold xB;split <;> simp <;> omega
 unfold vZ
 simp only [List.length_cons,List.length_append,List.length_nil]
 omega
theorem yg {l:List Scp} (h: ∀ s∈l,bp s=true) (k:Nat):((l.take k).flatMap vZ).length≤14 * k:=by
 induction k with
 | zero=>simp
 | succ k ih=>
   by_cases hlt:k < l.length
   · obtain ⟨s,hs⟩: ∃ s,l[k]? =some s:=⟨_,List.getElem?_eq_getElem hlt⟩
     rw [xt hs,List.flatMap_append,List.length_append]
     have:=tW (h s (List.mem_of_getElem? hs))
     simp only [List.flatMap_cons,List.flatMap_nil,List.append_nil]
     omega
   · rw [List.take_of_length_le (by omega)]
     rw [List.take_of_length_le (by omega)] at ih
     omega
theorem mv (w:World) (b j:Nat) (v:Value):w.grownBy (w.setCell ⟨b,j,none⟩ v) (some b):=
 ⟨rfl,rfl,rfl,by simp,fun k _ hne=>Below.heap_setCell w _ v k (by intro e;subst e;exact hne rfl)⟩
theorem yU {w w1:World} {row:Option Nat} {b:Nat} (h:w.grownBy w1 row) (hb:w.heap.size≤b) (j:Nat) (v:Value):w.grownBy (w1.setCell ⟨b,j,none⟩ v) row:=
 kG h (mv w1 b j v) (fun k hk=>by injection hk with hk;omega)
theorem Cur.set {w:World} {g b:Nat} {code:List UInt8} (h:Cur w g code) (hb:g < b) (j:Nat) (v:Value):Cur (w.setCell ⟨b,j,none⟩ v) g code:=
 h.grown (mv w b j v) (fun k hk=>by injection hk with hk;omega)
theorem lh {w w1:World} {g b:Nat} (hg:w.grownBy w1 (some g)) (hb:b < w.heap.size) (hne:b ≠ g):(∀ j,w1.cell? ⟨b,j,none⟩=w.cell? ⟨b,j,none⟩)∧(∀ j,w1.frozen? ⟨b,j,none⟩=w.frozen? ⟨b,j,none⟩):=
 ⟨fun _=>World.cell?_of_block (hg.block b hb (by intro e;injection e with e;exact hne e)),fun _=>World.frozen?_of_block (hg.block b hb (by intro e;injection e with e;exact hne e))⟩
structure BT (w:World) (B R:Nat) (k:Int) (tx:List UInt8):Prop where
 p0:w.cell? ⟨B,0,none⟩=some (.int .i64 k)
 p1:w.cell? ⟨B,1,none⟩=some (sv tx)
 q0:w.frozen? ⟨B,0,none⟩=false
 q1:w.frozen? ⟨B,1,none⟩=false
 r0:w.cell? ⟨R,0,none⟩=some (.int .i64 0)
 r1:w.cell? ⟨R,1,none⟩=some (.string ⟨#[]⟩)
 s0:w.frozen? ⟨R,0,none⟩=false
 s1:w.frozen? ⟨R,1,none⟩=false
theorem BT.grown {w w1:World} {B R g:Nat} {k:Int} {tx:List UInt8} (h:BT w B R k tx) (hg:w.grownBy w1 (some g)) (hB: ¬B=g) (hR: ¬R=g):BT w1 B R k tx:=by
 obtain ⟨c1,f1⟩:=lh hg (World.block_lt_of_cell? _ _ h.p0) hB
 obtain ⟨c2,f2⟩:=lh hg (World.block_lt_of_cell? _ _ h.r0) hR
 exact ⟨(c1 0).trans h.p0,(c1 1).trans h.p1,(f1 0).trans h.q0,(f1 1).trans h.q1,(c2 0).trans h.r0,(c2 1).trans h.r1,(f2 0).trans h.s0,(f2 1).trans h.s1⟩
theorem BT.below {w w1:World} {B R:Nat} {k:Int} {tx:List UInt8} (h:BT w B R k tx) (hb:Below w.heap.size w w1):BT w1 B R k tx:=by
 have hB:=World.block_lt_of_cell? _ _ h.p0
 have hR:=World.block_lt_of_cell? _ _ h.r0
 exact ⟨(hb.cell (p:=⟨B,0,none⟩) hB).trans h.p0,(hb.cell (p:=⟨B,1,none⟩) hB).trans h.p1,(hb.frozen (p:=⟨B,0,none⟩) hB).trans h.q0,(hb.frozen (p:=⟨B,1,none⟩) hB).trans h.q1,
  (hb.cell (p:=⟨R,0,none⟩) hR).trans h.r0,(hb.cell (p:=⟨R,1,none⟩) hR).trans h.r1,(hb.frozen (p:=⟨R,0,none⟩) hR).trans h.s0,(hb.frozen (p:=⟨R,1,none⟩) hR).trans h.s1⟩
theorem BT.sets {w:World} {B R:Nat} {k:Int} {tx:List UInt8} (h:BT w B R k tx) (hne: ¬R=B):
 (∀ v,(w.setCell ⟨B,0,none⟩ v).cell? ⟨B,0,none⟩=some v)∧(∀ v,(w.setCell ⟨B,1,none⟩ v).cell? ⟨B,1,none⟩=some v)∧
 (∀ v,(w.setCell ⟨R,0,none⟩ v).cell? ⟨R,0,none⟩=some v)∧(∀ v v',((w.setCell ⟨R,0,none⟩ v).setCell ⟨R,1,none⟩ v').cell? ⟨R,1,none⟩=some v')∧
 (∀ u j v,((w.setCell ⟨B,j,none⟩ u).setCell ⟨R,0,none⟩ v).cell? ⟨R,0,none⟩=some v)∧(∀ u j v v',(((w.setCell ⟨B,j,none⟩ u).setCell ⟨R,0,none⟩ v).setCell ⟨R,1,none⟩ v').cell? ⟨R,1,none⟩=some v'):=by
 have hr: ∀ u j i,(w.setCell ⟨B,j,none⟩ u).cell? ⟨R,i,none⟩=w.cell? ⟨R,i,none⟩:=fun u j i=>World.cell?_setCell_other w _ _ _ (by intro e;injection e with e _;exact hne e.symm)
 refine ⟨fun v=>World.cell?_setCell_same w _ _ h.p0,fun v=>World.cell?_setCell_same w _ _ h.p1,(cm h.r0 h.r1).1,(cm h.r0 h.r1).2,fun u j=>(cm ((hr u j 0).trans h.r0) ((hr u j 1).trans h.r1)).1,fun u j=>(cm ((hr u j 0).trans h.r0) ((hr u j 1).trans h.r1)).2⟩
def Tok.lf (x:Tok):List Lf:=[.int x.kind,.str x.text]
theorem Tok.len (x:Tok):x.lf.length=2:=rfl
def aQ (l:List Tok):Lf:= .rows 80 2 l.length (l.flatMap Tok.lf)
theorem Tok.fit (x:Tok):ec x.lf:=⟨trivial,trivial,trivial⟩
theorem r8 (l:List Tok):m8 (aQ l):=⟨by omega,ce Tok.len l,ec.flat Tok.fit l⟩
theorem Tok.sz (x:Tok):bg x.lf=x.text.length:=by simp only [Tok.lf,bg,kf,m7] <;> omega
theorem Tok.cnt (x:Tok):aW x.lf=1+1:=by simp only [Tok.lf,aW,iu,kI] <;> omega
theorem Tok.rd {W:World} {x:Tok} {vs:List Value} :di W x.lf vs↔vs=[.int .i64 x.kind,sv x.text]:=by
 constructor
 · rintro ⟨a0,s0,rfl,h0,a1,s1,rfl,h1,rfl⟩
   exact by rw [h0,h1]
 · rintro rfl
   exact ⟨_,_,rfl,rfl,_,_,rfl,rfl,rfl⟩
theorem Tok.mark (x:Tok) (k:Nat):(aO x.lf k).1=[.int ((k:Nat):Int),.str (cA (k+1))]:=by simp only [Tok.lf,aO,gq,jo]
theorem Tok.rdm {W:World} {x:Tok} {k:Nat} {vs:List Value} :di W (aO x.lf k).1 vs↔vs=[.int .i64 ((k:Nat):Int),sv (cA (k+1))]:=by
 rw [Tok.mark]
 constructor
 · rintro ⟨a0,s0,rfl,h0,a1,s1,rfl,h1,rfl⟩
   exact by rw [h0,h1]
 · rintro rfl
   exact ⟨_,_,rfl,rfl,_,_,rfl,rfl,rfl⟩
theorem Tok.in_of {W:World} {z0:Int} {z1:List UInt8} {vs:List Value} {fp:List Nat} (h:bS W [.int z0,.str z1] vs fp):vs=[.int .i64 z0,sv z1]∧fp=[]:=by
 obtain ⟨a0,s0,f0,g0,rfl,h0,⟨a1,s1,f1,g1,rfl,h1,⟨rfl,rfl⟩,rfl⟩,rfl⟩:=h
 exact ⟨by rw [h0.1,h1.1],by rw [h0.2,h1.2];simp⟩
theorem Tok.in_mk {W:World} {z0:Int} {z1:List UInt8} :bS W [.int z0,.str z1] [.int .i64 z0,sv z1] ([]):=by
 have h:bS W [.int z0,.str z1] [.int .i64 z0,sv z1] ([]++([]++([]))):=⟨_,_,[],_,rfl,⟨rfl,rfl⟩,⟨_,_,[],_,rfl,⟨rfl,rfl⟩,⟨rfl,rfl⟩,rfl⟩,rfl⟩
 simpa using h
theorem Tryz.el_token:lP Tryz.prog 43 80 2 24:=lP.mk' (z:= .agg #[.int .i64 0,.string ⟨#[]⟩]) Tryz.underlying43 (by kernel_rfl) rfl (by omega)
theorem Tok.at {W:World} {l:List Tok} {v:Value} (h:az W (aQ l) v): ∃ p cap,v= .slice p l.length cap∧(l=[]∨ ∃ b off,p=some ⟨b,off,none⟩∧b < W.heap.size∧ ∀ i x,l[i]? =some x→W.cell? ⟨b,off+i * 2,none⟩=some (.int .i64 x.kind)∧W.cell? ⟨b,off+i * 2+1,none⟩=some (sv x.text)):=by
 obtain ⟨p,cap,hv,hc⟩:=jk Tok.len h
 refine ⟨p,cap,hv,hc.imp id fun ⟨b,off,hp,hlt,hc⟩=>⟨b,off,hp,hlt,fun i x hi=> ?_⟩⟩
 obtain ⟨us,h1,h2⟩:=hc i x hi
 obtain rfl:=Tok.rd.1 h1
 exact ⟨h2 0 _ rfl,h2 1 _ rfl⟩
theorem Tok.atm {W:World} {l:List Tok} {v:Value} {k0:Nat} (h:az W (aX (aQ l) k0).1 v): ∃ p cap,v= .slice p l.length cap∧(l=[]∨ ∃ b off,p=some ⟨b,off,none⟩∧b < W.heap.size∧ ∀ i x k,l[i]? =some x→k=k0+aW ((l.take i).flatMap Tok.lf)→W.cell? ⟨b,off+i * 2,none⟩=some (.int .i64 ((k:Nat):Int))∧W.cell? ⟨b,off+i * 2+1,none⟩=some (sv (cA (k+1)))):=by
 obtain ⟨p,cap,hv,hc⟩:=dG Tok.len h
 refine ⟨p,cap,hv,hc.imp id fun ⟨b,off,hp,hlt,hc⟩=>⟨b,off,hp,hlt,fun i x k hi hk=> ?_⟩⟩
 obtain ⟨us,h1,h2⟩:=hc i x hi
 rw [←hk] at h1
 obtain rfl:=Tok.rdm.1 h1
 exact ⟨h2 0 _ rfl,h2 1 _ rfl⟩
def zH:List UInt8:=[117,105,100]
def aah (x:ap):List (List UInt8):=[x.tag,if x.uid=true then zH else [],kdW x.kind,fJ x.sset,opT x.op,x.box,x.dst]
def aa3 (s:List UInt8):Bool:=s != []
def aai (x:ap):List Tok:=((aah x).filter aa3).map atT
def aa4 (ws:List (List UInt8)):List Tok:=zF::(ws.map atT++[zG])
def aaj (x:ap):List Tok:=(if x.kind=8∨x.kind=11 then aa4 (sG x.flags.toNat 5) else [])++((if x.kind=11 then [⟨2,x.text⟩] else [])++(if x.kind=6 then aa2 x.filter else []))
def aaK (x:ap):List Tok:=if cg x=true then aai x++aaj x else []
end Go.Proofs.YtmlgkoeacbeopaaGreatDoor
