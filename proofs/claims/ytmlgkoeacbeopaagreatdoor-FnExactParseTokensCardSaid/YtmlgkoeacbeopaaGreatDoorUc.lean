/- Uc -/
import Derived.Handy
import Derived.IntWalk
import Derived.Laws.BitsAllLaws
import Derived.Laws.BitsLemmas
import Derived.Lib.Join
import Derived.Deep.Strs
import Derived.Test.YtmlgkoeacbeopaaGreatDoorUb
set_option maxHeartbeats 800000
namespace Go.Proofs.YtmlgkoeacbeopaaGreatDoor
open Go.RowKit
structure Spn where
 low:Int
 high:Int
abbrev zo (s:Spn):Value:= .agg #[.int .i64 s.low,.int .i64 s.high]
def je (s:Spn):List Value:=[.int .i64 s.low,.int .i64 s.high]
def kE (n:Int):Bool:=decide (0≤n) && decide (n≤999999999)
def kF (s:Spn):Bool:=kE s.low && kE s.high
def setB (l:List Spn):Bool:=l.all kF && (decide (1≤l.length) && decide (l.length≤5))
def zR (a b:Int):Int:=if a < b then a else b
def aay (a b:Int):Int:=if b < a then a else b
def zp (x last:Int):Int:=if x=0 then last else x
def zS (x last:Int) (s:Spn):Bool:=decide (zR (zp s.low last) (zp s.high last)≤x) && decide (x≤aay (zp s.low last) (zp s.high last))
def inB (l:List Spn) (x last:Int):Bool:=l.any (zS x last)
def zq (k:Nat):List Int:=(List.range k).map fun (i:Nat)=>(i:Int)+1
def zt (l:List Spn) (n:Int):List Int:=(zq (zR n 999).toNat).filter fun x=>inB l x (zR n 999)
def yv:List Int→Int
 | []=>0
 | a::r=>(a::r).foldl aay a
def xZ (l:List Spn) (ids:List Int):List Int:=ids.filter fun x=>inB l x (yv ids)
theorem yw (k:Nat):zq (k+1)=zq k++[(k:Int)+1]:=by simp [zq,List.range_succ]
theorem d7 {α:Type} {p:α→Bool} {l:List α} {k:Nat} {x:α} (h:l[k]? =some x) (hp:p x=false):l.all p=false:=by
 rw [Bool.eq_false_iff]
 intro hc
 rw [List.all_eq_true] at hc
 rw [hc x (List.mem_of_getElem? h)] at hp
 cases hp
theorem aaz {α:Type} {p:α→Bool} {l:List α} {k:Nat} {x:α} (h:l[k]? =some x) (hp:p x=true):l.any p=true:=List.any_eq_true.2 ⟨x,List.mem_of_getElem? h,hp⟩
theorem jm {α:Type} {l:List α} {k:Nat} {x:α} (h:l[k]? =some x):l.take (k+1)=l.take k++[x]:=by
 obtain ⟨h1,h2⟩:=List.getElem?_eq_some_iff.1 h
 rw [List.take_succ_eq_append_getElem h1,h2]
theorem Rd.pair {w:World} {b off k:Nat} {l:List Spn} {x:Spn} (hc: ∀ i x,l[i]? =some x→ ∀ j u,(je x)[j]? =some u→w.cell? ⟨b,off+i * 2+j,none⟩=some u) (h:l[k]? =some x):
 w.cell? ⟨b,off+k * 2,none⟩=some (.int .i64 x.low)∧w.cell? ⟨b,off+k * 2+1,none⟩=some (.int .i64 x.high):=⟨hc k x h 0 _ rfl,hc k x h 1 _ rfl⟩
theorem ir (v:Value) (l:List Spn) (w:World) (hr:Rd 2 je w v l) (hl:l.length≤140737488355328):
 Calls Tryz.prog 55 #[v] w fun e w'=>e= .returned (.bool (setB l))∧w=w':=by
 obtain ⟨p,c,rfl,hp⟩:=hr.ex
 have HP:=aa9 hp
 clear hp hr
 go_enter Tryz.func55,Tryz.ntmps55
 go_wp2
 go_loop [3] (fun i=> ∃ k:Nat,k≤l.length∧i= .int .i64 k∧(l.take k).all kF=true) (fun i=>l.length - (intOf i).toNat)
 case atStart=>exact ⟨0,by omega,rfl,rfl⟩
 case round=>
  obtain ⟨k,hk,rfl,hall⟩:=hrel
  have Hall:=aa9 hall
  clear hall
  by_cases hlt:k < l.length
  · obtain ⟨b,off,rfl,hb1,hcell⟩:=HP.out.resolve_left (by intro h;subst h;simp at hlt)
    obtain ⟨x,hx⟩: ∃ x,l[k]? =some x:=⟨_,List.getElem?_eq_getElem hlt⟩
    obtain ⟨e1,e2⟩:=Rd.pair hcell hx
    have c1:=fun W=>bI x.low 0 999999999 W
    have c2:=fun W=>bI x.high 0 999999999 W
    cases h1:kE x.low with
    | false=>
      have HV:=aa9 (show setB l=false by unfold setB;rw [d7 hx (by unfold kF;rw [h1];rfl)];rfl)
      unfold kE at h1
      rw [h1] at c1
      have C1:=aa9 c1
      clear c1 c2 h1 hx hcell HP
      go_wp2_with fail
      refine (C1.out _).mono ?_
      rintro e w' ⟨rfl,rfl⟩
      go_wp2
      go_ret
      exact ⟨by rw [HV.out];rfl,rfl⟩
    | true=>
      have h1':=h1
      unfold kE at h1'
      rw [h1'] at c1
      have C1:=aa9 c1
      cases h2:kE x.high with
      | false=>
        have HV:=aa9 (show setB l=false by unfold setB;rw [d7 hx (by unfold kF;rw [h2];simp)];rfl)
        unfold kE at h2
        rw [h2] at c2
        have C2:=aa9 c2
        clear c1 c2 h1 h1' h2 hx hcell HP
        go_wp2_with fail
        refine (C1.out _).mono ?_
        rintro e w' ⟨rfl,rfl⟩
        go_wp2_with fail
        refine (C2.out _).mono ?_
        rintro e w' ⟨rfl,rfl⟩
        go_wp2
        go_ret
        exact ⟨by rw [HV.out];rfl,rfl⟩
      | true=>
        have HA:=aa9 (show (l.take (k+1)).all kF=true by rw [jm hx,List.all_append,Hall.out];simp [kF,h1,h2])
        unfold kE at h2
        rw [h2] at c2
        have C2:=aa9 c2
        clear c1 c2 h1 h1' h2 hx hcell HP
        go_wp2_with fail
        refine (C1.out _).mono ?_
        rintro e w' ⟨rfl,rfl⟩
        go_wp2_with fail
        refine (C2.out _).mono ?_
        rintro e w' ⟨rfl,rfl⟩
        go_wp2
        go_round
        case rel=>exact ⟨k+1,by omega,by go_num,HA.out⟩
        case measure=>simp [intOf];omega
  · obtain rfl:k=l.length:=by omega
    rw [List.take_length] at Hall
    have HV:=aa9 (show setB l=(decide ((1:Int)≤(l.length:Int)) && decide ((l.length:Int)≤5)) by
     unfold setB
     rw [Hall.out]
     have e1:(1≤l.length)=((1:Int)≤(l.length:Int)):=by rw [eq_iff_iff];omega
     have e2:(l.length≤5)=((l.length:Int)≤5):=by rw [eq_iff_iff];omega
     simp only [e1,e2,Bool.true_and])
    have C1:=aa9 (fun W=>bI (l.length:Int) 1 5 W)
    go_wp2_with fail
    refine (C1.out _).mono ?_
    rintro e w' ⟨rfl,rfl⟩
    go_wp2
    go_ret
    exact ⟨by rw [HV.out];rfl,rfl⟩
structure Cur (w:World) (g:Nat) (code:List UInt8):Prop where
 ex: ∃ (p:Option Addr) (cap i:Nat) (h:Int),w.cell? ⟨g,0,none⟩=some (.slice p code.length cap)∧w.cell? ⟨g,1,none⟩=some (.int .i64 i)∧w.cell? ⟨g,2,none⟩=some (.int .i64 h)∧i≤code.length∧
  (code=[]∨ ∃ b off,p=some ⟨b,off,none⟩∧b < g∧ ∀ j x,code[j]? =some x→w.cell? ⟨b,off+j,none⟩=some (bv x))
 free: ∀ j,w.frozen? ⟨g,j,none⟩=false
 few:code.length≤1000000000000000
theorem Cur.lt {w:World} {g:Nat} {code:List UInt8} (h:Cur w g code):g < w.heap.size:=by
 obtain ⟨_,_,_,_,h0,_⟩:=h.ex
 exact World.block_lt_of_cell? w _ h0
theorem Cur.of_block {w w':World} {g:Nat} {code:List UInt8} (h:Cur w g code) (hb: ∀ k,k < w.heap.size→w'.heap[k]? =w.heap[k]?):Cur w' g code:=by
 obtain ⟨p,cap,i,hh,h0,h1,h2,h3,h4⟩:=h.ex
 have hg:=h.lt
 refine ⟨⟨p,cap,i,hh,(World.cell?_of_block (hb g hg)).trans h0,(World.cell?_of_block (hb g hg)).trans h1,(World.cell?_of_block (hb g hg)).trans h2,h3,?_⟩,fun j=>(World.frozen?_of_block (hb g hg)).trans (h.free j),h.few⟩
 rcases h4 with h4 | ⟨b,off,e1,e2,e4⟩
 · exact .inl h4
 · exact .inr ⟨b,off,e1,e2,fun j x hx=>(World.cell?_of_block (hb b (by omega))).trans (e4 j x hx)⟩
theorem Cur.below {w w':World} {g:Nat} {code:List UInt8} (h:Cur w g code) (hb:Below w.heap.size w w'):Cur w' g code:=h.of_block hb.block
theorem Cur.grown {w w':World} {g:Nat} {code:List UInt8} {row:Option Nat} (h:Cur w g code) (hg:w.grownBy w' row) (hr: ∀ k,row=some k→g < k):Cur w' g code:=by
 obtain ⟨p,cap,i,hh,h0,h1,h2,h3,h4⟩:=h.ex
 have hlt:=h.lt
 have hb: ∀ k,k≤g→w'.heap[k]? =w.heap[k]? :=fun k hk=>hg.block k (by omega) (fun e=>by have:=hr k e.symm;omega)
 have hgb:=hb g (Nat.le_refl _)
 refine ⟨⟨p,cap,i,hh,(World.cell?_of_block (a:=⟨g,0,none⟩) hgb).trans h0,(World.cell?_of_block (a:=⟨g,1,none⟩) hgb).trans h1,(World.cell?_of_block (a:=⟨g,2,none⟩) hgb).trans h2,h3,?_⟩,fun j=>(World.frozen?_of_block (a:=⟨g,j,none⟩) hgb).trans (h.free j),h.few⟩
 rcases h4 with h4 | ⟨b,off,e1,e2,e4⟩
 · exact .inl h4
 · exact .inr ⟨b,off,e1,e2,fun j x hx=>(World.cell?_of_block (a:=⟨b,off+j,none⟩) (hb b (by omega))).trans (e4 j x hx)⟩
theorem mY {b o o':Nat} (h:o ≠ o'):(⟨b,o,none⟩:Addr) ≠ ⟨b,o',none⟩:=by intro e;injection e with _ e2;exact h e2
theorem qW {b b' o o':Nat} (h:b ≠ b'):(⟨b,o,none⟩:Addr) ≠ ⟨b',o',none⟩:=by intro e;injection e with e1;exact h e1
theorem wM (w:World) (a:Addr) (v:Value):(w.setCell a v).heap.size=w.heap.size:=by simp [World.setCell]
theorem Cur.setH {w:World} {g:Nat} {code:List UInt8} (hc:Cur w g code) (h':Int):Cur (w.setCell ⟨g,2,none⟩ (.int .i64 h')) g code:=by
 obtain ⟨p,cap,i,hh,h0,h1,h2,h3,h4⟩:=hc.ex
 refine ⟨⟨p,cap,i,h',(World.cell?_setCell_other w _ _ _ (mY (by omega))).trans h0,(World.cell?_setCell_other w _ _ _ (mY (by omega))).trans h1,World.cell?_setCell_same w _ _ h2,h3,?_⟩,fun j=>by simpa using hc.free j,hc.few⟩
 rcases h4 with h4 | ⟨b,off,e1,e2,e4⟩
 · exact .inl h4
 · exact .inr ⟨b,off,e1,e2,fun j x hx=>(World.cell?_setCell_other w _ _ _ (qW (by omega))).trans (e4 j x hx)⟩
theorem Cur.setI {w:World} {g:Nat} {code:List UInt8} (hc:Cur w g code) (i':Nat) (hi:i'≤code.length):Cur (w.setCell ⟨g,1,none⟩ (.int .i64 i')) g code:=by
 obtain ⟨p,cap,i,hh,h0,h1,h2,h3,h4⟩:=hc.ex
 refine ⟨⟨p,cap,i',hh,(World.cell?_setCell_other w _ _ _ (mY (by omega))).trans h0,World.cell?_setCell_same w _ _ h1,(World.cell?_setCell_other w _ _ _ (mY (by omega))).trans h2,hi,?_⟩,fun j=>by simpa using hc.free j,hc.few⟩
 rcases h4 with h4 | ⟨b,off,e1,e2,e4⟩
 · exact .inl h4
 · exact .inr ⟨b,off,e1,e2,fun j x hx=>(World.cell?_setCell_other w _ _ _ (qW (by omega))).trans (e4 j x hx)⟩
theorem Cur.drew {w:World} {g:Nat} {code:List UInt8} (hc:Cur w g code):Cur w.drew g code:=⟨hc.ex,hc.free,hc.few⟩
def qX (g:Nat) (code:List UInt8) (w:World) (e:Ending) (w':World):Prop:= ∃ x:Nat,e= .returned (.int .i64 x)∧x≤255∧Cur w' g code∧w.grownBy w' (some g)
theorem qX.mk {g:Nat} {code:List UInt8} {w w':World} {v:Int} (h0:0≤v) (h1:v≤255) (hc:Cur w' g code) (hg:w.grownBy w' (some g)):qX g code w (.returned (.int .i64 v)) w':=
 ⟨v.toNat,by rw [Int.toNat_of_nonneg h0],by omega,hc,hg⟩
theorem kG {w w1 w2:World} {row row':Option Nat} (h:w.grownBy w1 row) (hg:w1.grownBy w2 row') (hr: ∀ k,row'=some k→w.heap.size≤k):w.grownBy w2 row:=
 ⟨hg.os.trans h.os,hg.tape.trans h.tape,hg.output.trans h.output,Nat.le_trans h.size hg.size,fun k hk hne=>(hg.block k (Nat.lt_of_lt_of_le hk h.size) (fun e=>by have:=hr k e.symm;omega)).trans (h.block k hk hne)⟩
theorem vh {w w1:World} {row:Option Nat} (h:Below w.heap.size w w1):w.grownBy w1 row:=⟨h.os,h.tape,h.output,h.size,fun k hk _=>h.block k hk⟩
theorem yx {W w w1:World} {g B:Nat} (h:Below B W w) (hg:w.grownBy w1 (some g)) (hB:B≤w.heap.size) (hgB:B≤g):Below B W w1:=h.grown hg hB (fun k hk=>by injection hk with hk;omega)
theorem xp {w a b:World} {row:Option Nat} (h:w.grownBy a row) (k:a.grownBy b row):w.grownBy b row:=
 ⟨k.os.trans h.os,k.tape.trans h.tape,k.output.trans h.output,Nat.le_trans h.size k.size,fun i hi hne=>(k.block i (Nat.lt_of_lt_of_le hi h.size) hne).trans (h.block i hi hne)⟩
def bW (n:Int):Prop:= -9223372036854775808≤n∧n≤9223372036854775807
def aaA (g:Nat) (code:List UInt8) (w:World) (e:Ending) (w':World):Prop:= ∃ n:Int,e= .returned (.int .i64 n)∧bW n∧Cur w' g code∧w.grownBy w' (some g)
theorem ya: ∀ x∈([0,1,-1,9,10,999999999,1000000000,9223372036854775807,-9223372036854775808]:List Int),-9223372036854775808≤x∧x≤9223372036854775807:=by decide
end Go.Proofs.YtmlgkoeacbeopaaGreatDoor
namespace Go.Proofs.YtmlgkoeacbeopaaGreatDoor
open Go.RowKit
open Go.Lib (decDigits itoa)
structure Tok where
 kind:Int
 text:List UInt8
abbrev mj (t:Tok):Value:= .agg #[.int .i64 t.kind,sv t.text]
def lM (a b:Tok):Bool:=a.kind != 3 && b.kind != 4
theorem og (a b:Tok) (w:World):
 Calls Tryz.prog 91 #[mj a,mj b] w fun e w'=>e= .returned (.bool (lM a b))∧Below w.heap.size w w':=by
 cases h1:(a.kind != 3) with
 | false=>
   have hg:=aa9 (show lM a b=false by unfold lM;rw [h1];rfl)
   go_enter Tryz.func91,Tryz.ntmps91
   go_wp2
   go_ret
   exact ⟨by rw [hg.out];rfl,((Below.refl _ _).alloc (Nat.le_refl _) _).alloc (by simp) _⟩
 | true=>
   have hg:=aa9 (show lM a b=(b.kind != 4) by unfold lM;rw [h1];rfl)
   go_enter Tryz.func91,Tryz.ntmps91
   go_wp2
   go_ret
   exact ⟨by rw [hg.out];rfl,((Below.refl _ _).alloc (Nat.le_refl _) _).alloc (by simp) _⟩
def yb (l:List UInt8):List UInt8:=if l.length≤40 then [123]++decDigits l.length++[125,13,10]++l else []
theorem xq (l:List UInt8):(yb l).length≤100:=by
 unfold yb
 split
 · have:=bR l.length (by omega)
   simp;omega
 · simp
def bF (t:Tok):List UInt8:=
 if t.kind=1 then (if dE t.text=true then t.text else [])
 else if t.kind=2 then (if fD t.text=[] then yb t.text else fD t.text)
 else if t.kind=3 then (if t.text=[] then [40] else [])
 else if t.kind=4 then (if t.text=[] then [41] else [])
 else []
def dh (t:Tok):List Value:=[.int .i64 t.kind,sv t.text]
def wN:Option Tok→Tok→List UInt8
 | none,_=>[]
 | some a,t=>if lM a t=true then [32] else []
def bX:Option Tok→List Tok→List UInt8
 | _,[]=>[]
 | p,t::r=>wN p t++bF t++bX (some t) r
def eR (l:List Tok):Bool:=l.all fun t=> !(bF t).isEmpty
def tu (l:List Tok):List UInt8:=if eR l=true then bX none l else []
def cV (p:Option Tok):List Tok→Option Tok
 | []=>p
 | t::r=>cV (some t) r
theorem it: ∀ (l:List Tok) (p:Option Tok) (t:Tok),bX p (l++[t])=bX p l++(wN (cV p l) t++bF t)
 | [],p,t=>by simp [bX,cV]
 | x::l,p,t=>by simp [bX,cV,it l (some x) t]
theorem eb: ∀ (l:List Tok) (p:Option Tok) (t:Tok),cV p (l++[t])=some t
 | [],_,_=>rfl
 | x::l,_,t=>eb l (some x) t
theorem rN (t:Tok):(bF t).length≤100:=by
 unfold bF
 split
 · split
   · rename_i h;unfold dE at h;simp only [Bool.and_eq_true,decide_eq_true_eq] at h;omega
   · simp
 split
 · split
   · exact xq _
   · have:=sX t.text;omega
 split
 · split <;> simp
 split
 · split <;> simp
 · simp
theorem mZ {a t:Tok} (h:lM a t=true):wN (some a) t=[32]:=by show (if lM a t=true then _ else _)=_;rw [if_pos h]
theorem tv {a t:Tok} (h:lM a t=false):wN (some a) t=[]:=by show (if lM a t=true then _ else _)=_;rw [h];rfl
theorem xr (p:Option Tok) (t:Tok):(wN p t).length≤1:=by
 unfold wN;split
 · simp
 · split <;> simp
theorem m5 {l:List Tok} {k:Nat} {t:Tok} (h:l[k]? =some t):l.take (k+1)=l.take k++[t]:=by
 obtain ⟨h1,h2⟩:=List.getElem?_eq_some_iff.1 h
 rw [List.take_succ_eq_append_getElem h1,h2]
theorem zu {l:List Tok} {k:Nat} {t:Tok} (h:l[k]? =some t) (he:bF t=[]):tu l=[]:=by
 unfold tu eR
 rw [if_neg]
 intro hc
 rw [List.all_eq_true] at hc
 have:=hc t (List.mem_of_getElem? h)
 rw [he] at this
 cases this
def zT (l:List Tok) (k:Nat) (acc:List UInt8):Prop:=acc=bX none (l.take k)∧eR (l.take k)=true∧acc.length≤101 * k
theorem zT.step {l:List Tok} {k:Nat} {acc:List UInt8} {t:Tok} (h:zT l k acc) (ht:l[k]? =some t) (he: ¬bF t=[]) (hp:cV none (l.take k)=(if k=0 then none else l[k - 1]?)):
 zT l (k+1) (acc++wN (if k=0 then none else l[k - 1]?) t++bF t):=by
 obtain ⟨h1,h2,h3⟩:=h
 refine ⟨?_,?_,?_⟩
 · rw [m5 ht,it,hp,h1,List.append_assoc]
 · rw [m5 ht]
   unfold eR at *
   rw [List.all_append,h2]
   cases hh:bF t with
   | nil=>exact absurd hh he
   | cons a r=>simp [hh]
 · have:=rN t
   have:=xr (if k=0 then none else l[k - 1]?) t
   simp only [List.length_append];omega
theorem yy (l:List Tok) (k:Nat) (hk:k≤l.length):cV none (l.take k)=(if k=0 then none else l[k - 1]?):=by
 cases k with
 | zero=>simp [cV]
 | succ j=>
   have hj:l[j]? =some (l[j]'(by omega)):=List.getElem?_eq_getElem (by omega)
   rw [m5 hj,eb,if_neg (by omega),Nat.add_sub_cancel,hj]
end Go.Proofs.YtmlgkoeacbeopaaGreatDoor
namespace Go.Proofs.YtmlgkoeacbeopaaGreatDoor
open Go.RowKit
theorem Tryz.el_spn:lP Tryz.prog 24 62 2 16:=lP.mk' (z:= .agg #[.int .i64 0,.int .i64 0]) Tryz.underlying24 (by kernel_rfl) rfl (by omega)
def rgS (s:Spn):Prop:=bW s.low∧bW s.high
theorem yz {a b:Int} (h1:0≤a) (h2:a≤1000) (h3:0≤b) (h4:b≤1000):rgS ⟨a,b⟩:=⟨⟨by show -9223372036854775808≤a;omega,by show a≤9223372036854775807;omega⟩,by show -9223372036854775808≤b;omega,by show b≤9223372036854775807;omega⟩
theorem zv {l:List Spn} {s:Spn} (h: ∀ t∈l,rgS t) (hs:rgS s): ∀ t∈l++[s],rgS t:=by
 intro t ht
 rcases List.mem_append.1 ht with ht | ht
 · exact h t ht
 · rw [List.mem_singleton.1 ht];exact hs
def yA (m:Nat) (g:Nat) (code:List UInt8) (w:World) (e:Ending) (w':World):Prop:= ∃ (v:Value) (n:Nat) (l:List Spn),e= .returned v∧n=l.length∧n≤m∧(∀ t∈l,rgS t)∧w'.ownsRow w.heap.size 62 2 v n (l.flatMap je)∧Cur w' g code∧w.grownBy w' (some g)
theorem kH {w w1:World} {row:Option Nat} {b:Nat} (h:w.grownBy w1 row) (hb:w.heap.size≤b) (j:Nat) (v:Value):w.grownBy (w1.setCell ⟨b,j,none⟩ v) row:=
 kG h (⟨rfl,rfl,rfl,by simp,fun k _ hne=>Below.heap_setCell w1 _ v k (by intro e;subst e;exact hne rfl)⟩:w1.grownBy (w1.setCell ⟨b,j,none⟩ v) (some b)) (fun k hk=>by injection hk with hk;omega)
theorem Cur.put {w:World} {g b:Nat} {code:List UInt8} (h:Cur w g code) (hb:g < b) (j:Nat) (v:Value):Cur (w.setCell ⟨b,j,none⟩ v) g code:=
 h.grown (⟨rfl,rfl,rfl,by simp,fun k _ hne=>Below.heap_setCell w _ v k (by intro e;subst e;exact hne rfl)⟩:w.grownBy (w.setCell ⟨b,j,none⟩ v) (some b)) (fun k hk=>by injection hk with hk;omega)
theorem zw {w w1:World} {B g n s:Nat} {e:TypeId} {v:Value} {xs:List Value} (h:w.ownsRow B e s v n xs) (hB:g < B) (hg:w.grownBy w1 (some g)):w1.ownsRow B e s v n xs:=
 h.kept hg (by
  by_cases hv1:v.ownBlock=none
  · exact .inl hv1
  · right
    intro e
    have:=(h.lt g e).1
    omega)
theorem fO {w:World} {B n s b j:Nat} {e:TypeId} {v x:Value} {xs:List Value} (h:w.ownsRow B e s v n xs) (hb: ∀ k,v.ownBlock=some k→k < b):(w.setCell ⟨b,j,none⟩ x).ownsRow B e s v n xs:=
 h.kept (⟨rfl,rfl,rfl,by simp,fun k _ hne=>Below.heap_setCell w _ x k (by intro e;subst e;exact hne rfl)⟩:w.grownBy (w.setCell ⟨b,j,none⟩ x) (some b)) (by
  by_cases hv1:v.ownBlock=none
  · exact .inl hv1
  · right
    intro e
    have:=hb b e
    omega)
def aa7:Value→Nat | .slice _ n _=>n | _=>0
theorem oh {w:World} {B n size:Nat} {e:TypeId} {v:Value} {xs:List Value} (h:w.ownsRow B e size v n xs): ∃ p c,v= .slice p n c:=by
 rcases h.2 with ⟨hv,h0⟩ | ⟨g,cap,cur,hv,_⟩
 · exact ⟨none,0,by rw [hv,h0]⟩
 · exact ⟨_,cap,hv⟩
def szN (left n:Nat):Int:=if n≤left then ((left - n:Nat):Int) else -1
theorem m6 {left n:Nat} (h:n≤left):szN left n=((left - n:Nat):Int):=if_pos h
theorem oi {left n:Nat} (h: ¬n≤left):szN left n= -1:=if_neg h
mutual
def aL:Lf→Nat
 | .int _=>1
 | .bool _=>1
 | .str _=>1
 | .rows _ _ _ flat=>aW flat
def aW:List Lf→Nat
 | []=>0
 | x::xs=>aL x+aW xs
end
theorem bZ: ∀ (a b:List Lf),aW (a++b)=aW a+aW b
 | [],b=>by simp [aW]
 | x::a,b=>by simp [aW,bZ a b];omega
mutual
theorem gp: ∀ (x:Lf) (k:Nat),(aX x k).2=k+aL x
 | .int _,k=>rfl
 | .bool _,k=>rfl
 | .str _,k=>rfl
 | .rows _ _ _ flat,k=>by simp only [aX,aL];exact jn flat k
theorem jn: ∀ (xs:List Lf) (k:Nat),(aO xs k).2=k+aW xs
 | [],k=>rfl
 | x::xs,k=>by simp only [aO,aW];rw [jn xs,gp x];omega
end
theorem kf (n:Int):co (.int n)=0:=rfl
theorem oj (b:Bool):co (.bool b)=0:=rfl
theorem m7 (l:List UInt8):co (.str l)=l.length:=rfl
theorem iu (n:Int):aL (.int n)=1:=rfl
theorem ml (b:Bool):aL (.bool b)=1:=rfl
theorem kI (l:List UInt8):aL (.str l)=1:=rfl
theorem gq (n:Int) (k:Nat):aX (.int n) k=(.int (k:Int),k+1):=rfl
theorem kJ (b:Bool) (k:Nat):aX (.bool b) k=(.bool (k % 3==0),k+1):=rfl
theorem jo (l:List UInt8) (k:Nat):aX (.str l) k=(.str (cA k),k+1):=rfl
mutual
def kK:Lf→Prop
 | .int n=>bW n
 | .bool _=>True
 | .str l=>l.length≤9223372036854775807
 | .rows _ _ n flat=>n≤9223372036854775807∧bs flat
def bs:List Lf→Prop
 | []=>True
 | x::xs=>kK x∧bs xs
end
theorem bs.append: ∀ {a b:List Lf},bs (a++b)↔bs a∧bs b
 | [],_=>⟨fun h=>⟨trivial,h⟩,fun h=>h.2⟩
 | _::_,_=>⟨fun h=>⟨⟨h.1,(bs.append.1 h.2).1⟩,(bs.append.1 h.2).2⟩,fun h=>⟨h.1.1,bs.append.2 ⟨h.1.2,h.2⟩⟩⟩
theorem bs.flat {α:Type} {enc:α→List Lf} : ∀ {l:List α},bs (l.flatMap enc)→ ∀ x∈l,bs (enc x)
 | [],_,x,h=>by cases h
 | a::l,hb,x,h=>by
   rw [List.flatMap_cons] at hb
   obtain ⟨h1,h2⟩:=bs.append.1 hb
   rcases List.mem_cons.1 h with rfl | h
   · exact h1
   · exact bs.flat h2 x h
theorem gu (a b:List Lf) (k:Nat):(aO (a++b) k).1=(aO a k).1++(aO b (k+aW a)).1:=by rw [ij,jn]
mutual
def m8:Lf→Prop
 | .rows _ m n flat=>m≤32∧flat.length=n * m∧ec flat
 | _=>True
def ec:List Lf→Prop
 | []=>True
 | x::xs=>m8 x∧ec xs
end
theorem ec.append: ∀ {a b:List Lf},ec a→ec b→ec (a++b)
 | [],_,_,h=>h
 | _::_,_,h,h2=>⟨h.1,ec.append h.2 h2⟩
theorem ec.flat {α:Type} {enc:α→List Lf} (h: ∀ x,ec (enc x)): ∀ l:List α,ec (l.flatMap enc)
 | []=>trivial
 | a::l=>by rw [List.flatMap_cons];exact ec.append (h a) (ec.flat h l)
mutual
theorem vz: ∀ (x:Lf),m8 x→aL x≤1+32 * co x
 | .int _,_=>by simp [aL,co]
 | .bool _,_=>by simp [aL,co]
 | .str _,_=>by simp only [aL,co];omega
 | .rows _ m n flat,h=>by
   obtain ⟨h1,h2,h3⟩:=h
   have:=m9 flat h3
   simp only [aL,co]
   have h4:n * m≤n * 32:=Nat.mul_le_mul_left n h1
   omega
theorem m9: ∀ (xs:List Lf),ec xs→aW xs≤xs.length+32 * bg xs
 | [],_=>by simp [aW,bg]
 | x::xs,h=>by
   have h1:=vz x h.1
   have h2:=m9 xs h.2
   simp only [aW,bg,List.length_cons]
   omega
end
theorem fP {e:TypeId} {m n:Nat} {flat:List Lf} (h:m8 (.rows e m n flat)):aL (.rows e m n flat)≤32 * co (.rows e m n flat):=by
 obtain ⟨h1,h2,h3⟩:=h
 have:=m9 flat h3
 simp only [aL,co]
 have h4:n * m≤n * 32:=Nat.mul_le_mul_left n h1
 omega
theorem lV {α:Type} (enc:α→List Lf) (l:List α) (j:Nat):bg ((l.take j).flatMap enc)≤bg (l.flatMap enc):=by
 have:l.flatMap enc=(l.take j).flatMap enc++(l.drop j).flatMap enc:=by rw [←List.flatMap_append,List.take_append_drop]
 rw [this,cC]
 omega
theorem cD {α:Type} (enc:α→List Lf) (l:List α) (j:Nat):aW ((l.take j).flatMap enc)≤aW (l.flatMap enc):=by
 have:l.flatMap enc=(l.take j).flatMap enc++(l.drop j).flatMap enc:=by rw [←List.flatMap_append,List.take_append_drop]
 rw [this,bZ]
 omega
theorem bC {α:Type} (enc:α→List Lf) {l:List α} {j:Nat} {x:α} (h:l[j]? =some x):(l.take (j+1)).flatMap enc=(l.take j).flatMap enc++enc x:=by
 obtain ⟨h1,h2⟩:=List.getElem?_eq_some_iff.1 h
 rw [List.take_succ_eq_append_getElem h1,h2,List.flatMap_append,List.flatMap_singleton]
theorem dy {α:Type} (enc:α→List Lf) {l:List α} {x:α} (h:x∈l):bg (enc x)≤bg (l.flatMap enc):=by
 induction l with
 | nil=>cases h
 | cons a l ih=>
   rw [List.flatMap_cons,cC]
   rcases List.mem_cons.1 h with rfl | h
   · omega
   · have:=ih h;omega
theorem yB {α:Type} (enc:α→List Lf) {l:List α} {x:α} (h:x∈l):aW (enc x)≤aW (l.flatMap enc):=by
 induction l with
 | nil=>cases h
 | cons a l ih=>
   rw [List.flatMap_cons,bZ]
   rcases List.mem_cons.1 h with rfl | h
   · omega
   · have:=ih h;omega
def lW {α:Type} (enc:α→List Lf):List α→Nat→List (List Lf)
 | [],_=>[]
 | a::l,k=>(aO (enc a) k).1::lW enc l (k+aW (enc a))
theorem jS {α:Type} (enc:α→List Lf): ∀ (l:List α) (k:Nat),(lW enc l k).length=l.length
 | [],_=>rfl
 | a::l,k=>by simp [lW,jS enc l]
theorem mm {α:Type} (enc:α→List Lf): ∀ (l:List α) (k:Nat),(lW enc l k).flatMap id=(aO (l.flatMap enc) k).1
 | [],_=>by simp [lW,aO]
 | a::l,k=>by rw [List.flatMap_cons,gu];simp only [lW,List.flatMap_cons,mm enc l,id]
theorem kL {α:Type} (enc:α→List Lf): ∀ (l:List α) (k j:Nat) (x:α),l[j]? =some x→(lW enc l k)[j]? =some (aO (enc x) (k+aW ((l.take j).flatMap enc))).1
 | [],k,j,x,h=>by simp at h
 | a::l,k,0,x,h=>by simp only [List.getElem?_cons_zero,Option.some.injEq] at h;subst h;simp [lW,aW]
 | a::l,k,j+1,x,h=>by
   simp only [List.getElem?_cons_succ] at h
   have:=kL enc l (k+aW (enc a)) j x h
   simp only [lW,List.getElem?_cons_succ,List.take_succ_cons,List.flatMap_cons,bZ]
   rw [this,Nat.add_assoc]
theorem dG {W:World} {α:Type} {enc:α→List Lf} {e:TypeId} {m:Nat} (hm: ∀ x,(enc x).length=m) {l:List α} {v:Value} {k:Nat} (h:az W (aX (.rows e m l.length (l.flatMap enc)) k).1 v):
 ∃ p cap,v= .slice p l.length cap∧(l=[]∨ ∃ b off,p=some ⟨b,off,none⟩∧b < W.heap.size∧ ∀ i x,l[i]? =some x→ ∃ us,di W (aO (enc x) (k+aW ((l.take i).flatMap enc))).1 us∧ ∀ j u,us[j]? =some u→W.cell? ⟨b,off+i * m+j,none⟩=some u):=by
 simp only [aX] at h
 rw [←mm] at h
 obtain ⟨hl,p,cap,hv,h⟩:=h
 refine ⟨p,cap,hv,?_⟩
 rcases h with h0 | ⟨b,off,hp,hlt,xs,hc,hx⟩
 · exact .inl (List.eq_nil_of_length_eq_zero h0)
 · refine .inr ⟨b,off,hp,hlt,fun i x hi=> ?_⟩
   have hlen: ∀ y∈lW enc l k,y.length=m:=by
    intro y hy
    obtain ⟨i,hi,rfl⟩:=List.getElem_of_mem hy
    have hi2:i < l.length:=by rwa [jS] at hi
    have:=kL enc l k i l[i] (List.getElem?_eq_getElem hi2)
    rw [List.getElem?_eq_getElem hi] at this
    rw [Option.some.inj this,cY,hm]
   have key: ∀ (els:List (List Lf)) (xs:List Value),(∀ y∈els,y.length=m)→di W (els.flatMap id) xs→ ∀ i y,els[i]? =some y→ ∃ us,di W y us∧ ∀ j u,us[j]? =some u→xs[i * m+j]? =some u:=by
    intro els
    induction els with
    | nil=>intro xs _ _ i y h;simp at h
    | cons a els ih=>
      intro xs hall h i y hy
      rw [List.flatMap_cons] at h
      obtain ⟨u1,u2,rfl,h1,h2⟩:=di.append.1 h
      have hl:=di.length h1
      rw [show (id a).length=m from hall a (by simp)] at hl
      cases i with
      | zero=>
        simp only [List.getElem?_cons_zero,Option.some.injEq] at hy
        subst hy
        refine ⟨u1,h1,fun j u hu=> ?_⟩
        rw [Nat.zero_mul,Nat.zero_add,List.getElem?_append_left (List.getElem?_eq_some_iff.1 hu).1]
        exact hu
      | succ i=>
        simp only [List.getElem?_cons_succ] at hy
        obtain ⟨us,h3,h4⟩:=ih u2 (fun y hy=>hall y (by simp [hy])) h2 i y hy
        refine ⟨us,h3,fun j u hu=> ?_⟩
        have:=h4 j u hu
        rw [List.getElem?_append_right (by rw [hl,Nat.succ_mul];omega),show (i+1) * m+j - u1.length=i * m+j by rw [hl,Nat.succ_mul];omega]
        exact this
   obtain ⟨us,h1,h2⟩:=key _ xs hlen hx i _ (kL enc l k i x hi)
   exact ⟨us,h1,fun j u hu=>by have:=hc _ u (h2 j u hu);rwa [←Nat.add_assoc] at this⟩
theorem yC {A L:List Value} {i:Nat} (hA:A.length=i) (c:Nat):(A++L)[i+c]? =L[c]? :=by
 rw [List.getElem?_append_right (by omega),hA,Nat.add_sub_cancel_left]
theorem jT {W:World} {B g n cp i m:Nat} {e:TypeId} {A L:List Value} (h:W.ownsRow B e m (.slice (some ⟨g,0,none⟩) n cp) n (A++L)) (hA:A.length=i) (c:Nat) (u:Value):
 (W.setCell ⟨g,i+c,none⟩ u).ownsRow B e m (.slice (some ⟨g,0,none⟩) n cp) n (A++L.set c u):=by
 have h1:=(h.stored (i+c) u).1
 rwa [List.set_append_right _ _ (by omega),hA,Nat.add_sub_cancel_left] at h1
theorem dQ {W:World} {B g n cp i m:Nat} {e:TypeId} {A L:List Value} (h:W.ownsRow B e m (.slice (some ⟨g,0,none⟩) n cp) n (A++L)) (hA:A.length=i) (c:Nat) (x:Value) (hx:L[c]? =some x):
 W.cell? ⟨g,i+c,none⟩=some x:=by
 have hl:(A++L).length=n * m:=h.1
 have hc:c < L.length:=(List.getElem?_eq_some_iff.1 hx).1
 rw [h.cellAt (i+c) (by rw [←hl];simp;omega),yC hA,hx]
theorem er {W:World} {B g n cp m:Nat} {e:TypeId} {xs:List Value} (h:W.ownsRow B e m (.slice (some ⟨g,0,none⟩) n cp) n xs) (j:Nat):W.frozen? ⟨g,j,none⟩=false:=h.frozenAt j
theorem au.set {W:World} {x:Lf} {v:Value} {fp:List Nat} {g i:Nat} {u:Value} (h:au W x v fp) (hg:g ∉ fp):au (W.setCell ⟨g,i,none⟩ u) x v fp:=
 h.frame x v fp (fun k hk=>Below.heap_setCell W _ u k (by intro e;exact hg (by rw [←show k=g from e];exact hk)))
theorem au.away {W W':World} {x:Lf} {v:Value} {fp fq:List Nat} (h:au W x v fp) (hg:ac W W' fq) (hd: ∀ k∈fp,k ∉ fq):au W' x v fp:=
 h.frame x v fp (fun k hk=>hg.block k (au.lt x v fp h k hk) (hd k hk))
theorem au.below {W W':World} {x:Lf} {v:Value} {fp:List Nat} (h:au W x v fp) (hb:Below W.heap.size W W'):au W' x v fp:=
 h.frame x v fp (fun k hk=>hb.block k (au.lt x v fp h k hk))
theorem au.slice {W:World} {e:TypeId} {m n:Nat} {flat:List Lf} {v:Value} {fp:List Nat} (h:au W (.rows e m n flat) v fp): ∃ p c,v= .slice p n c:=by
 obtain ⟨p,c,hv,_⟩:=(au.rd _ _ _ h).2
 exact ⟨p,c,hv⟩
theorem az.slice {W:World} {e:TypeId} {m n:Nat} {flat:List Lf} {v:Value} (h:az W (.rows e m n flat) v): ∃ p c,v= .slice p n c:=by
 obtain ⟨p,c,hv,_⟩:=h.2
 exact ⟨p,c,hv⟩
theorem pV (l:List UInt8):Lib.strCells ⟨l.toArray⟩=l.map bv:=by simp [Lib.strCells]
theorem gU {P:Program} {w:World} {ops:Array Oper} {rest:List Oper} {o:Oper} {a:Act} {t u e:TypeId} {Q:Exit→Act→World→Prop} (E:lP P t e 1 1) (hu:P.underlying u=some .string) (hz0:(P.info? e).bind (·.zero)=some (.int .u8 0)) (hgd:o.guard=none) (sl x:Operand)
 (ho:o.op= .call { callee:= .builtin .append,args:= #[sl,x],argTypes:= #[t,u] }) (B:Nat) (W:World) (hb:Below B W w) (hB:B≤w.heap.size)
 (v:Value) (n:Nat) (xs:List Value) (hs:a.eval sl=v) (hown:w.ownsRow B e 1 v n xs) (s:List UInt8) (hx:a.eval x=sv s) (hbytes:n+s.length≤140737488355328)
 (h: ∀ v' w',w'.ownsRow B e 1 v' (n+s.length) (xs++s.map bv)→Below B W w'→w.grownBy w' v.ownBlock→wpList P ops Q rest (a.put o.dst v') w'):wpList P ops Q (o::rest) a w:=by
 obtain ⟨ht,⟨i,z,hi,hz,h2,h3,h4⟩,hp⟩:=E
 rw [hi] at hz0
 have hsz:(ByteArray.mk s.toArray).size=s.length:=by show s.toArray.size=_;simp
 refine Lib.wpList_append_own_string w hgd sl x t u ho B e i ht hu hi hz0 h2 h3 v n xs hs hown ⟨s.toArray⟩ hx (by unfold maxLen;omega) (by omega) hB ?_
 intro v' w' k1 k2 _
 rw [pV,hsz] at k1
 exact h v' w' k1 (hb.grown k2 hB (fun k hk=>(hown.lt k hk).1)) k2
def szl (l:List (List UInt8)):Nat:=(l.map fun x=>x.length).foldr (· + ·) 0
theorem qY (l:List (List UInt8)) (x:List UInt8):szl (l++[x])=szl l+x.length:=by
 induction l with
 | nil=>simp [szl]
 | cons a l ih=>simp only [szl,List.cons_append,List.map_cons,List.foldr_cons] at ih ⊢;omega
theorem vA (l:List (List UInt8)) (k:Nat):szl (l.take k)≤szl l:=by
 induction l generalizing k with
 | nil=>simp
 | cons a l ih=>
   cases k with
   | zero=>simp [szl]
   | succ k=>have:=ih k;simp only [szl,List.take_succ_cons,List.map_cons,List.foldr_cons] at this ⊢;omega
theorem ol (l:List (List UInt8)) (x sep:List UInt8):Lib.join (l++[x]) sep=if l=[] then x else Lib.join l sep++sep++x:=by
 cases l with
 | nil=>simp [Lib.join_one]
 | cons a r=>
   rw [if_neg (by simp),List.cons_append,Lib.join_cons,Lib.join_cons]
   simp [Lib.joinTail]
theorem kM (sep:List UInt8) (l:List (List UInt8)):(Lib.join l sep).length≤szl l+l.length * sep.length:=by
 induction l using ko with
 | nil=>simp [Lib.join_nil]
 | snoc l x ih=>
   rw [ol,qY,List.length_append,Nat.add_mul]
   split
   · simp;omega
   · simp only [List.length_append,List.length_singleton,Nat.one_mul];omega
theorem lX (v:Value) (l:List (List UInt8)) (sep:List UInt8) (w:World) (hr:Rd1 sv w v l) (hl:l.length+szl l≤1048576) (hs:sep.length≤1048576):
 Calls Tryz.prog 159 #[v,sv sep] w fun e w'=>e= .returned (sv (Lib.join l sep))∧Below w.heap.size w w':=by
 obtain ⟨p,c,rfl,hp⟩:=hr.ex
 have HP:=aa9 hp
 clear hp hr
 go_enter Tryz.func159,Tryz.ntmps159
 go_wp2
 go_loopw [5,6] (fun b i wr=> ∃ j:Nat,j≤l.length∧i= .int .i64 j∧wr.ownsRow w.heap.size 5 1 b (Lib.join (l.take j) sep).length ((Lib.join (l.take j) sep).map bv)∧Below w.heap.size w wr) (fun _ i _=>l.length - (intOf i).toNat)
 case atStart=>exact ⟨0,by omega,rfl,by simpa [Lib.join_nil] using World.ownsRow_made w #[] 0 (Nat.le_refl _) (by unfold maxLen;omega) rfl,(Below.refl _ _).alloc (Nat.le_refl _) _⟩
 case round=>
  obtain ⟨j,hj,rfl,hown,hbr⟩:=hrel
  have hbr0:=hbr.size
  by_cases hlt:j < l.length
  · obtain ⟨b,o,rfl,hb1,hc1⟩:=HP.out.resolve_left (by intro h;subst h;simp at hlt)
    obtain ⟨x,hx⟩: ∃ x,l[j]? =some x:=⟨_,List.getElem?_eq_getElem hlt⟩
    have e0:w.cell? ⟨b,o+j,none⟩=some (sv x):=hc1 j x hx
    have e1:wr.cell? ⟨b,o+j,none⟩=some (sv x):=(hbr.cell (p:=⟨b,o+j,none⟩) hb1).trans e0
    have hJ:Lib.join (l.take (j+1)) sep=if l.take j=[] then x else Lib.join (l.take j) sep++sep++x:=by
     obtain ⟨h1,h2⟩:=List.getElem?_eq_some_iff.1 hx
     rw [List.take_succ_eq_append_getElem h1,h2,ol]
    have hlen:(Lib.join (l.take (j+1)) sep).length≤1099513724928:=by
     have h1:=kM sep (l.take (j+1))
     have h2:=vA l (j+1)
     have h3:(l.take (j+1)).length * sep.length≤1048576 * 1048576:=Nat.mul_le_mul (by simp;omega) hs
     omega
    clear hc1 hx HP e0
    by_cases hj0:j=0
    · subst hj0
      have HJ:=aa9 hJ
      rw [hJ] at hlen
      simp only [List.take_zero,if_true] at hlen
      simp only [List.take_zero,Lib.join_nil,List.length_nil,List.map_nil] at hown
      rw [Nat.add_zero] at e1
      clear hJ
      go_wp2_with (at_builtin;refine gU Tryz.el_u8 Tryz.underlying9 (by kernel_rfl) rfl (.tmp 19) (.tmp 23) rfl w.heap.size w hbr hbr0 u5 0 [] rfl hown x rfl (by omega) ?_)
      intro v' w' hown' hbr' _
      clear hown hbr hbr0
      go_wp2
      go_roundw
      case rel=>
       refine ⟨1,by omega,by go_num,?_,hbr'⟩
       have e:Lib.join (l.take 1) sep=x:=by have:=HJ.out;simpa using this
       rw [e]
       simpa using hown'
      case measure=>simp [intOf];omega
    · have hne:l.take j ≠ []:=by
       intro h
       have:=congrArg List.length h
       rw [List.length_take] at this
       simp only [List.length_nil] at this
       omega
      rw [if_neg hne] at hJ
      have HJ:=aa9 hJ
      rw [hJ] at hlen
      simp only [List.length_append] at hlen
      have hgt:(0:Int) < (j:Int):=by omega
      clear hJ hne
      generalize Lib.join (l.take j) sep=cur at *
      go_wp2_with (at_builtin;refine gU Tryz.el_u8 Tryz.underlying9 (by kernel_rfl) rfl (.tmp 16) (.tmp 17) rfl w.heap.size w hbr hbr0 u5 cur.length (cur.map bv) rfl hown sep rfl (by omega) ?_)
      intro v1 w1 hown1 hbr1 hg1
      have hbr10:=hbr1.size
      have e2:w1.cell? ⟨b,o+j,none⟩=some (sv x):=(hbr1.cell (p:=⟨b,o+j,none⟩) hb1).trans ((hbr.cell (p:=⟨b,o+j,none⟩) hb1).symm.trans e1)
      clear hown hbr hbr0 e1 hg1
      go_wp2_with (at_builtin;refine gU Tryz.el_u8 Tryz.underlying9 (by kernel_rfl) rfl (.tmp 19) (.tmp 23) rfl w.heap.size w hbr1 hbr10 v1 (cur.length+sep.length) _ rfl hown1 x rfl (by omega) ?_)
      intro v' w' hown' hbr' _
      clear hown1 hbr1 hbr10
      go_wp2
      go_roundw
      case rel=>
       refine ⟨j+1,by omega,by go_num,?_,hbr'⟩
       rw [HJ.out,List.length_append,List.length_append,List.map_append,List.map_append,List.append_assoc]
       exact hown'
      case measure=>simp [intOf];omega
  · obtain rfl:j=l.length:=by omega
    rw [List.take_length] at hown
    have hback:=mM (P:=Tryz.prog) 22 9 5 hown rfl Tryz.underlying22 Tryz.underlying5 Tryz.underlying9
    clear hown
    go_wp2
    go_ret
    exact ⟨rfl,hbr⟩
theorem vB (g o c:Nat) (l:List (List UInt8)) (sep:List UInt8) (w:World) (hc: ∀ i x,l[i]? =some x→w.cell? ⟨g,o+i,none⟩=some (sv x)) (hg:g < w.heap.size) (hcap:l.length≤c) (hl:l.length+szl l≤1048576) (hs:sep.length≤1048576):
 Calls Tryz.prog 216 #[.slice (some ⟨g,o,none⟩) l.length c,sv sep] w fun e w'=>e= .returned (sv (Lib.join l sep))∧Below w.heap.size w w':=by
 have hm:(l.map fun x=>(⟨x.toArray⟩:ByteArray)).map (·.data.toList)=l:=by rw [List.map_map];exact List.map_id'' (fun x=>by simp) l
 have h3:l.length * sep.length≤1048576 * 1048576:=Nat.mul_le_mul (by omega) hs
 have hj:=kM sep l
 have:=Tryz.strings_Join g o c (l.map fun x=>(⟨x.toArray⟩:ByteArray)) ⟨sep.toArray⟩ w (fun j x hx=>by
  rw [List.getElem?_map] at hx
  cases hy:l[j]? with
  | none=>rw [hy] at hx;cases hx
  | some y=>rw [hy] at hx;cases hx;exact hc j y hy) hg (by simp;omega) (by simpa using hcap) (by rw [hm];show (Lib.join l sep).length≤_;omega)
 rw [hm,List.length_map] at this
 exact this
theorem lY (g c:Nat) (l:List (List UInt8)) (sep:List UInt8) (w:World) (hc: ∀ i x,l[i]? =some x→w.cell? ⟨g,0+i,none⟩=some (sv x)) (hg:g < w.heap.size) (hcap:l.length≤c) (hl:l.length+szl l≤1048576) (hs:sep.length≤1048576):
 Calls Tryz.prog 191 #[.slice (some ⟨g,0,none⟩) l.length c,sv sep] w fun e w'=>e= .returned (sv (Lib.join l sep))∧Below w.heap.size w w':=by
 have HC:=aa9 hc
 clear hc
 go_enter Tryz.func191,Tryz.ntmps191
 go_wp2_with fail
 refine (vB g 0 c l sep _ HC.out hg hcap hl hs).mono ?_
 rintro e w1 ⟨rfl,hb⟩
 go_wp2
 go_ret
 exact ⟨rfl,hb⟩
theorem tw {w:World} {B n g c:Nat} {e:TypeId} {l:List (List UInt8)} (h:w.ownsRow B e 1 (.slice (some ⟨g,0,none⟩) n c) n (l.map sv)) (i:Nat) (x:List UInt8) (hx:l[i]? =some x):w.cell? ⟨g,0+i,none⟩=some (sv x):=by
 have hi:i < l.length:=(List.getElem?_eq_some_iff.1 hx).1
 have hn:l.length=n:=by have:=h.1;simpa using this
 rw [Nat.zero_add,h.cellAt i (by omega),List.getElem?_map,hx]
 rfl
structure Scp where
 kind:Int
 names:List (List UInt8)
 events:Int
structure Flt where
 on:Bool
 scopes:List Scp
def bo (l:List (List UInt8)):Lf:= .rows 9 1 l.length (l.map Lf.str)
def Scp.lf (s:Scp):List Lf:=[.int s.kind,bo s.names,.int s.events]
theorem iv {W:World} : ∀ (l:List (List UInt8)) (xs:List Value),di W (l.map Lf.str) xs↔xs=l.map sv
 | [],xs=>Iff.rfl
 | a::l,xs=>by
   constructor
   · rintro ⟨v,us,rfl,h1,h2⟩
     rw [(iv l us).1 h2,h1];rfl
   · rintro rfl
     exact ⟨sv a,l.map sv,rfl,rfl,(iv l _).2 rfl⟩
theorem iw {W:World} : ∀ (l:List (List UInt8)) (xs:List Value) (fp:List Nat),bS W (l.map Lf.str) xs fp↔xs=l.map sv∧fp=[]
 | [],xs,fp=>Iff.rfl
 | a::l,xs,fp=>by
   constructor
   · rintro ⟨v,us,f1,f2,rfl,h1,h2,rfl⟩
     obtain ⟨e1,e2⟩:=(iw l us f2).1 h2
     rw [e1,h1.1,h1.2,e2];exact ⟨rfl,rfl⟩
   · rintro ⟨rfl,rfl⟩
     exact ⟨sv a,l.map sv,[],[],rfl,⟨rfl,rfl⟩,(iw l _ _).2 ⟨rfl,rfl⟩,rfl⟩
theorem kN {W:World} {l:List (List UInt8)} {v:Value} :az W (bo l) v↔Rd1 sv W v l:=by
 constructor
 · rintro ⟨_,p,cap,hv,h⟩
   refine ⟨p,cap,hv,?_⟩
   rcases h with h0 | ⟨b,off,hp,hlt,xs,hc,hx⟩
   · exact .inl (List.eq_nil_of_length_eq_zero h0)
   · refine .inr ⟨b,off,hp,hlt,fun i x hi=>hc i (sv x) ?_⟩
     rw [(iv l xs).1 hx,List.getElem?_map,hi];rfl
 · intro h
   obtain ⟨p,cap,hv,hc⟩:=h.ex
   refine ⟨by simp,p,cap,hv,?_⟩
   rcases hc with h0 | ⟨b,off,hp,hlt,hc⟩
   · exact .inl (by rw [h0];rfl)
   · refine .inr ⟨b,off,hp,hlt,l.map sv,fun j u hu=> ?_,(iv l _).2 rfl⟩
     rw [List.getElem?_map] at hu
     cases hl:l[j]? with
     | none=>rw [hl] at hu;cases hu
     | some x=>rw [hl] at hu;injection hu with hu;rw [←hu];exact hc j x hl
theorem kO {W:World} {l:List (List UInt8)} {v:Value} {fp:List Nat} :au W (bo l) v fp↔W.ownsRow 0 9 1 v l.length (l.map sv)∧fp=v.ownBlock.toList:=by
 constructor
 · rintro ⟨_,xs,fq,ho,hx,rfl⟩
   obtain ⟨e1,e2⟩:=(iw l xs fq).1 hx
   rw [e1] at ho
   exact ⟨ho,by rw [e2,List.append_nil]⟩
 · rintro ⟨ho,rfl⟩
   exact ⟨by simp,l.map sv,[],ho,(iw l _ _).2 ⟨rfl,rfl⟩,by rw [List.append_nil]⟩
theorem dz {W:World} {B m n:Nat} {e:TypeId} {v:Value} {xs:List Value} (h:W.ownsRow B e m v n xs):W.ownsRow 0 e m v n xs:=⟨h.1,h.2.imp id fun ⟨g,cap,cur,h1,_,h3⟩=>⟨g,cap,cur,h1,Nat.zero_le _,h3⟩⟩
theorem mn {W:World} {B m n:Nat} {e:TypeId} {v:Value} {xs:List Value} (h:W.ownsRow 0 e m v n xs) (hb: ∀ k,v.ownBlock=some k→B≤k):W.ownsRow B e m v n xs:=⟨h.1,h.2.imp id fun ⟨g,cap,cur,h1,_,h3⟩=>⟨g,cap,cur,h1,hb g (by rw [h1];rfl),h3⟩⟩
theorem yD {W:World} {B:Nat} {l:List (List UInt8)} {v:Value} (h:W.ownsRow B 9 1 v l.length (l.map sv)):cx W B (bo l) v v.ownBlock.toList:=
 ⟨kO.2 ⟨dz h,rfl⟩,by cases v.ownBlock <;> simp,fun k hk=>(h.lt k (by simpa using hk)).1⟩
def yE (W:World) (s:Scp) (v:Value):Prop:= ∃ vn,v= .agg #[.int .i64 s.kind,vn,.int .i64 s.events]∧Rd1 sv W vn s.names
theorem yE.ls {W:World} {s:Scp} {vs:List Value} :di W s.lf vs↔ ∃ vn,vs=[.int .i64 s.kind,vn,.int .i64 s.events]∧Rd1 sv W vn s.names:=by
 constructor
 · rintro ⟨a,r1,rfl,h1,b,r2,rfl,h2,c,r3,rfl,h3,rfl⟩
   exact ⟨b,by rw [h1,h3],kN.1 h2⟩
 · rintro ⟨vn,rfl,h⟩
   exact ⟨_,_,rfl,rfl,_,_,rfl,kN.2 h,_,_,rfl,rfl,rfl⟩
theorem bz {W:World} {b j:Nat} {cs:Array Value} {T:TypeId} {u:Value} (h:W.heap[b]? =some (.cells cs T (0,0))):(W.setCell ⟨b,j,none⟩ u).heap[b]? =some (.cells (cs.setIfInBounds j u) T (0,0)):=by
 simp [World.setCell,Array.getElem?_modify,h]
theorem aD {W:World} {b b' j:Nat} {u:Value} (h:b' ≠ b):(W.setCell ⟨b,j,none⟩ u).heap[b']? =W.heap[b']? :=Below.heap_setCell W ⟨b,j,none⟩ u b' h
theorem dR {w:World} {B n s b j:Nat} {e:TypeId} {v x:Value} {xs:List Value} (h:w.ownsRow B e s v n xs) (hb: ∀ k,v.ownBlock=some k→k ≠ b):(w.setCell ⟨b,j,none⟩ x).ownsRow B e s v n xs:=
 ig h (fun k hk=>aD (hb k hk))
theorem Tryz.el_scp:lP Tryz.prog 25 123 3 40:=lP.mk' (z:= .agg #[.int .i64 0,.slice none 0 0,.int .i64 0]) Tryz.underlying25 (by kernel_rfl) rfl (by omega)
def aj (l:List Scp):Lf:= .rows 123 3 l.length (l.flatMap Scp.lf)
theorem pW (s:Scp):s.lf.length=3:=rfl
theorem cq {W:World} {l:List Scp} {v:Value} (h:az W (aj l) v): ∃ p cap,v= .slice p l.length cap∧(l=[]∨ ∃ b off,p=some ⟨b,off,none⟩∧b < W.heap.size∧ ∀ i s,l[i]? =some s→ ∃ vn,Rd1 sv W vn s.names∧W.cell? ⟨b,off+i * 3,none⟩=some (.int .i64 s.kind)∧W.cell? ⟨b,off+i * 3+1,none⟩=some vn∧W.cell? ⟨b,off+i * 3+2,none⟩=some (.int .i64 s.events)):=by
 obtain ⟨p,cap,hv,hc⟩:=jk pW h
 refine ⟨p,cap,hv,hc.imp id fun ⟨b,off,hp,hlt,hc⟩=>⟨b,off,hp,hlt,fun i s hi=> ?_⟩⟩
 obtain ⟨us,h1,h2⟩:=hc i s hi
 obtain ⟨vn,rfl,h3⟩:=yE.ls.1 h1
 exact ⟨vn,h3,h2 0 _ rfl,h2 1 _ rfl,h2 2 _ rfl⟩
theorem yF {W:World} {B:Nat} {s:Scp} {v:Value} (h:W.ownsRow B 9 1 v s.names.length (s.names.map sv)):bS W s.lf [.int .i64 s.kind,v,.int .i64 s.events] v.ownBlock.toList:=
 ⟨_,_,[],v.ownBlock.toList,rfl,⟨rfl,rfl⟩,⟨v,_,v.ownBlock.toList,[],rfl,kO.2 ⟨dz h,rfl⟩,⟨_,_,[],[],rfl,⟨rfl,rfl⟩,⟨rfl,rfl⟩,rfl⟩,by simp⟩,rfl⟩
def scw:List Scp→Nat
 | []=>0
 | s::r=>(s.names.length+szl s.names)+scw r
theorem vC: ∀ (l:List Scp) (s:Scp),scw (l++[s])=scw l+(s.names.length+szl s.names)
 | [],s=>by simp [scw]
 | a::l,s=>by simp [scw,vC l s];omega
theorem zx (l:List Scp) (k:Nat):scw (l.take k)≤scw l:=by
 have h: ∀ a b:List Scp,scw (a++b)=scw a+scw b:=by
  intro a
  induction a with
  | nil=>intro b;simp [scw]
  | cons x a ih=>intro b;simp [scw,ih b];omega
 have:=h (l.take k) (l.drop k)
 rw [List.take_append_drop] at this
 omega
theorem xt {l:List Scp} {k:Nat} {s:Scp} (h:l[k]? =some s):l.take (k+1)=l.take k++[s]:=by
 obtain ⟨h1,h2⟩:=List.getElem?_eq_some_iff.1 h
 rw [List.take_succ_eq_append_getElem h1,h2]
def scR (left:Nat) (l:List Scp):Int:=if l.length+scw l≤left then ((left - (l.length+scw l):Nat):Int) else -1
theorem zU {left:Nat} {l:List Scp} (h:l.length+scw l≤left):scR left l=((left - (l.length+scw l):Nat):Int):=if_pos h
theorem aaB {left:Nat} {l:List Scp} (h: ¬l.length+scw l≤left):scR left l= -1:=if_neg h
def xu (s:Scp) (k:Nat):Scp:=⟨(k:Int),fL (k+1) s.names.length,((k+1+s.names.length:Nat):Int)⟩
def fg:List Scp→Nat→Nat
 | [],k=>k
 | s::r,k=>fg r (k+2+s.names.length)
def jU:List Scp→Nat→List Scp
 | [],_=>[]
 | s::r,k=>xu s k::jU r (k+2+s.names.length)
theorem rO: ∀ (l:List Scp) (s:Scp) (k:Nat),fg (l++[s]) k=fg l k+2+s.names.length
 | [],s,k=>rfl
 | a::l,s,k=>by simp [fg,rO l s]
theorem pX: ∀ (l:List Scp) (s:Scp) (k:Nat),jU (l++[s]) k=jU l k++[xu s (fg l k)]
 | [],s,k=>rfl
 | a::l,s,k=>by simp [jU,fg,pX l s]
theorem na: ∀ (l:List Scp) (k:Nat),(jU l k).length=l.length
 | [],k=>rfl
 | a::l,k=>by simp [jU,na l]
theorem qZ: ∀ (l:List Scp) (k:Nat),k≤fg l k
 | [],k=>Nat.le_refl _
 | a::l,k=>by have:=qZ l (k+2+a.names.length);simp only [fg];omega
theorem yc (l:List Scp) (k:Nat): ∀ j,fg (l.take j) k≤fg l k:=by
 intro j
 have h: ∀ (a b:List Scp) (k:Nat),fg (a++b) k=fg b (fg a k):=by
  intro a
  induction a with
  | nil=>intro b k;rfl
  | cons x a ih=>intro b k;simp [fg,ih]
 have h2:=h (l.take j) (l.drop j) k
 rw [List.take_append_drop] at h2
 rw [h2]
 exact qZ _ _
theorem rP: ∀ (l:List Scp) (k j:Nat) (s:Scp),l[j]? =some s→(jU l k)[j]? =some (xu s (fg (l.take j) k))
 | [],k,j,s,h=>by simp at h
 | a::l,k,0,s,h=>by simp only [List.getElem?_cons_zero,Option.some.injEq] at h;subst h;rfl
 | a::l,k,j+1,s,h=>by simp only [List.getElem?_cons_succ] at h;simpa [jU,fg] using rP l (k+2+a.names.length) j s h
theorem ac.of_row {W W':World} {row:Option Nat} (h:W.grownBy W' row):ac W W' row.toList:=
 ⟨h.os,h.tape,h.output,h.size,fun k hk hn=>h.block k hk (fun e=>hn (by rw [←e];simp))⟩
theorem ac.refl (W:World) (fp:List Nat):ac W W fp:=⟨rfl,rfl,rfl,Nat.le_refl _,fun _ _ _=>rfl⟩
theorem bS.apart {W W':World} {xs:List Lf} {vs:List Value} {fp fq:List Nat} (h:bS W xs vs fp) (hg:ac W W' fq) (hd: ∀ k∈fp,k ∉ fq):bS W' xs vs fp:=
 h.frame xs vs fp (fun k hk=>hg.block k (bS.lt xs vs fp h k hk) (hd k hk))
theorem iz {W W':World} {B m n:Nat} {e:TypeId} {v:Value} {xs:List Value} {fq:List Nat} (h:W.ownsRow B e m v n xs) (hg:ac W W' fq) (hd: ∀ k,v.ownBlock=some k→k ∉ fq):W'.ownsRow B e m v n xs:=
 ig h (fun k hk=>hg.block k (h.lt k hk).2 (hd k hk))
theorem aaC {W:World} {s:Scp} {vs:List Value} {fp:List Nat} (h:bS W s.lf vs fp): ∃ vn,vs=[.int .i64 s.kind,vn,.int .i64 s.events]∧W.ownsRow 0 9 1 vn s.names.length (s.names.map sv)∧fp=vn.ownBlock.toList:=by
 obtain ⟨a,r1,f1,g1,rfl,h1,⟨b,r2,f2,g2,rfl,h2,⟨c,r3,f3,g3,rfl,h3,h4,rfl⟩,rfl⟩,rfl⟩:=h
 obtain ⟨e1,e2⟩:=kO.1 h2
 obtain ⟨rfl,rfl⟩:=h4
 exact ⟨b,by rw [h1.1,h3.1],e1,by rw [h1.2,h3.2,e2];simp⟩
theorem wO {W:World} {s:Scp} {vn:Value} {fp:List Nat} (h:W.ownsRow 0 9 1 vn s.names.length (s.names.map sv)) (hf:fp=vn.ownBlock.toList):bS W s.lf [.int .i64 s.kind,vn,.int .i64 s.events] fp:=hf ▸ yF h
theorem yd {w w':World} (h:Below w.drew.heap.size w.drew w'):Below w.heap.size w w':=(Below.refl _ _).drew.trans h
theorem fh {A B:List Nat} (h:(A++B).Nodup):(∀ q∈A,q ∉ B)∧A.Nodup∧B.Nodup:=by
 obtain ⟨h1,h2,h3⟩:=List.nodup_append.1 h
 exact ⟨fun q hq hm=>h3 q hq q hm rfl,h1,h2⟩
theorem jp {W:World} {e:TypeId} {m n k:Nat} {flat:List Lf} {v:Value} (h:az W (aX (.rows e m n flat) k).1 v): ∃ p c,v= .slice p n c:=by
 obtain ⟨p,c,hv,_⟩:=h.2
 exact ⟨p,c,hv⟩
theorem om: ∀ l:List (List UInt8),bg (l.map Lf.str)=szl l
 | []=>rfl
 | a::l=>by simp only [List.map_cons,bg,m7,om l];rfl
theorem fQ (l:List (List UInt8)):co (bo l)=l.length+szl l:=by simp only [bo,co,om]
theorem mo: ∀ l:List (List UInt8),aW (l.map Lf.str)=l.length
 | []=>rfl
 | a::l=>by simp only [List.map_cons,aW,kI,mo l,List.length_cons];omega
theorem mp (l:List (List UInt8)):aL (bo l)=l.length:=by simp only [bo,aL,mo]
theorem rQ (l:List (List UInt8)):m8 (bo l):=by
 refine ⟨by omega,by simp,?_⟩
 induction l with
 | nil=>trivial
 | cons a l ih=>exact ⟨trivial,ih⟩
theorem kP: ∀ (l:List (List UInt8)) (k:Nat),(aO (l.map Lf.str) k).1=(fL k l.length).map Lf.str
 | [],k=>by simp [aO,fL]
 | a::l,k=>by
   have:=kP l (k+1)
   simp only [List.map_cons,aO,jo,this]
   simp only [fL,List.length_cons,List.range_succ_eq_map,List.map_cons,List.map_map,Nat.add_zero]
   congr 2
   funext i
   simp only [Function.comp]
   congr 2
   omega
theorem oo (l:List (List UInt8)) (k:Nat):(aX (bo l) k).1=bo (fL k l.length):=by
 simp only [bo,aX,kP,cB]
theorem zy {l:List (List UInt8)} (h:kK (bo l)):l.length≤9223372036854775807∧ ∀ x∈l,x.length≤9223372036854775807:=by
 refine ⟨h.1,?_⟩
 have: ∀ l:List (List UInt8),bs (l.map Lf.str)→ ∀ x∈l,x.length≤9223372036854775807:=by
  intro l
  induction l with
  | nil=>intro _ x hx;cases hx
  | cons a l ih=>
    intro h x hx
    rcases List.mem_cons.1 hx with rfl | hx
    · exact h.1
    · exact ih h.2 x hx
 exact this l h.2
theorem rR (kk:Int) (n:Nat) (h:kk=(n:Int)) (w:World) (hn:n≤1000000000000000):
 Calls Tryz.prog 70 #[.int .i64 kk] w fun e w'=>e= .returned (sv (cA n))∧Below w.heap.size w w':=by
 subst h
 exact fK n w (by omega)
theorem pY (a b:Value) (l:List (List UInt8)) (w:World) (ha:az w (bo l) a) (hb:az w (bo l) b) (hs:co (bo l)≤1000000000000):
 Calls Tryz.prog 214 #[a,b] w fun e w'=>e= .returned (.bool true)∧Below w.heap.size w w':=
 lS a b l w (kN.1 ha) (kN.1 hb) (by rw [fQ] at hs;omega)
theorem nb (v:Value) (l:List (List UInt8)) (kk:Int) (k:Nat) (hkk:kk=(k:Int)) (fp:List Nat) (w:World) (hi:au w (bo l) v fp) (_hnd:fp.Nodup) (hk:k+aL (bo l)≤1000000000000) (_hs:co (bo l)≤1000000000000):
 Calls Tryz.prog 187 #[v,.int .i64 kk] w fun e w'=>e= .returned (.int .i64 ((k+aL (bo l):Nat):Int))∧au w' (aX (bo l) k).1 v fp∧ac w w' fp:=by
 obtain ⟨ho,rfl⟩:=kO.1 hi
 rw [mp] at hk ⊢
 rw [fQ] at _hs
 refine (ks v l kk k 0 hkk w ho (by omega) (by omega)).mono ?_
 rintro e w' ⟨rfl,o,g⟩
 refine ⟨rfl,?_,ac.of_row g⟩
 rw [oo]
 exact kO.2 ⟨by rw [cB];exact o,rfl⟩
theorem nc (v:Value) (l:List (List UInt8)) (kk:Int) (k:Nat) (hkk:kk=(k:Int)) (w:World) (hr:az w (aX (bo l) k).1 v) (hk:k+aL (bo l)≤1000000000000) (_hs:co (bo l)≤1000000000000):
 Calls Tryz.prog 188 #[v,.int .i64 kk] w fun e w'=>e= .returned (.int .i64 ((k+aL (bo l):Nat):Int))∧Below w.heap.size w w':=by
 rw [oo] at hr
 rw [mp] at hk ⊢
 exact ku v kk l.length k hkk w (kN.1 hr) (by omega) (by omega)
end Go.Proofs.YtmlgkoeacbeopaaGreatDoor
