/- Vd -/
import Derived.WalkMore
import Derived.ScopeJumps
import Derived.Test.YtmlgkoeacbeopaaGreatDoorVc
set_option maxHeartbeats 6400000
namespace Go.Proofs.YtmlgkoeacbeopaaGreatDoor
open Go.RowKit
def oL24 : List (Nat × Bool) := [(0, true), (1, true), (2, true), (3, true), (4, true), (5, true), (6, true)]
def xX:Prop:= ∀ (s:ByteArray) (W:World),Mx W→s.size≤1048576→Calls Tryz.prog 41 #[.string s] W fun e w'=>jD (pM s.data.toList) W e w'
theorem jD.ok {ts:List Tok} {w w':World} {e:Ending} (h:jD (some ts) w e w'): ∃ v,e= .returned (.tuple #[v,.bool true])∧w'.ownsRow w.heap.size 80 2 v ts.length (ts.flatMap dh)∧Below w.heap.size w w':=h
theorem jD.no {w w':World} {e:Ending} (h:jD none w e w'): ∃ v,e= .returned (.tuple #[v,.bool false])∧w'.ownsRow w.heap.size 80 2 v 0 ([]:List Value)∧Below w.heap.size w w':=h
theorem uN (b:UInt8) (l sub:List UInt8):Lib.index (b::l) sub=if sub.isPrefixOf (b::l)=true then 0 else if (Lib.index l sub== -1)=true then -1 else Lib.index l sub+1:=by rw [Lib.index]
theorem wI (b:UInt8) (l:List UInt8) (h:cd b=true):Lib.index (b::l) [125,13,10]=if Lib.index l [125,13,10]== -1 then -1 else Lib.index l [125,13,10]+1:=by
 have hp:[125,13,10].isPrefixOf (b::l)=false:=by
  have hb:((125:UInt8)==b)=false:=by
   rw [beq_eq_false_iff_ne]
   rintro rfl
   exact absurd h (by decide)
  simp [List.isPrefixOf,hb]
 rw [uN,hp]
 rfl
theorem uO {l:List UInt8} (i:Nat) (b:UInt8) (h:l[i]? =some b) (hb:cd b=false):eJ l=none:=by
 unfold eJ
 rw [if_neg]
 rintro ⟨hc,_⟩
 unfold jg at hc
 simp only [Bool.and_eq_true] at hc
 have:=List.all_eq_true.1 hc.1.1 b (List.mem_of_getElem? h)
 unfold isd at this
 unfold cd at hb
 simp only [Bool.and_eq_true,decide_eq_true_eq,Bool.not_eq_false',] at this hb
 omega
theorem uQ: ∀ (r:List UInt8),
 (Lib.index r [125,13,10]=((r.takeWhile cd).length:Int)∧(r[(r.takeWhile cd).length+1]? =some 13∧r[(r.takeWhile cd).length+2]? =some 10)∧(r.takeWhile cd).length+3≤r.length)∨
 (¬(r[(r.takeWhile cd).length+1]? =some 13∧r[(r.takeWhile cd).length+2]? =some 10)∧(Lib.index r [125,13,10]= -1∨ ∃ i:Nat,Lib.index r [125,13,10]=(i:Int)∧i+3≤r.length∧ ∃ j b,j < i∧r[j]? =some b∧cd b=false))
 | []=> .inr ⟨by simp,.inl rfl⟩
 | b::l=>by
   cases hb:cd b with
   | true=>
     have hs:=wI b l hb
     rw [List.takeWhile_cons_of_pos hb]
     simp only [List.length_cons,List.getElem?_cons_succ]
     rcases uQ l with ⟨h1,h2,h3⟩ | ⟨h1,h2 | ⟨i,h2,h3,j,c,h4,h5,h6⟩⟩
     · refine .inl ⟨?_,h2,by omega⟩
       rw [hs,h1,if_neg (by simp <;> omega)]
       omega
     · refine .inr ⟨h1,.inl ?_⟩
       rw [hs,h2];rfl
     · refine .inr ⟨h1,.inr ⟨i+1,?_,by omega,j+1,c,by omega,by simpa using h5,h6⟩⟩
       rw [hs,h2,if_neg (by simp <;> omega)]
       omega
   | false=>
     rw [List.takeWhile_cons_of_neg (by rw [hb];simp)]
     simp only [List.length_nil,List.getElem?_cons_succ]
     have hb125:b=125:=by
      unfold cd at hb
      simp only [Bool.not_eq_false',decide_eq_true_eq] at hb
      exact UInt8.toNat_inj.1 hb
     subst hb125
     by_cases hc:l[0]? =some 13∧l[1]? =some 10
     · refine .inl ⟨?_,hc,?_⟩
       · rw [uN]
         have:[125,13,10].isPrefixOf (125::l)=true:=by
          match l,hc with
          | x::y::l,hc=>
            simp only [List.getElem?_cons_zero,List.getElem?_cons_succ,Option.some.injEq] at hc
            rw [hc.1,hc.2]
            simp [List.isPrefixOf]
         rw [this];rfl
       · match l,hc with
         | x::y::l,hc=>simp
     · refine .inr ⟨hc,?_⟩
       have hp:[125,13,10].isPrefixOf (125::l)=false:=by
        cases hh:[125,13,10].isPrefixOf (125::l) with
        | false=>rfl
        | true=>
          obtain ⟨t,ht⟩:=List.isPrefixOf_iff_prefix.1 hh
          rw [←List.cons.inj ht |>.2] at hc
          exact absurd ⟨rfl,rfl⟩ hc
       have hs:Lib.index (125::l) [125,13,10]=if Lib.index l [125,13,10]== -1 then -1 else Lib.index l [125,13,10]+1:=by
        rw [uN,hp];rfl
       have hge:=Lib.index_ge l [125,13,10]
       by_cases hm:Lib.index l [125,13,10]= -1
       · left;rw [hs,hm];rfl
       · right
         have hr:=Lib.index_room l [125,13,10] (by omega)
         refine ⟨(Lib.index l [125,13,10]).toNat+1,?_,by simp at hr ⊢;omega,0,125,by omega,rfl,by decide⟩
         rw [hs,if_neg (by simpa using hm)]
         omega
theorem uR (r:List UInt8): ∃ (d rest:List UInt8) (f:Bool),Lib.cut r [125,13,10]=(d,rest,f)∧d.length≤r.length∧(f=true→d.length+3+rest.length=r.length)∧
 qo r=(if f=true then match eJ d with | some n=>if n≤40∧n≤rest.length then some ((⟨2,rest.take n⟩:Tok),1+d.length+3+n) else none | none=>none else none):=by
 rcases uQ r with ⟨h1,h2,h3⟩ | ⟨h1,h2 | ⟨i,h2,h3,j,c,h4,h5,h6⟩⟩
 · refine ⟨r.takeWhile cd,r.drop ((r.takeWhile cd).length+3),true,?_,by omega,fun _=>by rw [List.length_drop];omega,?_⟩
   · unfold Lib.cut
     rw [h1,if_pos (by omega)]
     have e:r.take (r.takeWhile cd).length=r.takeWhile cd:=by
      have:=List.takeWhile_append_dropWhile (p:=cd) (l:=r)
      conv=>lhs;arg 2;rw [←this]
      exact List.take_left
     rw [Int.toNat_natCast,e];rfl
   · rw [if_pos rfl,ro rfl rfl h2.1 h2.2]
     cases eJ (r.takeWhile cd) with
     | none=>rfl
     | some n=>
       simp only
       by_cases hn:n≤40∧n≤(r.drop ((r.takeWhile cd).length+3)).length
       · rw [if_pos hn,if_pos ⟨hn.1,by have:=hn.2;rw [List.length_drop] at this;exact this,h3⟩]
       · rw [if_neg hn,if_neg (by intro hh;exact hn ⟨hh.1,by rw [List.length_drop];exact hh.2.1⟩)]
 · refine ⟨r,[],false,?_,Nat.le_refl _,(fun h=>by cases h),?_⟩
   · unfold Lib.cut
     rw [h2,if_neg (by omega)]
   · rw [if_neg (by simp),jC h1]
 · refine ⟨r.take i,r.drop (i+3),true,?_,by rw [List.length_take];omega,fun _=>by rw [List.length_take,List.length_drop];omega,?_⟩
   · unfold Lib.cut
     rw [h2,if_pos (by omega),Int.toNat_natCast];rfl
   · rw [if_pos rfl,jC h1,uO j c (by rw [List.getElem?_take,if_pos h4];exact h5) h6]
def iZ (o:Option (Tok×Nat)) (p:Nat) (w:World) (e:Ending) (w':World):Prop:=
 (match o with | some (t,k)=>e= .returned (.tuple #[sv t.text,.int .i64 ((p+k:Nat):Int)]) | none=>e= .returned (.tuple #[.string ⟨#[]⟩,.int .i64 (-1)]))∧Below w.heap.size w w'
theorem iZ.some' {o:Option (Tok×Nat)} {t:Tok} {k p:Nat} {w w':World} {e:Ending} (h:o=some (t,k)) (he:e= .returned (.tuple #[sv t.text,.int .i64 ((p+k:Nat):Int)])) (hb:Below w.heap.size w w'):iZ o p w e w':=by subst h;exact ⟨he,hb⟩
theorem iZ.none' {o:Option (Tok×Nat)} {p:Nat} {w w':World} {e:Ending} (h:o=none) (he:e= .returned (.tuple #[.string ⟨#[]⟩,.int .i64 (-1)])) (hb:Below w.heap.size w w'):iZ o p w e w':=by subst h;exact ⟨he,hb⟩
theorem uS {r:List UInt8} {t:Tok} {k:Nat} (h:qo r=some (t,k)):t.kind=2:=by
 obtain ⟨d,rest,f,_,_,_,h4⟩:=uR r
 rw [h4] at h
 split at h
 · split at h
   · split at h
     · injection h with h;injection h with h _;rw [←h]
     · cases h
   · cases h
 · cases h
theorem lI (s:ByteArray) (p:Nat) (w:World) (hM:Mx w) (hs:s.size≤1048576) (hp:p < s.size):
 Calls Tryz.prog 166 #[.string s,.int .i64 p] w fun e w'=>iZ (qo (s.data.toList.drop (p+1))) p w e w':=by
 obtain ⟨m,hm⟩:=hM
 have hp1:(p:Int)+1≤(s.size:Int):=by omega
 have c1:=Tryz.strings_Cut (s.extract (p+1) s.size) ⟨#[125,13,10]⟩ m w (by simp;omega) hm
 have hsub:(s.extract (p+1) s.size).data.toList=s.data.toList.drop (p+1):=by rw [Lib.extract_data,List.take_of_length_le];simp
 rw [hsub,show (ByteArray.mk #[125,13,10]).data.toList=[125,13,10] from rfl] at c1
 obtain ⟨d,rest,f,hcut,hdl,hrl,hlit⟩:=uR (s.data.toList.drop (p+1))
 rw [hcut] at c1
 simp only at c1
 rw [List.length_drop,dI] at hdl hrl
 generalize qo (s.data.toList.drop (p+1))=L at *
 have hdz:(ByteArray.mk d.toArray).size≤1048576:=by show d.toArray.size≤_;simp;omega
 have c2:=fun W=>ez ⟨d.toArray⟩ W hdz
 rw [show (ByteArray.mk d.toArray).data.toList=d from rfl] at c2
 have C1:=aa9 c1
 have hrz:(ByteArray.mk rest.toArray).size=rest.length:=by show rest.toArray.size=_;simp
 clear c1 hsub hcut hdz hm
 cases f with
 | false=>
   rw [if_neg (by simp)] at hlit
   have HL:=aa9 hlit
   obtain ⟨n,b,hnb⟩:=rF d
   rw [hnb] at c2
   have C2:=aa9 c2
   clear c2 hlit hrl hnb
   go_enter Tryz.func166,Tryz.ntmps166
   go_wp2_with fail
   refine (C1.out).mono ?_
   rintro e w1 ⟨rfl,k,rfl⟩
   go_wp2_with fail
   refine (C2.out _).mono ?_
   rintro e w2 ⟨rfl,b2⟩
   have hb:=(bdN (Below.refl w.heap.size w) k).trans b2
   go_wp2
   go_ret2
   exact iZ.none' HL.out rfl hb
 | true=>
   rw [if_pos rfl] at hlit
   have hrl:=hrl rfl
   cases hn:eJ d with
   | none=>
     rw [hn] at hlit
     rw [eL hn] at c2
     have HL:=aa9 hlit
     have C2:=aa9 c2
     clear c2 hlit hrl hn
     go_enter Tryz.func166,Tryz.ntmps166
     go_wp2_with fail
     refine (C1.out).mono ?_
     rintro e w1 ⟨rfl,k,rfl⟩
     go_wp2_with fail
     refine (C2.out _).mono ?_
     rintro e w2 ⟨rfl,b2⟩
     have hb:=(bdN (Below.refl w.heap.size w) k).trans b2
     go_wp2
     go_ret2
     exact iZ.none' HL.out rfl hb
   | some n=>
     rw [hn] at hlit
     simp only at hlit
     rw [ic hn] at c2
     have C2:=aa9 c2
     clear c2 hn
     by_cases hok:n≤40∧n≤rest.length
     · rw [if_pos hok] at hlit
       have HL:=aa9 hlit
       obtain ⟨q1,q2⟩:=hok
       have g1: ¬40 < (n:Int):=by omega
       have g2: ¬(rest.length:Int) < (n:Int):=by omega
       have hx:=oN ⟨rest.toArray⟩ 0 n
       rw [show (ByteArray.mk rest.toArray).data.toList=rest from rfl,List.drop_zero,Nat.sub_zero] at hx
       have HX:=aa9 hx
       have hcast:=aa9 (show ((p+(1+d.length+3+n):Nat):Int)=(s.size:Int) - (rest.length:Int)+(n:Int) by omega)
       clear hlit hx
       go_enter Tryz.func166,Tryz.ntmps166
       go_wp2_with fail
       refine (C1.out).mono ?_
       rintro e w1 ⟨rfl,k,rfl⟩
       go_wp2_with fail
       refine (C2.out _).mono ?_
       rintro e w2 ⟨rfl,b2⟩
       have hb:=(bdN (Below.refl w.heap.size w) k).trans b2
       go_wp2
       go_ret2
       exact iZ.some' HL.out (by rw [←HX.out,hcast.out];rfl) hb
     · rw [if_neg hok] at hlit
       have HL:=aa9 hlit
       have hor:40 < (n:Int)∨ ¬40 < (n:Int)∧(rest.length:Int) < (n:Int):=by omega
       clear hok hlit hrl
       rcases hor with g1 | ⟨g1,g2⟩
       all_goals
        go_enter Tryz.func166,Tryz.ntmps166
        go_wp2_with fail
        refine (C1.out).mono ?_
        rintro e w1 ⟨rfl,k,rfl⟩
        go_wp2_with fail
        refine (C2.out _).mono ?_
        rintro e w2 ⟨rfl,b2⟩
        have hb:=(bdN (Below.refl w.heap.size w) k).trans b2
        go_wp2
        go_ret2
        exact iZ.none' HL.out rfl hb
theorem pE (s:ByteArray) (p:Nat) (w:World) (hs:s.size≤1048576) (hp:p < s.size):
 Calls Tryz.prog 167 #[.string s,.int .i64 p] w fun e w'=>bM (jA (s.data.toList.drop p)) p w e w':=by
 have hb0:Below w.heap.size w (w.alloc (.cells #[.int .i64 0,.string ⟨#[]⟩] 80)):=(Below.refl _ _).alloc (Nat.le_refl _) _
 go_enter Tryz.func167,Tryz.ntmps167
 go_wp2
 go_loop [6] (fun i=> ∃ k:Nat,p≤k∧k≤s.size∧i= .int .i64 k∧((s.data.toList.drop p).take (k - p)).all cl=true) (fun i=>s.size - (intOf i).toNat)
 case atStart=>exact ⟨p,Nat.le_refl _,by omega,rfl,by simp⟩
 case round=>
  obtain ⟨k,hpk,hk,rfl,hall⟩:=hrel
  have hgo:(∃ h:k < s.size,cl s[k]=true)∨(¬ ∃ h:k < s.size,cl s[k]=true):=Decidable.em _
  rcases hgo with ⟨hlt,h5⟩ | hno
  · have hbn:s[k].toNat < 256:=s[k].toNat_lt
    have c0:=fun W=>eP (s[k].toNat:Int) (by omega) W
    rw [d4,h5] at c0
    have HA:=aa9 (nF s cl p k hpk hlt hall h5)
    have C0:=aa9 c0
    clear c0 hall h5
    go_wp2_with fail
    refine (C0.out _).mono ?_
    rintro e w0 ⟨rfl,rfl⟩
    go_wp2
    go_round
    case rel=>exact ⟨k+1,by omega,by omega,by go_num,HA.out⟩
    case measure=>simp [intOf];omega
  · have he: ∀ h:k < s.size,cl s[k]=false:=fun h=>by
     cases hh:cl s[k] with
     | false=>rfl
     | true=>exact absurd ⟨h,hh⟩ hno
    have hrun:=rm s cl p k hpk hall he
    have hl:=nG s p k hpk hk
    have c1:=fun W=>lU (s.extract p k) W (by unfold maxLen;simp;omega)
    rw [iO] at c1
    cases ha:dE ((s.data.toList.drop p).take (k - p)) with
    | true=>
      have HV:=aa9 (show jA (s.data.toList.drop p)=some (⟨1,(s.data.toList.drop p).take (k - p)⟩,k - p) by rw [ld hrun ha,hl])
      rw [ha] at c1
      have C1:=aa9 c1
      have HX:=aa9 (oN s p k)
      have hcast:=aa9 (show ((p+(k - p):Nat):Int)=(k:Int) by omega)
      clear hrun hl ha c1 hall hno
      by_cases hlt:k < s.size
      · have hbn:s[k].toNat < 256:=s[k].toNat_lt
        have c0:=fun W=>eP (s[k].toNat:Int) (by omega) W
        rw [d4,he hlt] at c0
        have C0:=aa9 c0
        clear c0 he
        go_wp2_with fail
        refine (C0.out _).mono ?_
        rintro e w0 ⟨rfl,rfl⟩
        go_wp2_with fail
        refine (C1.out _).mono ?_
        rintro e w1 ⟨rfl,b1⟩
        obtain ⟨hc,hf⟩:=bT (cs:= #[.int .i64 0,.string ⟨#[]⟩]) (e:=80) (by simpa using b1)
        have hc0:=hc 0
        have hc1:=hc 1
        have hf0:=hf 0
        have hf1:=hf 1
        have hb1:=hb0.trans (b1.mono (by simp))
        simp only [List.getElem?_toArray,List.getElem?_cons_zero,List.getElem?_cons_succ] at hc0 hc1
        obtain ⟨hs0,hs1⟩:=cm hc0 hc1
        clear hc hf b1 hb0
        go_wp2
        exact bodyPost_ret (v:= .tuple #[.agg #[.int .i64 1,.string (s.extract p k)],.int .i64 (k:Int)]) (by simp [results,Tryz.results167,go_sem,hs0,hs1]) rfl (bM.some' HV.out (by rw [HX.out,hcast.out]) ((hb1.setCell (Nat.le_refl _) _).setCell (Nat.le_refl _) _))
      · clear he
        go_wp2_with fail
        refine (C1.out _).mono ?_
        rintro e w1 ⟨rfl,b1⟩
        obtain ⟨hc,hf⟩:=bT (cs:= #[.int .i64 0,.string ⟨#[]⟩]) (e:=80) (by simpa using b1)
        have hc0:=hc 0
        have hc1:=hc 1
        have hf0:=hf 0
        have hf1:=hf 1
        have hb1:=hb0.trans (b1.mono (by simp))
        simp only [List.getElem?_toArray,List.getElem?_cons_zero,List.getElem?_cons_succ] at hc0 hc1
        obtain ⟨hs0,hs1⟩:=cm hc0 hc1
        clear hc hf b1 hb0
        go_wp2
        exact bodyPost_ret (v:= .tuple #[.agg #[.int .i64 1,.string (s.extract p k)],.int .i64 (k:Int)]) (by simp [results,Tryz.results167,go_sem,hs0,hs1]) rfl (bM.some' HV.out (by rw [HX.out,hcast.out]) ((hb1.setCell (Nat.le_refl _) _).setCell (Nat.le_refl _) _))
    | false=>
      have HV:=aa9 (show jA (s.data.toList.drop p)=none by rw [kh hrun ha])
      rw [ha] at c1
      have C1:=aa9 c1
      clear hrun hl ha c1 hall hno
      by_cases hlt:k < s.size
      · have hbn:s[k].toNat < 256:=s[k].toNat_lt
        have c0:=fun W=>eP (s[k].toNat:Int) (by omega) W
        rw [d4,he hlt] at c0
        have C0:=aa9 c0
        clear c0 he
        go_wp2_with fail
        refine (C0.out _).mono ?_
        rintro e w0 ⟨rfl,rfl⟩
        go_wp2_with fail
        refine (C1.out _).mono ?_
        rintro e w1 ⟨rfl,b1⟩
        obtain ⟨hc,hf⟩:=bT (cs:= #[.int .i64 0,.string ⟨#[]⟩]) (e:=80) (by simpa using b1)
        have hc0:=hc 0
        have hc1:=hc 1
        have hf0:=hf 0
        have hf1:=hf 1
        have hb1:=hb0.trans (b1.mono (by simp))
        simp only [List.getElem?_toArray,List.getElem?_cons_zero,List.getElem?_cons_succ] at hc0 hc1
        obtain ⟨hs0,hs1⟩:=cm hc0 hc1
        clear hc hf b1 hb0
        go_wp2
        exact bodyPost_ret (v:= .tuple #[mj ⟨0,[]⟩,.int .i64 (-1)]) (by simp [results,Tryz.results167,go_sem,hs0,hs1]) rfl (bM.none' ⟨0,[]⟩ HV.out rfl ((hb1.setCell (Nat.le_refl _) _).setCell (Nat.le_refl _) _))
      · clear he
        go_wp2_with fail
        refine (C1.out _).mono ?_
        rintro e w1 ⟨rfl,b1⟩
        obtain ⟨hc,hf⟩:=bT (cs:= #[.int .i64 0,.string ⟨#[]⟩]) (e:=80) (by simpa using b1)
        have hc0:=hc 0
        have hc1:=hc 1
        have hf0:=hf 0
        have hf1:=hf 1
        have hb1:=hb0.trans (b1.mono (by simp))
        simp only [List.getElem?_toArray,List.getElem?_cons_zero,List.getElem?_cons_succ] at hc0 hc1
        obtain ⟨hs0,hs1⟩:=cm hc0 hc1
        clear hc hf b1 hb0
        go_wp2
        exact bodyPost_ret (v:= .tuple #[mj ⟨0,[]⟩,.int .i64 (-1)]) (by simp [results,Tryz.results167,go_sem,hs0,hs1]) rfl (bM.none' ⟨0,[]⟩ HV.out rfl ((hb1.setCell (Nat.le_refl _) _).setCell (Nat.le_refl _) _))
theorem qE (s:ByteArray) (p:Nat) (w:World) (hM:Mx w) (hs:s.size≤1048576) (hp:p < s.size):
 Calls Tryz.prog 106 #[.string s,.int .i64 p] w fun e w'=>bM (tkS (s.data.toList.drop p)) p w e w':=by
 have hbn:s[p].toNat < 256:=s[p].toNat_lt
 have hb0:Below w.heap.size w (w.alloc (.cells #[.int .i64 0,.string ⟨#[]⟩] 80)):=(Below.refl _ _).alloc (Nat.le_refl _) _
 have hM0:Mx (w.alloc (.cells #[.int .i64 0,.string ⟨#[]⟩] 80)):=hM.below hb0
 cases h1:((s[p].toNat:Int)==40) with
 | true=>
   have HV:=aa9 (tU s p hp h1)
   go_enter Tryz.func106,Tryz.ntmps106
   go_wp2
   go_returns
   exact bM.some' HV.out rfl ((Below.refl _ _).alloc (Nat.le_refl _) _)
 | false=>
   cases h2:((s[p].toNat:Int)==41) with
   | true=>
     have HV:=aa9 (rk s p hp h1 h2)
     go_enter Tryz.func106,Tryz.ntmps106
     go_wp2
     go_returns
     exact bM.some' HV.out rfl ((Below.refl _ _).alloc (Nat.le_refl _) _)
   | false=>
     cases h3:((s[p].toNat:Int)==34) with
     | true=>
       obtain ⟨hu,hk2⟩:=rl s p hp h1 h2 h3
       have c1:=fun W=>kD s (p:Int) W hs
       rw [hu] at c1
       cases ht:tkS (s.data.toList.drop p) with
       | none=>
         rw [ht] at c1
         simp only [Option.map_none,qS] at c1
         have C1:=aa9 c1
         clear c1 hu hk2 ht hM hM0
         go_enter Tryz.func106,Tryz.ntmps106
         go_wp2_with fail
         refine (C1.out _).mono ?_
         rintro e w1 ⟨rfl,b1⟩
         obtain ⟨hc,hf⟩:=bT (cs:= #[.int .i64 0,.string ⟨#[]⟩]) (e:=80) (by simpa using b1)
         have hc0:=hc 0
         have hc1:=hc 1
         have hf0:=hf 0
         have hf1:=hf 1
         have hb1:=hb0.trans (b1.mono (by simp))
         simp only [List.getElem?_toArray,List.getElem?_cons_zero,List.getElem?_cons_succ] at hc0 hc1
         obtain ⟨hs0,hs1⟩:=cm hc0 hc1
         clear hc hf b1 hb0
         go_wp2
         exact bodyPost_ret (v:= .tuple #[mj ⟨2,[]⟩,.int .i64 (-1)]) (by simp [results,Tryz.results106,go_sem,hs0,hs1]) rfl (bM.none' ⟨2,[]⟩ rfl rfl ((hb1.setCell (Nat.le_refl _) _).setCell (Nat.le_refl _) _))
       | some x=>
         rw [ht] at c1
         obtain ⟨x,k⟩:=x
         obtain ⟨kd,tx⟩:=x
         have hkd:kd=2:=hk2 _ ht
         subst hkd
         simp only [Option.map_some,ka] at c1
         have C1:=aa9 c1
         clear c1 hu hk2 ht hM hM0
         go_enter Tryz.func106,Tryz.ntmps106
         go_wp2_with fail
         refine (C1.out _).mono ?_
         rintro e w1 ⟨rfl,b1⟩
         obtain ⟨hc,hf⟩:=bT (cs:= #[.int .i64 0,.string ⟨#[]⟩]) (e:=80) (by simpa using b1)
         have hc0:=hc 0
         have hc1:=hc 1
         have hf0:=hf 0
         have hf1:=hf 1
         have hb1:=hb0.trans (b1.mono (by simp))
         simp only [List.getElem?_toArray,List.getElem?_cons_zero,List.getElem?_cons_succ] at hc0 hc1
         obtain ⟨hs0,hs1⟩:=cm hc0 hc1
         clear hc hf b1 hb0
         go_wp2
         exact bodyPost_ret (v:= .tuple #[mj ⟨2,tx⟩,.int .i64 ((p+k:Nat):Int)]) (by simp [results,Tryz.results106,go_sem,hs0,hs1]) rfl (bM.some' rfl rfl ((hb1.setCell (Nat.le_refl _) _).setCell (Nat.le_refl _) _))
     | false=>
       cases h4:((s[p].toNat:Int)==123) with
       | true=>
         have htk:=wU s p hp h1 h2 h3 h4
         have C1:=aa9 (lI s p _ hM0 hs hp)
         rw [←htk] at C1
         cases ht:tkS (s.data.toList.drop p) with
         | none=>
           rw [ht] at C1
           clear ht htk hM hM0
           go_enter Tryz.func106,Tryz.ntmps106
           go_wp2_with fail
           refine (C1.out).mono ?_
           rintro e w1 ⟨rfl,b1⟩
           obtain ⟨hc,hf⟩:=bT (cs:= #[.int .i64 0,.string ⟨#[]⟩]) (e:=80) (by simpa using b1)
           have hc0:=hc 0
           have hc1:=hc 1
           have hf0:=hf 0
           have hf1:=hf 1
           have hb1:=hb0.trans (b1.mono (by simp))
           simp only [List.getElem?_toArray,List.getElem?_cons_zero,List.getElem?_cons_succ] at hc0 hc1
           obtain ⟨hs0,hs1⟩:=cm hc0 hc1
           clear hc hf b1 hb0
           go_wp2
           exact bodyPost_ret (v:= .tuple #[mj ⟨2,[]⟩,.int .i64 (-1)]) (by simp [results,Tryz.results106,go_sem,hs0,hs1]) rfl (bM.none' ⟨2,[]⟩ rfl rfl ((hb1.setCell (Nat.le_refl _) _).setCell (Nat.le_refl _) _))
         | some x=>
           obtain ⟨x,k⟩:=x
           obtain ⟨kd,tx⟩:=x
           have hkd:kd=2:=uS (htk.symm.trans ht)
           subst hkd
           rw [ht] at C1
           clear ht htk hM hM0
           go_enter Tryz.func106,Tryz.ntmps106
           go_wp2_with fail
           refine (C1.out).mono ?_
           rintro e w1 ⟨rfl,b1⟩
           obtain ⟨hc,hf⟩:=bT (cs:= #[.int .i64 0,.string ⟨#[]⟩]) (e:=80) (by simpa using b1)
           have hc0:=hc 0
           have hc1:=hc 1
           have hf0:=hf 0
           have hf1:=hf 1
           have hb1:=hb0.trans (b1.mono (by simp))
           simp only [List.getElem?_toArray,List.getElem?_cons_zero,List.getElem?_cons_succ] at hc0 hc1
           obtain ⟨hs0,hs1⟩:=cm hc0 hc1
           clear hc hf b1 hb0
           go_wp2
           exact bodyPost_ret (v:= .tuple #[mj ⟨2,tx⟩,.int .i64 ((p+k:Nat):Int)]) (by simp [results,Tryz.results106,go_sem,hs0,hs1]) rfl (bM.some' rfl rfl ((hb1.setCell (Nat.le_refl _) _).setCell (Nat.le_refl _) _))
       | false=>
         have htk:=tV s p hp h1 h2 h3 h4
         have c1:=fun W=>pE s p W hs hp
         rw [←htk] at c1
         cases ht:tkS (s.data.toList.drop p) with
         | none=>
           rw [ht] at c1
           have C1:=aa9 c1
           clear c1 ht htk hM hM0
           go_enter Tryz.func106,Tryz.ntmps106
           go_wp2_with fail
           refine (C1.out _).mono ?_
           rintro e w1 ⟨⟨t0,rfl⟩,b1⟩
           obtain ⟨hc,hf⟩:=bT (cs:= #[.int .i64 0,.string ⟨#[]⟩]) (e:=80) (by simpa using b1)
           have hc0:=hc 0
           have hc1:=hc 1
           have hf0:=hf 0
           have hf1:=hf 1
           have hb1:=hb0.trans (b1.mono (by simp))
           simp only [List.getElem?_toArray,List.getElem?_cons_zero,List.getElem?_cons_succ] at hc0 hc1
           obtain ⟨hs0,hs1⟩:=cm hc0 hc1
           clear hc hf b1 hb0
           go_wp2
           exact bodyPost_ret (v:= .tuple #[mj t0,.int .i64 (-1)]) (by simp [results,Tryz.results106,go_sem,hs0,hs1]) rfl (bM.none' t0 rfl rfl ((hb1.setCell (Nat.le_refl _) _).setCell (Nat.le_refl _) _))
         | some x=>
           obtain ⟨t,k⟩:=x
           rw [ht] at c1
           have C1:=aa9 c1
           clear c1 ht htk hM hM0
           go_enter Tryz.func106,Tryz.ntmps106
           go_wp2_with fail
           refine (C1.out _).mono ?_
           rintro e w1 ⟨rfl,b1⟩
           obtain ⟨hc,hf⟩:=bT (cs:= #[.int .i64 0,.string ⟨#[]⟩]) (e:=80) (by simpa using b1)
           have hc0:=hc 0
           have hc1:=hc 1
           have hf0:=hf 0
           have hf1:=hf 1
           have hb1:=hb0.trans (b1.mono (by simp))
           simp only [List.getElem?_toArray,List.getElem?_cons_zero,List.getElem?_cons_succ] at hc0 hc1
           obtain ⟨hs0,hs1⟩:=cm hc0 hc1
           clear hc hf b1 hb0
           go_wp2
           exact bodyPost_ret (v:= .tuple #[mj t,.int .i64 ((p+k:Nat):Int)]) (by simp [results,Tryz.results106,go_sem,hs0,hs1]) rfl (bM.some' rfl rfl ((hb1.setCell (Nat.le_refl _) _).setCell (Nat.le_refl _) _))
def nsB (o:Option Tok):Bool:=match o with | none=>false | some a=>a.kind != 3
def gR (k:Int) (ns af:Bool):Bool:=if (k==4)=true then af else ns
def mH (s:ByteArray) (p:Nat) (ts:List Tok) (n:Nat) (ns af:Bool) (U:Option (List Tok)):Prop:=
 (af=false∧pN s.data.toList p ts n U∧ns=nsB (cV none ts))∨
 (af=true∧ns=false∧ ∃ (q:Nat) (h:q < s.size),p=q+1∧s[q].toNat=32∧pN s.data.toList q ts n U∧ ∃ a,cV none ts=some a∧(a.kind != 3)=true)
theorem pF (b:UInt8) (r:List UInt8) (h:b.toNat=32):tkS (b::r)=none:=by
 rw [gy,if_neg (by omega),if_neg (by omega),if_neg (by omega),if_neg (by omega)]
 refine kh (a:=[]) ?_ rfl
 rw [List.takeWhile_cons_of_neg]
 simp [cl,h]
section
variable {s:ByteArray} {p n:Nat} {ts:List Tok} {ns af:Bool} {U:Option (List Tok)}
theorem mH.start:mH s 0 [] 0 false false (pM s.data.toList):= .inl ⟨rfl,pN.start _,rfl⟩
theorem mH.num (h:mH s p ts n ns af U):n=ts.length:=by
 rcases h with ⟨_,h,_⟩ | ⟨_,_,_,_,_,_,h,_⟩
 · exact h.1
 · exact h.1
theorem mH.end_ok (h:mH s p ts n ns false U) (hp: ¬p < s.size):U=some ts:=by
 rcases h with ⟨_,h,_⟩ | ⟨h,_⟩
 · exact h.done hp
 · cases h
theorem mH.end_bad (h:mH s p ts n ns true U) (hp: ¬p < s.size):U=none:=by
 rcases h with ⟨h,_⟩ | ⟨_,_,q,hq,rfl,h32,h,_⟩
 · cases h
 · refine h.bad hq true (decide_eq_true h32) ?_
   show tkS (s.data.toList.drop (q+1))=none
   rw [ck s (q+1) hp];rfl
theorem mH.space (h:mH s p ts n true af U) (hp:p < s.size) (h32:s[p].toNat=32):mH s (p+1) ts n false true U:=by
 rcases h with ⟨_,h,hn⟩ | ⟨_,h,_⟩
 · refine .inr ⟨rfl,rfl,p,hp,rfl,h32,h,?_⟩
   cases hl:cV none ts with
   | none=>rw [hl] at hn;cases hn
   | some a=>rw [hl] at hn;exact ⟨a,rfl,hn.symm⟩
 · cases h
theorem mH.no_tok (h:mH s p ts n ns af U) (hp:p < s.size) (hno: ¬(ns=true∧s[p].toNat=32)) (ht:tkS (s.data.toList.drop p)=none):U=none:=by
 rcases h with ⟨_,h,hn⟩ | ⟨_,_,q,hq,rfl,h32,h,_⟩
 · by_cases h32:s[p].toNat=32
   · have hnf:ns=false:=by cases ns with | false=>rfl | true=>exact absurd ⟨rfl,h32⟩ hno
     cases hk:wV s p true with
     | none=>exact h.bad hp true (decide_eq_true h32) hk
     | some x=>
       obtain ⟨t,k⟩:=x
       refine h.unfit hp true (decide_eq_true h32) hk ?_
       rw [hnf] at hn
       cases hl:cV none ts with
       | none=>rfl
       | some a=>
         rw [hl] at hn
         have:(a.kind != 3)=false:=hn.symm
         simp [nz,lM,this]
   · exact h.bad hp false (decide_eq_false h32) ht
 · exact h.bad hq true (decide_eq_true h32) ht
theorem mH.wrong (h:mH s p ts n ns af U) (hp:p < s.size) {t:Tok} {k:Nat} (ht:tkS (s.data.toList.drop p)=some (t,k)) (hw:gR t.kind ns af=true):U=none:=by
 have hn32: ¬s[p].toNat=32:=fun e=>by rw [bE s p hp,pF _ _ e] at ht;cases ht
 unfold gR at hw
 rcases h with ⟨rfl,h,hn⟩ | ⟨rfl,rfl,q,hq,rfl,h32,h,a,ha,hak⟩
 · refine h.unfit hp false (decide_eq_false hn32) ht ?_
   cases h4:(t.kind==4) with
   | true=>rw [h4] at hw;cases hw
   | false=>
     rw [h4,if_neg (by simp)] at hw
     rw [hw] at hn
     cases hl:cV none ts with
     | none=>rw [hl] at hn;cases hn
     | some a=>
       rw [hl] at hn
       have:(a.kind != 3)=true:=hn.symm
       simp [nz,lM,bne,h4]
       simpa using this
 · refine h.unfit hq true (decide_eq_true h32) ht ?_
   cases h4:(t.kind==4) with
   | false=>rw [h4] at hw;cases hw
   | true=>rw [ha];simp [nz,lM,bne,h4]
theorem mH.step (h:mH s p ts n ns af U) (hp:p < s.size) {t:Tok} {k:Nat} (ht:tkS (s.data.toList.drop p)=some (t,k)) (hw:gR t.kind ns af=false):
 mH s (p+k) (ts++[t]) (n+1) (t.kind != 3) false U∧1≤k∧p+k≤s.size:=by
 have hn32: ¬s[p].toNat=32:=fun e=>by rw [bE s p hp,pF _ _ e] at ht;cases ht
 have hk:=jB _ _ _ ht
 unfold gR at hw
 rcases h with ⟨rfl,h,hn⟩ | ⟨rfl,rfl,q,hq,rfl,h32,h,a,ha,hak⟩
 · have hf:nz (cV none ts) false t=true:=by
    cases hl:cV none ts with
    | none=>rfl
    | some a=>
      rw [hl] at hn
      have hn':ns=(a.kind != 3):=hn
      cases h4:(t.kind==4) with
      | true=>simp [nz,lM,bne,h4]
      | false=>
        rw [h4,if_neg (by simp),hn'] at hw
        simp [nz,lM,hw]
   obtain ⟨h1,h2,h3⟩:=h.step hp false (decide_eq_false hn32) ht hf
   refine ⟨.inl ⟨rfl,h1,?_⟩,hk.1,h3⟩
   rw [eb];rfl
 · have hf:nz (cV none ts) true t=true:=by
    cases h4:(t.kind==4) with
    | true=>rw [h4] at hw;cases hw
    | false=>
      have h5:(t.kind != 4)=true:=by simp [bne,h4]
      rw [ha]
      show (true==((a.kind != 3) && (t.kind != 4)))=true
      rw [hak,h5];rfl
   obtain ⟨h1,h2,h3⟩:=h.step hq true (decide_eq_true h32) ht hf
   refine ⟨.inl ⟨rfl,h1,?_⟩,hk.1,h3⟩
   rw [eb];rfl
end
theorem gc (k:Int) (ns af:Bool) (w:World):
 Calls Tryz.prog 107 #[.int .i64 k,.bool ns,.bool af] w fun e w'=>e= .returned (.bool (gR k ns af))∧w=w':=by
 cases h:(k==4) with
 | true=>
   have HV:=aa9 (show gR k ns af=af by unfold gR;rw [if_pos h])
   go_enter Tryz.func107,Tryz.ntmps107
   go_wp2
   go_ret
   exact ⟨by rw [HV.out];rfl,rfl⟩
 | false=>
   have HV:=aa9 (show gR k ns af=ns by unfold gR;rw [if_neg (by rw [h];simp)])
   go_enter Tryz.func107,Tryz.ntmps107
   go_wp2
   go_ret
   exact ⟨by rw [HV.out];rfl,rfl⟩
def aa5 (w:World) (U:Option (List Tok)) (m:Nat) (a:Act) (w':World):Prop:=a.tmps.size=m∧a.defers=[]∧U=none∧Below w.heap.size w w'
theorem qF:xX:=by
 intro s w hM hs
 have hst:=mH.start (s:=s)
 generalize pM s.data.toList=U at *
 have HS0:=aa9 hst
 clear hst
 go_enter Tryz.func41,Tryz.ntmps41
 go_wp2
 refine wp_scope_jumps 1 (aa5 w U 49) (fun _ _=>0) rfl ?_ ?_
 · go_wp2
   go_step3
   go_wp2
   go_loopw [4,5,6,7] (fun v i b1 b2 wr=> ∃ (p n:Nat) (ts:List Tok) (ns af:Bool),p≤s.size∧n≤p∧i= .int .i64 p∧b1= .bool ns∧b2= .bool af∧mH s p ts n ns af U∧wr.ownsRow w.heap.size 80 2 v n (ts.flatMap dh)∧Below w.heap.size w wr) (fun _ i _ _ _=>s.size - (intOf i).toNat)
   case atStart=>exact ⟨0,0,[],false,false,by omega,by omega,rfl,rfl,rfl,HS0.out,World.ownsRow_nil _ _ _ _,Below.refl _ _⟩
   case round=>
    obtain ⟨p,n,ts,ns,af,hps,hnp,rfl,rfl,rfl,hst,hown,hbr⟩:=hrel
    have HS:=aa9 hst
    have hbr0:=hbr.size
    obtain ⟨pv,cv,rfl⟩:=fN hown
    clear hst HS0
    by_cases hlt:p < s.size
    · have hbp:s[p].toNat < 256:=s[p].toNat_lt
      have hsp:(ns=true∧((s[p].toNat:Int)==32)=true)∨ns=false∨(ns=true∧((s[p].toNat:Int)==32)=false):=by
       cases ns with
       | false=>exact .inr (.inl rfl)
       | true=>
         cases ((s[p].toNat:Int)==32) with
         | true=>exact .inl ⟨rfl,rfl⟩
         | false=>exact .inr (.inr ⟨rfl,rfl⟩)
      rcases hsp with ⟨rfl,h32⟩ | hsp
      · have HN:=aa9 (HS.out.space hlt (fm h32))
        clear HS
        go_wp2
        go_roundw
        case rel=>exact ⟨p+1,n,ts,false,true,by omega,by omega,by go_num,rfl,rfl,HN.out,hown,hbr⟩
        case measure=>simp [intOf];omega
      · have hno: ¬(ns=true∧s[p].toNat=32):=by
         rintro ⟨h1,h2⟩
         rcases hsp with h | ⟨_,h⟩
         · rw [h] at h1;cases h1
         · exact cH h h2
        have C1:=aa9 (qE s p wr (hM.below hbr) hs hlt)
        cases ht:tkS (s.data.toList.drop p) with
        | none=>
          have HU:=aa9 (HS.out.no_tok hlt hno ht)
          rw [ht] at C1
          clear ht hno HS
          rcases hsp with rfl | ⟨rfl,h32⟩
          all_goals
           go_wp2_with fail
           refine (C1.out).mono ?_
           rintro e w1 ⟨⟨t0,rfl⟩,b1⟩
           have hb1:=hbr.trans (b1.mono hbr0)
           have hz1:=hb1.size
           clear b1 hbr hbr0 hown C1
           go_wp2
           go_step3
           exact ⟨rfl,rfl,rfl,HU.out,hb1.alloc hz1 _⟩
        | some x=>
          obtain ⟨t,k⟩:=x
          rw [ht] at C1
          have hgn: ¬((p+k:Nat):Int) < 0:=by omega
          cases hw:gR t.kind ns af with
          | true=>
            have HU:=aa9 (HS.out.wrong hlt ht hw)
            have C2:=aa9 (fun W=>gc t.kind ns af W)
            rw [hw] at C2
            clear ht hno HS hw
            rcases hsp with rfl | ⟨rfl,h32⟩
            all_goals
             go_wp2_with fail
             refine (C1.out).mono ?_
             rintro e w1 ⟨rfl,b1⟩
             have hb1:=hbr.trans (b1.mono hbr0)
             have hz1:=hb1.size
             clear b1 hbr hbr0 hown C1
             go_wp2_with fail
             refine (C2.out _).mono ?_
             rintro e w2 ⟨rfl,rfl⟩
             go_wp2
             go_step3
             exact ⟨rfl,rfl,rfl,HU.out,hb1.alloc hz1 _⟩
          | false=>
            obtain ⟨hN,hk1,hks⟩:=HS.out.step hlt ht hw
            have HN:=aa9 hN
            have C2:=aa9 (fun W=>gc t.kind ns af W)
            rw [hw] at C2
            clear ht hno HS hw hN
            rcases hsp with rfl | ⟨rfl,h32⟩
            all_goals
             go_wp2_with fail
             refine (C1.out).mono ?_
             rintro e w1 ⟨rfl,b1⟩
             have hb1:=hbr.trans (b1.mono hbr0)
             have hz1:=hb1.size
             have hown1:=ao hown b1
             clear b1 hbr hbr0 hown C1
             go_wp2_with fail
             refine (C2.out _).mono ?_
             rintro e w2 ⟨rfl,rfl⟩
             have hown2:(w1.alloc (.cells #[.int .i64 t.kind,sv t.text] 80)).ownsRow w.heap.size 80 2 (.slice pv n cv) n (ts.flatMap dh):=hown1.alloc _
             have hb2:Below w.heap.size w (w1.alloc (.cells #[.int .i64 t.kind,sv t.text] 80)):=hb1.alloc hz1 _
             have hz2:=hb2.size
             have hsz2:(w1.alloc (.cells #[.int .i64 t.kind,sv t.text] 80)).heap.size=w1.heap.size+1:=by simp
             have hblk:(w1.alloc (.cells #[.int .i64 t.kind,sv t.text] 80)).heap[w1.heap.size]? =some (.cells #[.int .i64 t.kind,sv t.text] 80 (0,0)):=heap_alloc_new w1 _
             have hnb: ∀ g,(Value.slice pv n cv).ownBlock=some g→g < w1.heap.size:=fun g hg=>(hown1.lt g hg).2
             clear C2
             go_wp2_with (at_builtin;refine aE Tryz.el_tok rfl (.tmp 38) (.tmp 40) rfl w (w1.alloc (.cells #[.int .i64 t.kind,sv t.text] 80)) (.slice pv n cv) n _ rfl hown2 hb2 hz2 #[.int .i64 t.kind,sv t.text] (.inr rfl) 1 1 (by rw [hsz2];rfl) rfl (by simp [Value.oneCell']) (by omega) (by omega) (by omega) ?_)
             intro g cap w4 hown4 hb4 hg4 _ _
             have hb4k:w4.heap[w1.heap.size]? =some (.cells #[.int .i64 t.kind,sv t.text] 80 (0,0)):=(hg4.block w1.heap.size (by simp) (fun e=>by have:=hnb _ e.symm;omega)).trans hblk
             have f1:w4.cell? ⟨w1.heap.size,0,none⟩=some (.int .i64 t.kind):=by simp [World.cell?,hb4k]
             clear hown1 hown2 hb1 hb2 hblk hb4k hg4 hnb
             go_wp2
             refine ah oL24 (fun W=>W.cell? ⟨w1.heap.size,0,none⟩=some (.int .i64 t.kind)) (by kernel_rfl) (by kernel_rfl) rfl (by kernel_rfl) ?_
             intro ops' hops
             clear hops
             simp only [oL24,List.map_cons,List.map_nil,ae,ag]
             iterate 7 (refine aa ?_ (fun _ _ _ h=>h) rfl ?_ f1 ?_;rotate_left;focus (intro W hS;obtain s1:=hS;go_simp;rfl))
             refine ai ?_
             go_simp
             go_wp2
             go_roundw
             case rel=>exact ⟨p+k,n+1,ts++[t],t.kind != 3,false,by omega,by omega,by go_num,rfl,rfl,HN.out,by rw [List.flatMap_append];simpa [dh] using hown4.drew,hb4.drew⟩
             case measure=>simp [intOf];omega
    · obtain rfl:p=s.size:=by omega
      have hn:=HS.out.num
      subst hn
      cases af with
      | false=>
        have HU:=aa9 (HS.out.end_ok hlt)
        clear HS
        go_wp2
        simp only [Exit.jump]
        go_ret2
        exact ⟨_,by rw [HU.out];rfl,by rw [HU.out];exact hown,hbr⟩
      | true=>
        have HU:=aa9 (HS.out.end_bad hlt)
        clear HS
        go_wp2
        go_step3
        go_wp2
        simp only [Exit.jump]
        go_ret2
        exact ⟨_,by rw [HU.out];rfl,by rw [HU.out];exact World.ownsRow_nil _ _ _ _,hbr⟩
 · rintro a' w' ⟨hsz,hd,hU,hb⟩
   go_wp2
   simp only [Exit.jump]
   refine bodyPost_ret (v:= .tuple #[.slice none 0 0,.bool false]) (by simp [results,Tryz.results41,go_sem,hsz]) rfl ?_
   exact ⟨_,by rw [hU];rfl,by rw [hU];exact World.ownsRow_nil _ _ _ _,hb⟩
def cM (l:List UInt8):Option ap:=(pM l).bind aM
def qP (l:List UInt8):ap:=(cM l).getD dx
def oP (l:List UInt8):Bool:=(cM l).isSome
theorem lJ {l:List UInt8} {ts:List Tok} (h:pM l=some ts):cK ts∧ts.length≤l.length:=by
 obtain ⟨_,h2,h3⟩:=nD _ _ _ _ (show l9 (l.length+1) none l=some ts from h)
 exact ⟨fun t ht=>Nat.le_trans (h2 t ht) (by omega),h3⟩
theorem uT {l:List Tok} {c:ap} (h:aM l=some c) (ht:cK l):bg c.lf≤1048576:=by
 rw [eY] at h
 obtain ⟨z,h1,h2⟩:=aZ h
 have e:=uM (show pD l=some (z.1,z.2) from h1) ht
 unfold j6 at h2
 by_cases hk:bB (an z.1.2.2) 15=0
 · rw [if_pos hk] at h2
   cases h2
 · rw [if_neg hk] at h2
   obtain ⟨q,h3,h4⟩:=aZ h2
   unfold iR at h4
   by_cases hq:q.2=[]∧cg q.1=true
   · rw [if_pos hq] at h4
     injection h4 with h4
     subst h4
     exact (ry (show bh (aV z.1.1 z.1.2.1 (bB (an z.1.2.2) 15),z.2)=some (q.1,q.2) from h3) ⟨e.1,Nat.zero_le _,Nat.zero_le _,Nat.zero_le _,Nat.zero_le _,Nat.zero_le _⟩ e.2).sz
   · rw [if_neg hq] at h4
     cases h4
theorem zi {l:List Tok} {c:ap} (h:aM l=some c):cg c=true:=by
 rw [eY] at h
 obtain ⟨z,_,h2⟩:=aZ h
 unfold j6 at h2
 by_cases hk:bB (an z.1.2.2) 15=0
 · rw [if_pos hk] at h2
   cases h2
 · rw [if_neg hk] at h2
   obtain ⟨q,_,h4⟩:=aZ h2
   unfold iR at h4
   by_cases hq:q.2=[]∧cg q.1=true
   · rw [if_pos hq] at h4
     injection h4 with h4
     subst h4
     exact hq.2
   · rw [if_neg hq] at h4
     cases h4
theorem aba (w:World) {w':World} (hb:Below w.heap.size w w'):dL none w (.returned (.tuple #[bQ dx (.slice none 0 0) (.slice none 0 0),.bool false])) w':=
 ⟨.slice none 0 0,.slice none 0 0,[],[],rfl,bA _ _,aC _ _,List.nodup_nil,hb⟩
theorem dL.lower {U:Option ap} {w0 w w':World} {e:Ending} (h:dL U w e w') (hb:Below w0.heap.size w0 w):dL U w0 e w':=by
 obtain ⟨a5,a10,f5,f10,he,h5,h10,hn,hb2⟩:=h
 exact ⟨a5,a10,f5,f10,he,⟨h5.is,h5.nodup,fun k hk=>Nat.le_trans hb.size (h5.low k hk)⟩,⟨h10.is,h10.nodup,fun k hk=>Nat.le_trans hb.size (h10.low k hk)⟩,hn,hb.trans (hb2.mono hb.size)⟩
set_option maxRecDepth 20000 in
theorem pG (s:ByteArray) (w:World) (hs:s.size≤1048576):
 Calls Tryz.prog 19 #[.string s] w (dL (cM s.data.toList) w):=by
 have hz:s.data.toList.length=s.size:=dI s
 have C:=aa9 (fun W=>qr s W hs)
 have HR:=aa9 (heap_alloc_new w (.cells bj 29))
 have HBA:=aa9 (show Below w.heap.size w (w.alloc (.cells bj 29)) from (Below.refl _ _).alloc (Nat.le_refl _) _)
 cases hx:pM s.data.toList with
 | none=>
   have HV:=aa9 (show cM s.data.toList=none from by unfold cM;rw [hx];rfl)
   simp only [hx] at C
   clear hx hz hs
   go_enter Tryz.func19,Tryz.ntmps19
   go_wp2_with fail
   refine (C.out _).mono ?_
   rintro e w1 ⟨v,rfl,_,b1⟩
   have hres:=(b1.block w.heap.size (by simp)).trans HR.out
   have hbel:=HBA.out.trans (b1.mono (by simp))
   obtain ⟨Z,hZ⟩: ∃ Z,Z=w1.setRow w.heap.size bj:=⟨_,rfl⟩
   have hzr:Z.heap[w.heap.size]? =some (.cells bj 29 (0,0)):=by rw [hZ];exact setRow_heap _ _ _ _ _ _ hres
   have HBZ:=aa9 (show Below w.heap.size w Z from ac.below hbel (show ac w1 Z [w.heap.size] by rw [hZ];exact ⟨rfl,rfl,rfl,by simp [World.setRow],fun k _ hk=>setRow_other _ _ _ _ (by simpa using hk)⟩) (hbel).size (fun k hk=>by rw [List.mem_singleton.1 hk];exact Nat.le_refl _))
   obtain ⟨q0,q1,q2,q3,q4,q5,q6,q7,q8,q9,q10⟩:=cC11 hzr
   clear hzr b1 hbel
   go_wp2_with (refine ak rfl _ _ _ rfl w.heap.size bj (by rfl) (by rfl) _ _ hres (by kernel_rfl) rfl (by simp [Value.oneCell',sv]) ?_)
   rw [←hZ]
   refine bodyPost_ret (v:= .tuple #[.agg bj,.bool false]) (by simp [results,Tryz.results19,go_sem,q0,q1,q2,q3,q4,q5,q6,q7,q8,q9,q10]) rfl ?_
   rw [HV.out]
   exact aba w HBZ.out
 | some ts=>
   have HV:=aa9 (show cM s.data.toList=aM ts from by unfold cM;rw [hx];rfl)
   have HT:=aa9 (lJ hx)
   simp only [hx] at C
   clear hx
   go_enter Tryz.func19,Tryz.ntmps19
   go_wp2_with fail
   refine (C.out _).mono ?_
   rintro e w1 ⟨v,rfl,o1,b1⟩
   have CP:=aa9 (ey v ts w1 (Rd.of_own (enc:=dh) (fun _=>rfl) rfl o1) (c7.of_own o1) (by have:=HT.out.2;omega) (fun t ht=>Nat.le_trans (HT.out.1 t ht) (by omega)) (.inr HT.out.1))
   have hres1:=(b1.block w.heap.size (by simp)).trans HR.out
   have hbel1:=HBA.out.trans (b1.mono (by simp))
   clear o1 b1
   go_wp2_with fail
   refine CP.out.mono ?_
   intro e w2 hp
   obtain ⟨a5,a10,f5,f10,rfl,h5,h10,hnd,hb2⟩:=hp
   rw [←HV.out] at h5 h10
   have hU:(aM ts).isSome=(cM s.data.toList).isSome:=by rw [HV.out]
   have hC:(aM ts).getD dx=(cM s.data.toList).getD dx:=by rw [HV.out]
   rw [hU,hC]
   obtain ⟨ok,hok⟩: ∃ ok,ok=(cM s.data.toList).isSome:=⟨_,rfl⟩
   obtain ⟨c,hc⟩: ∃ c,c=(cM s.data.toList).getD dx:=⟨_,rfl⟩
   rw [←hok,←hc]
   rw [←hc] at h5 h10
   have HOK:=aa9 hok
   have HC:=aa9 hc
   obtain ⟨p5,c5,rfl⟩:=au.slice h5.is
   obtain ⟨p10,c10,rfl⟩:=au.slice h10.is
   have hz1:=hbel1.size
   have hlt1:w.heap.size < w1.heap.size:=(Array.getElem?_eq_some_iff.1 hres1).1
   have hres:=(hb2.block w.heap.size hlt1).trans hres1
   have hbel:=hbel1.trans (hb2.mono hz1)
   obtain ⟨Z,hZ⟩: ∃ Z,Z=w2.setRow w.heap.size #[sv c.tag,.int .i64 c.kind,sv c.box,sv c.dst,.bool c.uid,.slice p5 c.sset.length c5,.int .i64 c.op,.int .i64 c.flags,sv c.text,.bool c.filter.on,.slice p10 c.filter.scopes.length c10]:=⟨_,rfl⟩
   have hzr:Z.heap[w.heap.size]? =some (.cells #[sv c.tag,.int .i64 c.kind,sv c.box,sv c.dst,.bool c.uid,.slice p5 c.sset.length c5,.int .i64 c.op,.int .i64 c.flags,sv c.text,.bool c.filter.on,.slice p10 c.filter.scopes.length c10] 29 (0,0)):=by rw [hZ];exact setRow_heap _ _ _ _ _ _ hres
   have hgZ:ac w2 Z [w.heap.size]:=by rw [hZ];exact ⟨rfl,rfl,rfl,by simp [World.setRow],fun k _ hk=>setRow_other _ _ _ _ (by simpa using hk)⟩
   have HBZ:=aa9 (show Below w.heap.size w Z from ac.below hbel hgZ (hbel).size (fun k hk=>by rw [List.mem_singleton.1 hk];exact Nat.le_refl _))
   have h5':=h5.apart hgZ (fun k hk=>by have:=h5.low k hk;simp;omega)
   have h10':=h10.apart hgZ (fun k hk=>by have:=h10.low k hk;simp;omega)
   have H5:=aa9 (show cx Z w.heap.size _ _ _ from ⟨h5'.is,h5'.nodup,fun k hk=>by have:=h5'.low k hk;omega⟩)
   have H10:=aa9 (show cx Z w.heap.size _ _ _ from ⟨h10'.is,h10'.nodup,fun k hk=>by have:=h10'.low k hk;omega⟩)
   obtain ⟨q0,q1,q2,q3,q4,q5,q6,q7,q8,q9,q10⟩:=cC11 hzr
   clear hzr hbel hbel1 hres1 hgZ h5 h10 h5' h10' hb2 hU hC hok hc hs hz CP
   go_wp2_with (refine ak rfl _ _ _ rfl w.heap.size #[sv c.tag,.int .i64 c.kind,sv c.box,sv c.dst,.bool c.uid,.slice p5 c.sset.length c5,.int .i64 c.op,.int .i64 c.flags,sv c.text,.bool c.filter.on,.slice p10 c.filter.scopes.length c10] (by rfl) (by rfl) _ _ hres (by kernel_rfl) rfl (by simp [Value.oneCell',sv]) ?_)
   rw [←hZ]
   refine bodyPost_ret (v:= .tuple #[.agg #[sv c.tag,.int .i64 c.kind,sv c.box,sv c.dst,.bool c.uid,.slice p5 c.sset.length c5,.int .i64 c.op,.int .i64 c.flags,sv c.text,.bool c.filter.on,.slice p10 c.filter.scopes.length c10],.bool ok]) (by simp [results,Tryz.results19,go_sem,q0,q1,q2,q3,q4,q5,q6,q7,q8,q9,q10]) rfl ?_
   unfold dL
   rw [←HC.out,←HOK.out]
   exact ⟨_,_,f5,f10,rfl,H5.out,H10.out,hnd,HBZ.out⟩
set_option maxRecDepth 20000 in
theorem pH (s:ByteArray) (w:World) (hG:PG w) (hs:s.size≤1048576):
 Calls Tryz.prog 14 #[.string s] w (dL (cM s.data.toList) w):=by
 have hz:s.data.toList.length=s.size:=dI s
 have C:=aa9 (fun W (hM:Mx W)=>qF s W hM hs)
 have hG1:=aa9 (show PG (w.alloc (.cells bj 29)) from PG.keeps _ _ hG ((Below.refl _ _).alloc (Nat.le_refl _) _))
 have HR:=aa9 (heap_alloc_new w (.cells bj 29))
 have HBA:=aa9 (show Below w.heap.size w (w.alloc (.cells bj 29)) from (Below.refl _ _).alloc (Nat.le_refl _) _)
 cases hx:pM s.data.toList with
 | none=>
   have HV:=aa9 (show cM s.data.toList=none from by unfold cM;rw [hx];rfl)
   simp only [hx] at C
   clear hx hz hs hG
   go_enter Tryz.func14,Tryz.ntmps14
   go_wp2_with fail
   refine (C.out _ (hG1.out.1.2)).mono ?_
   rintro e w1 ⟨v,rfl,_,b1⟩
   have hres:=(b1.block w.heap.size (by simp)).trans HR.out
   have hbel:=HBA.out.trans (b1.mono (by simp))
   obtain ⟨Z,hZ⟩: ∃ Z,Z=w1.setRow w.heap.size bj:=⟨_,rfl⟩
   have hzr:Z.heap[w.heap.size]? =some (.cells bj 29 (0,0)):=by rw [hZ];exact setRow_heap _ _ _ _ _ _ hres
   have HBZ:=aa9 (show Below w.heap.size w Z from ac.below hbel (show ac w1 Z [w.heap.size] by rw [hZ];exact ⟨rfl,rfl,rfl,by simp [World.setRow],fun k _ hk=>setRow_other _ _ _ _ (by simpa using hk)⟩) (hbel).size (fun k hk=>by rw [List.mem_singleton.1 hk];exact Nat.le_refl _))
   obtain ⟨q0,q1,q2,q3,q4,q5,q6,q7,q8,q9,q10⟩:=cC11 hzr
   clear hzr b1 hbel
   go_wp2_with (refine ak rfl _ _ _ rfl w.heap.size bj (by rfl) (by rfl) _ _ hres (by kernel_rfl) rfl (by simp [Value.oneCell',sv]) ?_)
   rw [←hZ]
   refine bodyPost_ret (v:= .tuple #[.agg bj,.bool false]) (by simp [results,Tryz.results14,go_sem,q0,q1,q2,q3,q4,q5,q6,q7,q8,q9,q10]) rfl ?_
   rw [HV.out]
   exact aba w HBZ.out
 | some ts=>
   have HV:=aa9 (show cM s.data.toList=aM ts from by unfold cM;rw [hx];rfl)
   have HT:=aa9 (lJ hx)
   simp only [hx] at C
   clear hx hG
   go_enter Tryz.func14,Tryz.ntmps14
   go_wp2_with fail
   refine (C.out _ (hG1.out.1.2)).mono ?_
   rintro e w1 ⟨v,rfl,o1,b1⟩
   have CP:=aa9 (ew v ts w1 (PG.keeps _ _ hG1.out b1) (Rd.of_own (enc:=dh) (fun _=>rfl) rfl o1) (c7.of_own o1) (by have:=HT.out.2;omega) (fun t ht=>Nat.le_trans (HT.out.1 t ht) (by omega)) (.inr HT.out.1))
   have hres1:=(b1.block w.heap.size (by simp)).trans HR.out
   have hbel1:=HBA.out.trans (b1.mono (by simp))
   clear o1 b1
   go_wp2_with fail
   refine CP.out.mono ?_
   intro e w2 hp
   obtain ⟨a5,a10,f5,f10,rfl,h5,h10,hnd,hb2⟩:=hp
   rw [←HV.out] at h5 h10
   have hU:(aM ts).isSome=(cM s.data.toList).isSome:=by rw [HV.out]
   have hC:(aM ts).getD dx=(cM s.data.toList).getD dx:=by rw [HV.out]
   rw [hU,hC]
   obtain ⟨ok,hok⟩: ∃ ok,ok=(cM s.data.toList).isSome:=⟨_,rfl⟩
   obtain ⟨c,hc⟩: ∃ c,c=(cM s.data.toList).getD dx:=⟨_,rfl⟩
   rw [←hok,←hc]
   rw [←hc] at h5 h10
   have HOK:=aa9 hok
   have HC:=aa9 hc
   obtain ⟨p5,c5,rfl⟩:=au.slice h5.is
   obtain ⟨p10,c10,rfl⟩:=au.slice h10.is
   have hz1:=hbel1.size
   have hlt1:w.heap.size < w1.heap.size:=(Array.getElem?_eq_some_iff.1 hres1).1
   have hres:=(hb2.block w.heap.size hlt1).trans hres1
   have hbel:=hbel1.trans (hb2.mono hz1)
   obtain ⟨Z,hZ⟩: ∃ Z,Z=w2.setRow w.heap.size #[sv c.tag,.int .i64 c.kind,sv c.box,sv c.dst,.bool c.uid,.slice p5 c.sset.length c5,.int .i64 c.op,.int .i64 c.flags,sv c.text,.bool c.filter.on,.slice p10 c.filter.scopes.length c10]:=⟨_,rfl⟩
   have hzr:Z.heap[w.heap.size]? =some (.cells #[sv c.tag,.int .i64 c.kind,sv c.box,sv c.dst,.bool c.uid,.slice p5 c.sset.length c5,.int .i64 c.op,.int .i64 c.flags,sv c.text,.bool c.filter.on,.slice p10 c.filter.scopes.length c10] 29 (0,0)):=by rw [hZ];exact setRow_heap _ _ _ _ _ _ hres
   have hgZ:ac w2 Z [w.heap.size]:=by rw [hZ];exact ⟨rfl,rfl,rfl,by simp [World.setRow],fun k _ hk=>setRow_other _ _ _ _ (by simpa using hk)⟩
   have HBZ:=aa9 (show Below w.heap.size w Z from ac.below hbel hgZ (hbel).size (fun k hk=>by rw [List.mem_singleton.1 hk];exact Nat.le_refl _))
   have h5':=h5.apart hgZ (fun k hk=>by have:=h5.low k hk;simp;omega)
   have h10':=h10.apart hgZ (fun k hk=>by have:=h10.low k hk;simp;omega)
   have H5:=aa9 (show cx Z w.heap.size _ _ _ from ⟨h5'.is,h5'.nodup,fun k hk=>by have:=h5'.low k hk;omega⟩)
   have H10:=aa9 (show cx Z w.heap.size _ _ _ from ⟨h10'.is,h10'.nodup,fun k hk=>by have:=h10'.low k hk;omega⟩)
   obtain ⟨q0,q1,q2,q3,q4,q5,q6,q7,q8,q9,q10⟩:=cC11 hzr
   clear hzr hbel hbel1 hres1 hgZ h5 h10 h5' h10' hb2 hU hC hok hc hs hz CP
   go_wp2_with (refine ak rfl _ _ _ rfl w.heap.size #[sv c.tag,.int .i64 c.kind,sv c.box,sv c.dst,.bool c.uid,.slice p5 c.sset.length c5,.int .i64 c.op,.int .i64 c.flags,sv c.text,.bool c.filter.on,.slice p10 c.filter.scopes.length c10] (by rfl) (by rfl) _ _ hres (by kernel_rfl) rfl (by simp [Value.oneCell',sv]) ?_)
   rw [←hZ]
   refine bodyPost_ret (v:= .tuple #[.agg #[sv c.tag,.int .i64 c.kind,sv c.box,sv c.dst,.bool c.uid,.slice p5 c.sset.length c5,.int .i64 c.op,.int .i64 c.flags,sv c.text,.bool c.filter.on,.slice p10 c.filter.scopes.length c10],.bool ok]) (by simp [results,Tryz.results14,go_sem,q0,q1,q2,q3,q4,q5,q6,q7,q8,q9,q10]) rfl ?_
   unfold dL
   rw [←HC.out,←HOK.out]
   exact ⟨_,_,f5,f10,rfl,H5.out,H10.out,hnd,HBZ.out⟩
end Go.Proofs.YtmlgkoeacbeopaaGreatDoor
