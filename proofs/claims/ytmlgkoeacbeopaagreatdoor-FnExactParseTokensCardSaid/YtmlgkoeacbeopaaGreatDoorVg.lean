/- Vg -/
import Derived.Test.YtmlgkoeacbeopaaGreatDoorVf
namespace Go.Proofs.YtmlgkoeacbeopaaGreatDoor
open Go.RowKit
theorem uX {W:World} {l:List Tok} {v:Value} (h:az W (aQ l) v):Rd 2 dh W v l:=by
 obtain ⟨p,c,rfl,h2⟩:=Tok.at h
 refine ⟨p,c,rfl,h2.imp id ?_⟩
 rintro ⟨b,off,rfl,hb,hc⟩
 refine ⟨b,off,rfl,hb,fun i x hx j u hu=> ?_⟩
 obtain ⟨h0,h1⟩:=hc i x hx
 match j,hu with
 | 0,hu=>cases hu;exact h0
 | 1,hu=>cases hu;exact h1
theorem lL: ∀ l:List Tok,l.length≤tsz l∧ ∀ t∈l,t.text.length≤tsz l
 | []=>⟨Nat.le_refl _,fun t ht=>by cases ht⟩
 | a::r=>by
   obtain ⟨h1,h2⟩:=lL r
   have e:tsz (a::r)=1+a.text.length+tsz r:=rfl
   refine ⟨by rw [List.length_cons];omega,fun t ht=> ?_⟩
   rcases List.mem_cons.1 ht with rfl | ht
   · omega
   · have:=h2 t ht;omega
theorem uY {l:List Tok} {w w':World} {e:Ending} (h:dL (aM l) w e w'): ∃ z5 f5,∃ z10 f10,e= .returned (.tuple #[bQ (qT l) z5 z10,.bool (oT l)])∧au w' (am (qT l).sset) z5 f5∧au w' (aj (qT l).filter.scopes) z10 f10∧(f5++f10).Nodup∧(∀ q∈f5++f10,w.heap.size≤q)∧Below w.heap.size w w':=by
 obtain ⟨a5,a10,f5,f10,he,h5,h10,hn,hb⟩:=h
 exact ⟨a5,f5,a10,f10,he,h5.is,h10.is,hn,fun q hq=>(List.mem_append.1 hq).elim (h5.low q) (h10.low q),hb⟩
theorem uZ {l:List Tok} {c:ap} (h:aM l=some c):bg c.lf≤tsz l:=by
 rw [eY] at h
 obtain ⟨z,h1,h2⟩:=aZ h
 have e:=rB (show pD l=some (z.1,z.2) from h1)
 unfold j6 at h2
 by_cases hk:bB (an z.1.2.2) 15=0
 · rw [if_pos hk] at h2
   cases h2
 · rw [if_neg hk] at h2
   obtain ⟨q,h3,h4⟩:=aZ h2
   unfold iR at h4
   by_cases hq:q.2=[]∧cg q.1=true
   · rw [if_pos hq] at h4
     injection h4 with h4
     subst h4
     have e2:=pl (show bh (aV z.1.1 z.1.2.1 (bB (an z.1.2.2) 15),z.2)=some (q.1,q.2) from h3)
     rw [ap.sz (aV z.1.1 z.1.2.1 (bB (an z.1.2.2) 15))] at e2
     have h5:(aV z.1.1 z.1.2.1 (bB (an z.1.2.2) 15)).tag.length+(aV z.1.1 z.1.2.1 (bB (an z.1.2.2) 15)).box.length+(aV z.1.1 z.1.2.1 (bB (an z.1.2.2) 15)).dst.length+co (am (aV z.1.1 z.1.2.1 (bB (an z.1.2.2) 15)).sset)+(aV z.1.1 z.1.2.1 (bB (an z.1.2.2) 15)).text.length+co (aj (aV z.1.1 z.1.2.1 (bB (an z.1.2.2) 15)).filter.scopes)=z.1.1.length:=rfl
     omega
   · rw [if_neg hq] at h4
     cases h4
theorem aav {l:List Tok} (h:co (aQ l)≤1048576):bg (qT l).lf≤1000000000:=by
 rw [uu] at h
 unfold qT
 cases hx:aM l with
 | none=>exact Nat.zero_le _
 | some c=>
   have:=uZ hx
   show bg c.lf≤_
   omega
theorem jM:dD 23 (fun _=>True):=fun l v W _ hr hc hs _=>by
 rw [uu] at hs
 obtain ⟨h1,h2⟩:=lL l
 exact (ey v l W (uX hr) hc (by omega) (fun t ht=>by have:=h2 t ht;omega) (.inl hs)).mono fun e w' h=>uY h
theorem jN:dD 25 PG:=fun l v W hG hr hc hs _=>by
 rw [uu] at hs
 obtain ⟨h1,h2⟩:=lL l
 exact (ew v l W hG (uX hr) hc (by omega) (fun t ht=>by have:=h2 t ht;omega) (.inl hs)).mono fun e w' h=>uY h
end Go.Proofs.YtmlgkoeacbeopaaGreatDoor
