/- Vg2 -/
import Derived.Test.YtmlgkoeacbeopaaGreatDoorVe
namespace Go.Proofs.YtmlgkoeacbeopaaGreatDoor
open Go.RowKit
theorem vc {l:List UInt8} {w w':World} {e:Ending} (h:dL (cM l) w e w'): ∃ z5 f5,∃ z10 f10,e= .returned (.tuple #[bQ (qP l) z5 z10,.bool (oP l)])∧au w' (am (qP l).sset) z5 f5∧au w' (aj (qP l).filter.scopes) z10 f10∧(f5++f10).Nodup∧(∀ q∈f5++f10,w.heap.size≤q)∧Below w.heap.size w w':=by
 obtain ⟨a5,a10,f5,f10,he,h5,h10,hn,hb⟩:=h
 exact ⟨a5,f5,a10,f10,he,h5.is,h10.is,hn,fun q hq=>(List.mem_append.1 hq).elim (h5.low q) (h10.low q),hb⟩
theorem aaw (l:List UInt8):bg (qP l).lf≤1000000000:=by
 unfold qP cM
 cases hx:pM l with
 | none=>exact Nat.zero_le _
 | some ts=>
   show bg ((aM ts).getD dx).lf≤_
   cases hy:aM ts with
   | none=>exact Nat.zero_le _
   | some c=>exact Nat.le_trans (uT hy (lJ hx).1) (by omega)
theorem qG:kj 19 (fun _=>True):=fun l W _ hs=>
 (pG ⟨l.toArray⟩ W (by show l.toArray.size≤_;simpa using hs)).mono fun e w' h=>vc h
theorem qH:kj 14 PG:=fun l W hG hs=>
 (pH ⟨l.toArray⟩ W hG (by show l.toArray.size≤_;simpa using hs)).mono fun e w' h=>vc h
end Go.Proofs.YtmlgkoeacbeopaaGreatDoor
