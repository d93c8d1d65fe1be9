/- Un -/
import Derived.Test.YtmlgkoeacbeopaaGreatDoorUk
import Derived.Test.YtmlgkoeacbeopaaGreatDoorUl
import Derived.Test.YtmlgkoeacbeopaaGreatDoorUm
namespace Go.Proofs.YtmlgkoeacbeopaaGreatDoor
open Go.RowKit
theorem nr (x:ap) (p q:Option Addr) (c d:Nat) (w:World) (hk:1≤x.kind∧x.kind≤15) (ha:az w (am x.sset) (.slice p x.sset.length c)) (ha2:az w (aj x.filter.scopes) (.slice q x.filter.scopes.length d)) (hs:bg x.lf≤1048576) (hbd:bs x.lf):
 Calls Tryz.prog 39 #[bQ x (.slice p x.sset.length c) (.slice q x.filter.scopes.length d)] w fun e w'=>e= .returned (.tuple #[bQ (aG x) (bK x (.slice p x.sset.length c)) (aU x (.slice q x.filter.scopes.length d)),.bool (bO x)])∧Below w.heap.size w w':=by
 by_cases h1:x.kind=1
 · clear hk
   have e1:ar x.kind=false:=by rw [h1];rfl
   have e2:ay x.kind=false:=by rw [h1];rfl
   have p14:(x.kind=14)=False:=eq_false (by omega)
   have p8:(x.kind=8)=False:=eq_false (by omega)
   have p11:(x.kind=11)=False:=eq_false (by omega)
   have p6:(x.kind=6)=False:=eq_false (by omega)
   have p7:(x.kind=7)=False:=eq_false (by omega)
   have p10:(x.kind=10)=False:=eq_false (by omega)
   have ev:bQ (aG x) (bK x (.slice p x.sset.length c)) (aU x (.slice q x.filter.scopes.length d))= .agg #[sv x.tag,.int .i64 x.kind,sv [],sv [],.bool false,.slice none 0 0,.int .i64 0,.int .i64 0,sv [],.bool false,.slice none 0 0]:=by
    simp [bQ,aG,bK,aU,e1,e2,p14,p8,p11,p6]
   have eo:bO x=(true):=by
    simp [bO,p14,p11,p7,p10,p8,p6,e1]
   rw [ev,eo]
   exact zX x p q c d w h1 ha ha2 hs hbd
 by_cases h3:x.kind=3
 · clear hk
   have e1:ar x.kind=false:=by rw [h3];rfl
   have e2:ay x.kind=false:=by rw [h3];rfl
   have p14:(x.kind=14)=False:=eq_false (by omega)
   have p8:(x.kind=8)=False:=eq_false (by omega)
   have p11:(x.kind=11)=False:=eq_false (by omega)
   have p6:(x.kind=6)=False:=eq_false (by omega)
   have p7:(x.kind=7)=False:=eq_false (by omega)
   have p10:(x.kind=10)=False:=eq_false (by omega)
   have ev:bQ (aG x) (bK x (.slice p x.sset.length c)) (aU x (.slice q x.filter.scopes.length d))= .agg #[sv x.tag,.int .i64 x.kind,sv [],sv [],.bool false,.slice none 0 0,.int .i64 0,.int .i64 0,sv [],.bool false,.slice none 0 0]:=by
    simp [bQ,aG,bK,aU,e1,e2,p14,p8,p11,p6]
   have eo:bO x=(true):=by
    simp [bO,p14,p11,p7,p10,p8,p6,e1]
   rw [ev,eo]
   exact zY x p q c d w h3 ha ha2 hs hbd
 by_cases h4:x.kind=4
 · clear hk
   have e1:ar x.kind=false:=by rw [h4];rfl
   have e2:ay x.kind=false:=by rw [h4];rfl
   have p14:(x.kind=14)=False:=eq_false (by omega)
   have p8:(x.kind=8)=False:=eq_false (by omega)
   have p11:(x.kind=11)=False:=eq_false (by omega)
   have p6:(x.kind=6)=False:=eq_false (by omega)
   have p7:(x.kind=7)=False:=eq_false (by omega)
   have p10:(x.kind=10)=False:=eq_false (by omega)
   have ev:bQ (aG x) (bK x (.slice p x.sset.length c)) (aU x (.slice q x.filter.scopes.length d))= .agg #[sv x.tag,.int .i64 x.kind,sv [],sv [],.bool false,.slice none 0 0,.int .i64 0,.int .i64 0,sv [],.bool false,.slice none 0 0]:=by
    simp [bQ,aG,bK,aU,e1,e2,p14,p8,p11,p6]
   have eo:bO x=(true):=by
    simp [bO,p14,p11,p7,p10,p8,p6,e1]
   rw [ev,eo]
   exact zZ x p q c d w h4 ha ha2 hs hbd
 by_cases h5:x.kind=5
 · clear hk
   have e1:ar x.kind=false:=by rw [h5];rfl
   have e2:ay x.kind=false:=by rw [h5];rfl
   have p14:(x.kind=14)=False:=eq_false (by omega)
   have p8:(x.kind=8)=False:=eq_false (by omega)
   have p11:(x.kind=11)=False:=eq_false (by omega)
   have p6:(x.kind=6)=False:=eq_false (by omega)
   have p7:(x.kind=7)=False:=eq_false (by omega)
   have p10:(x.kind=10)=False:=eq_false (by omega)
   have ev:bQ (aG x) (bK x (.slice p x.sset.length c)) (aU x (.slice q x.filter.scopes.length d))= .agg #[sv x.tag,.int .i64 x.kind,sv [],sv [],.bool false,.slice none 0 0,.int .i64 0,.int .i64 0,sv [],.bool false,.slice none 0 0]:=by
    simp [bQ,aG,bK,aU,e1,e2,p14,p8,p11,p6]
   have eo:bO x=(true):=by
    simp [bO,p14,p11,p7,p10,p8,p6,e1]
   rw [ev,eo]
   exact aaa x p q c d w h5 ha ha2 hs hbd
 by_cases h9:x.kind=9
 · clear hk
   have e1:ar x.kind=false:=by rw [h9];rfl
   have e2:ay x.kind=false:=by rw [h9];rfl
   have p14:(x.kind=14)=False:=eq_false (by omega)
   have p8:(x.kind=8)=False:=eq_false (by omega)
   have p11:(x.kind=11)=False:=eq_false (by omega)
   have p6:(x.kind=6)=False:=eq_false (by omega)
   have p7:(x.kind=7)=False:=eq_false (by omega)
   have p10:(x.kind=10)=False:=eq_false (by omega)
   have ev:bQ (aG x) (bK x (.slice p x.sset.length c)) (aU x (.slice q x.filter.scopes.length d))= .agg #[sv x.tag,.int .i64 x.kind,sv [],sv [],.bool false,.slice none 0 0,.int .i64 0,.int .i64 0,sv [],.bool false,.slice none 0 0]:=by
    simp [bQ,aG,bK,aU,e1,e2,p14,p8,p11,p6]
   have eo:bO x=(true):=by
    simp [bO,p14,p11,p7,p10,p8,p6,e1]
   rw [ev,eo]
   exact aab x p q c d w h9 ha ha2 hs hbd
 by_cases h15:x.kind=15
 · clear hk
   have e1:ar x.kind=false:=by rw [h15];rfl
   have e2:ay x.kind=false:=by rw [h15];rfl
   have p14:(x.kind=14)=False:=eq_false (by omega)
   have p8:(x.kind=8)=False:=eq_false (by omega)
   have p11:(x.kind=11)=False:=eq_false (by omega)
   have p6:(x.kind=6)=False:=eq_false (by omega)
   have p7:(x.kind=7)=False:=eq_false (by omega)
   have p10:(x.kind=10)=False:=eq_false (by omega)
   have ev:bQ (aG x) (bK x (.slice p x.sset.length c)) (aU x (.slice q x.filter.scopes.length d))= .agg #[sv x.tag,.int .i64 x.kind,sv [],sv [],.bool false,.slice none 0 0,.int .i64 0,.int .i64 0,sv [],.bool false,.slice none 0 0]:=by
    simp [bQ,aG,bK,aU,e1,e2,p14,p8,p11,p6]
   have eo:bO x=(true):=by
    simp [bO,p14,p11,p7,p10,p8,p6,e1]
   rw [ev,eo]
   exact yI x p q c d w h15 ha ha2 hs hbd
 by_cases h2:x.kind=2
 · clear hk
   have e1:ar x.kind=true:=by rw [h2];rfl
   have e2:ay x.kind=false:=by rw [h2];rfl
   have p14:(x.kind=14)=False:=eq_false (by omega)
   have p8:(x.kind=8)=False:=eq_false (by omega)
   have p11:(x.kind=11)=False:=eq_false (by omega)
   have p6:(x.kind=6)=False:=eq_false (by omega)
   have p7:(x.kind=7)=False:=eq_false (by omega)
   have p10:(x.kind=10)=False:=eq_false (by omega)
   have ev:bQ (aG x) (bK x (.slice p x.sset.length c)) (aU x (.slice q x.filter.scopes.length d))= .agg #[sv x.tag,.int .i64 x.kind,sv x.box,sv [],.bool false,.slice none 0 0,.int .i64 0,.int .i64 0,sv [],.bool false,.slice none 0 0]:=by
    simp [bQ,aG,bK,aU,e1,e2,p14,p8,p11,p6]
   have eo:bO x=(aH x.box):=by
    simp [bO,p14,p11,p7,p10,p8,p6,e1]
   rw [ev,eo]
   exact aac x p q c d w h2 ha ha2 hs hbd
 by_cases h12:x.kind=12
 · clear hk
   have e1:ar x.kind=true:=by rw [h12];rfl
   have e2:ay x.kind=false:=by rw [h12];rfl
   have p14:(x.kind=14)=False:=eq_false (by omega)
   have p8:(x.kind=8)=False:=eq_false (by omega)
   have p11:(x.kind=11)=False:=eq_false (by omega)
   have p6:(x.kind=6)=False:=eq_false (by omega)
   have p7:(x.kind=7)=False:=eq_false (by omega)
   have p10:(x.kind=10)=False:=eq_false (by omega)
   have ev:bQ (aG x) (bK x (.slice p x.sset.length c)) (aU x (.slice q x.filter.scopes.length d))= .agg #[sv x.tag,.int .i64 x.kind,sv x.box,sv [],.bool false,.slice none 0 0,.int .i64 0,.int .i64 0,sv [],.bool false,.slice none 0 0]:=by
    simp [bQ,aG,bK,aU,e1,e2,p14,p8,p11,p6]
   have eo:bO x=(aH x.box):=by
    simp [bO,p14,p11,p7,p10,p8,p6,e1]
   rw [ev,eo]
   exact yJ x p q c d w h12 ha ha2 hs hbd
 by_cases h13:x.kind=13
 · clear hk
   have e1:ar x.kind=true:=by rw [h13];rfl
   have e2:ay x.kind=false:=by rw [h13];rfl
   have p14:(x.kind=14)=False:=eq_false (by omega)
   have p8:(x.kind=8)=False:=eq_false (by omega)
   have p11:(x.kind=11)=False:=eq_false (by omega)
   have p6:(x.kind=6)=False:=eq_false (by omega)
   have p7:(x.kind=7)=False:=eq_false (by omega)
   have p10:(x.kind=10)=False:=eq_false (by omega)
   have ev:bQ (aG x) (bK x (.slice p x.sset.length c)) (aU x (.slice q x.filter.scopes.length d))= .agg #[sv x.tag,.int .i64 x.kind,sv x.box,sv [],.bool false,.slice none 0 0,.int .i64 0,.int .i64 0,sv [],.bool false,.slice none 0 0]:=by
    simp [bQ,aG,bK,aU,e1,e2,p14,p8,p11,p6]
   have eo:bO x=(aH x.box):=by
    simp [bO,p14,p11,p7,p10,p8,p6,e1]
   rw [ev,eo]
   exact yK x p q c d w h13 ha ha2 hs hbd
 by_cases h14:x.kind=14
 · clear hk
   have e1:ar x.kind=true:=by rw [h14];rfl
   have e2:ay x.kind=false:=by rw [h14];rfl
   have p14:(x.kind=14)=True:=eq_true (by omega)
   have p8:(x.kind=8)=False:=eq_false (by omega)
   have p11:(x.kind=11)=False:=eq_false (by omega)
   have p6:(x.kind=6)=False:=eq_false (by omega)
   have ev:bQ (aG x) (bK x (.slice p x.sset.length c)) (aU x (.slice q x.filter.scopes.length d))= .agg #[sv x.tag,.int .i64 x.kind,sv x.box,sv x.dst,.bool false,.slice none 0 0,.int .i64 0,.int .i64 0,sv [],.bool false,.slice none 0 0]:=by
    simp [bQ,aG,bK,aU,e1,e2,p14,p8,p11,p6]
   have eo:bO x=(aH x.box && aH x.dst):=by
    simp [bO,p14]
   rw [ev,eo]
   exact yL x p q c d w h14 ha ha2 hs hbd
 by_cases h11:x.kind=11
 · clear hk
   have e1:ar x.kind=true:=by rw [h11];rfl
   have e2:ay x.kind=false:=by rw [h11];rfl
   have p14:(x.kind=14)=False:=eq_false (by omega)
   have p8:(x.kind=8)=False:=eq_false (by omega)
   have p11:(x.kind=11)=True:=eq_true (by omega)
   have p6:(x.kind=6)=False:=eq_false (by omega)
   have ev:bQ (aG x) (bK x (.slice p x.sset.length c)) (aU x (.slice q x.filter.scopes.length d))= .agg #[sv x.tag,.int .i64 x.kind,sv x.box,sv [],.bool false,.slice none 0 0,.int .i64 0,.int .i64 x.flags,sv x.text,.bool false,.slice none 0 0]:=by
    simp [bQ,aG,bK,aU,e1,e2,p14,p8,p11,p6]
   have eo:bO x=(aH x.box && flB x.flags && decide ((x.text.length:Int)≤40)):=by
    simp [bO,p14,p11]
   rw [ev,eo]
   exact yM x p q c d w h11 ha ha2 hs hbd
 by_cases h7:x.kind=7
 · clear hk
   have e1:ar x.kind=false:=by rw [h7];rfl
   have e2:ay x.kind=true:=by rw [h7];rfl
   have p14:(x.kind=14)=False:=eq_false (by omega)
   have p8:(x.kind=8)=False:=eq_false (by omega)
   have p11:(x.kind=11)=False:=eq_false (by omega)
   have p6:(x.kind=6)=False:=eq_false (by omega)
   have p7:(x.kind=7)=True:=eq_true (by omega)
   have ev:bQ (aG x) (bK x (.slice p x.sset.length c)) (aU x (.slice q x.filter.scopes.length d))= .agg #[sv x.tag,.int .i64 x.kind,sv [],sv [],.bool x.uid,.slice p x.sset.length c,.int .i64 0,.int .i64 0,sv [],.bool false,.slice none 0 0]:=by
    simp [bQ,aG,bK,aU,e1,e2,p14,p8,p11,p6]
   have eo:bO x=(setB x.sset):=by
    simp [bO,p14,p11,p7]
   rw [ev,eo]
   exact aad x p q c d w h7 ha ha2 hs hbd
 by_cases h10:x.kind=10
 · clear hk
   have e1:ar x.kind=true:=by rw [h10];rfl
   have e2:ay x.kind=true:=by rw [h10];rfl
   have p14:(x.kind=14)=False:=eq_false (by omega)
   have p8:(x.kind=8)=False:=eq_false (by omega)
   have p11:(x.kind=11)=False:=eq_false (by omega)
   have p6:(x.kind=6)=False:=eq_false (by omega)
   have p7:(x.kind=7)=False:=eq_false (by omega)
   have p10:(x.kind=10)=True:=eq_true (by omega)
   have ev:bQ (aG x) (bK x (.slice p x.sset.length c)) (aU x (.slice q x.filter.scopes.length d))= .agg #[sv x.tag,.int .i64 x.kind,sv x.box,sv [],.bool x.uid,.slice p x.sset.length c,.int .i64 0,.int .i64 0,sv [],.bool false,.slice none 0 0]:=by
    simp [bQ,aG,bK,aU,e1,e2,p14,p8,p11,p6]
   have eo:bO x=(setB x.sset && aH x.box):=by
    simp [bO,p14,p11,p7,p10]
   rw [ev,eo]
   exact yN x p q c d w h10 ha ha2 hs hbd
 by_cases h8:x.kind=8
 · clear hk
   have e1:ar x.kind=false:=by rw [h8];rfl
   have e2:ay x.kind=true:=by rw [h8];rfl
   have p14:(x.kind=14)=False:=eq_false (by omega)
   have p8:(x.kind=8)=True:=eq_true (by omega)
   have p11:(x.kind=11)=False:=eq_false (by omega)
   have p6:(x.kind=6)=False:=eq_false (by omega)
   have p7:(x.kind=7)=False:=eq_false (by omega)
   have p10:(x.kind=10)=False:=eq_false (by omega)
   have ev:bQ (aG x) (bK x (.slice p x.sset.length c)) (aU x (.slice q x.filter.scopes.length d))= .agg #[sv x.tag,.int .i64 x.kind,sv [],sv [],.bool x.uid,.slice p x.sset.length c,.int .i64 x.op,.int .i64 x.flags,sv [],.bool false,.slice none 0 0]:=by
    simp [bQ,aG,bK,aU,e1,e2,p14,p8,p11,p6]
   have eo:bO x=(setB x.sset && opB x.op && flB x.flags):=by
    simp [bO,p14,p11,p7,p10,p8]
   rw [ev,eo]
   exact aae x p q c d w h8 ha ha2 hs hbd
 by_cases h6:x.kind=6
 · clear hk
   have e1:ar x.kind=false:=by rw [h6];rfl
   have e2:ay x.kind=false:=by rw [h6];rfl
   have p14:(x.kind=14)=False:=eq_false (by omega)
   have p8:(x.kind=8)=False:=eq_false (by omega)
   have p11:(x.kind=11)=False:=eq_false (by omega)
   have p6:(x.kind=6)=True:=eq_true (by omega)
   have p7:(x.kind=7)=False:=eq_false (by omega)
   have p10:(x.kind=10)=False:=eq_false (by omega)
   have ev:bQ (aG x) (bK x (.slice p x.sset.length c)) (aU x (.slice q x.filter.scopes.length d))= .agg #[sv x.tag,.int .i64 x.kind,sv [],sv [],.bool false,.slice none 0 0,.int .i64 0,.int .i64 0,sv [],.bool x.filter.on,.slice q x.filter.scopes.length d]:=by
    simp [bQ,aG,bK,aU,e1,e2,p14,p8,p11,p6]
   have eo:bO x=(aN x.filter):=by
    simp [bO,p14,p11,p7,p10,p8,p6]
   rw [ev,eo]
   exact aaf x p q c d w h6 ha ha2 hs hbd
 exfalso
 omega
end Go.Proofs.YtmlgkoeacbeopaaGreatDoor
