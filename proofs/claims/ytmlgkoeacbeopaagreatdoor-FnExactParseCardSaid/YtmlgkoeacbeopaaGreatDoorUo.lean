/- Uo -/
import Derived.Test.YtmlgkoeacbeopaaGreatDoorUg
set_option maxHeartbeats 6400000
namespace Go.Proofs.YtmlgkoeacbeopaaGreatDoor
open Go.RowKit
private theorem cTrue {a b : Int} (h : a = b) : (a == b) = true := beq_iff_eq.2 h
set_option maxRecDepth 20000 in
theorem vK (x:ap) (p q:Option Addr) (c d:Nat) (w:World) (hk:x.kind=14):
 Calls Tryz.prog 51 #[bQ x (.slice p x.sset.length c) (.slice q x.filter.scopes.length d)] w fun e w'=>e= .returned (.agg #[sv x.tag,.int .i64 x.kind,sv x.box,sv x.dst,.bool false,.slice none 0 0,.int .i64 0,.int .i64 0,sv [],.bool false,.slice none 0 0])∧Below w.heap.size w w':=by
 have hbx:ar x.kind=true:=by unfold ar;simp only [Bool.or_eq_true,beq_iff_eq];omega
 have hst:ay x.kind=false:=by unfold ay;simp only [Bool.or_eq_false_iff,beq_eq_false_iff_ne];omega
 have t14:(x.kind==14)=true:=cTrue (by omega)
 have t8:(x.kind==8)=false:=cFalse (by omega)
 have t11:(x.kind==11)=false:=cFalse (by omega)
 have t6:(x.kind==6)=false:=cFalse (by omega)
 have cb:=fun W=>ba x.kind W
 have cs:=fun W=>bu x.kind W
 rw [hbx] at cb
 rw [hst] at cs
 have CB:=aa9 cb
 have CS:=aa9 cs
 clear cb cs hbx hst hk
 go_enter Tryz.func51,Tryz.ntmps51
 go_wp2_with fail
 refine (CB.out _).mono ?_
 rintro e w1 ⟨rfl,rfl⟩
 go_wp2_with fail
 refine (CS.out _).mono ?_
 rintro e w1 ⟨rfl,rfl⟩
 go_wp2
 go_returns
 exact ⟨rfl,(((Below.refl _ _).alloc (Nat.le_refl _) _).alloc (by simp) _).alloc (by simp;omega) _⟩
set_option maxRecDepth 20000 in
theorem vL (x:ap) (p q:Option Addr) (c d:Nat) (w:World) (hk:x.kind=8):
 Calls Tryz.prog 51 #[bQ x (.slice p x.sset.length c) (.slice q x.filter.scopes.length d)] w fun e w'=>e= .returned (.agg #[sv x.tag,.int .i64 x.kind,sv [],sv [],.bool x.uid,.slice p x.sset.length c,.int .i64 x.op,.int .i64 x.flags,sv [],.bool false,.slice none 0 0])∧Below w.heap.size w w':=by
 have hbx:ar x.kind=false:=by unfold ar;simp only [Bool.or_eq_false_iff,beq_eq_false_iff_ne];omega
 have hst:ay x.kind=true:=by unfold ay;simp only [Bool.or_eq_true,beq_iff_eq];omega
 have t14:(x.kind==14)=false:=cFalse (by omega)
 have t8:(x.kind==8)=true:=cTrue (by omega)
 have t11:(x.kind==11)=false:=cFalse (by omega)
 have t6:(x.kind==6)=false:=cFalse (by omega)
 have cb:=fun W=>ba x.kind W
 have cs:=fun W=>bu x.kind W
 rw [hbx] at cb
 rw [hst] at cs
 have CB:=aa9 cb
 have CS:=aa9 cs
 clear cb cs hbx hst hk
 go_enter Tryz.func51,Tryz.ntmps51
 go_wp2_with fail
 refine (CB.out _).mono ?_
 rintro e w1 ⟨rfl,rfl⟩
 go_wp2_with fail
 refine (CS.out _).mono ?_
 rintro e w1 ⟨rfl,rfl⟩
 go_wp2
 go_returns
 exact ⟨rfl,(((Below.refl _ _).alloc (Nat.le_refl _) _).alloc (by simp) _).alloc (by simp;omega) _⟩
set_option maxRecDepth 20000 in
theorem vM (x:ap) (p q:Option Addr) (c d:Nat) (w:World) (hk:x.kind=11):
 Calls Tryz.prog 51 #[bQ x (.slice p x.sset.length c) (.slice q x.filter.scopes.length d)] w fun e w'=>e= .returned (.agg #[sv x.tag,.int .i64 x.kind,sv x.box,sv [],.bool false,.slice none 0 0,.int .i64 0,.int .i64 x.flags,sv x.text,.bool false,.slice none 0 0])∧Below w.heap.size w w':=by
 have hbx:ar x.kind=true:=by unfold ar;simp only [Bool.or_eq_true,beq_iff_eq];omega
 have hst:ay x.kind=false:=by unfold ay;simp only [Bool.or_eq_false_iff,beq_eq_false_iff_ne];omega
 have t14:(x.kind==14)=false:=cFalse (by omega)
 have t8:(x.kind==8)=false:=cFalse (by omega)
 have t11:(x.kind==11)=true:=cTrue (by omega)
 have t6:(x.kind==6)=false:=cFalse (by omega)
 have cb:=fun W=>ba x.kind W
 have cs:=fun W=>bu x.kind W
 rw [hbx] at cb
 rw [hst] at cs
 have CB:=aa9 cb
 have CS:=aa9 cs
 clear cb cs hbx hst hk
 go_enter Tryz.func51,Tryz.ntmps51
 go_wp2_with fail
 refine (CB.out _).mono ?_
 rintro e w1 ⟨rfl,rfl⟩
 go_wp2_with fail
 refine (CS.out _).mono ?_
 rintro e w1 ⟨rfl,rfl⟩
 go_wp2
 go_returns
 exact ⟨rfl,(((Below.refl _ _).alloc (Nat.le_refl _) _).alloc (by simp) _).alloc (by simp;omega) _⟩
set_option maxRecDepth 20000 in
theorem vN (x:ap) (p q:Option Addr) (c d:Nat) (w:World) (hk:x.kind=6):
 Calls Tryz.prog 51 #[bQ x (.slice p x.sset.length c) (.slice q x.filter.scopes.length d)] w fun e w'=>e= .returned (.agg #[sv x.tag,.int .i64 x.kind,sv [],sv [],.bool false,.slice none 0 0,.int .i64 0,.int .i64 0,sv [],.bool x.filter.on,.slice q x.filter.scopes.length d])∧Below w.heap.size w w':=by
 have hbx:ar x.kind=false:=by unfold ar;simp only [Bool.or_eq_false_iff,beq_eq_false_iff_ne];omega
 have hst:ay x.kind=false:=by unfold ay;simp only [Bool.or_eq_false_iff,beq_eq_false_iff_ne];omega
 have t14:(x.kind==14)=false:=cFalse (by omega)
 have t8:(x.kind==8)=false:=cFalse (by omega)
 have t11:(x.kind==11)=false:=cFalse (by omega)
 have t6:(x.kind==6)=true:=cTrue (by omega)
 have cb:=fun W=>ba x.kind W
 have cs:=fun W=>bu x.kind W
 rw [hbx] at cb
 rw [hst] at cs
 have CB:=aa9 cb
 have CS:=aa9 cs
 clear cb cs hbx hst hk
 go_enter Tryz.func51,Tryz.ntmps51
 go_wp2_with fail
 refine (CB.out _).mono ?_
 rintro e w1 ⟨rfl,rfl⟩
 go_wp2_with fail
 refine (CS.out _).mono ?_
 rintro e w1 ⟨rfl,rfl⟩
 go_wp2
 go_returns
 exact ⟨rfl,(((Below.refl _ _).alloc (Nat.le_refl _) _).alloc (by simp) _).alloc (by simp;omega) _⟩
set_option maxRecDepth 20000 in
theorem vO (x:ap) (p q:Option Addr) (c d:Nat) (w:World) (hk:x.kind=10):
 Calls Tryz.prog 51 #[bQ x (.slice p x.sset.length c) (.slice q x.filter.scopes.length d)] w fun e w'=>e= .returned (.agg #[sv x.tag,.int .i64 x.kind,sv x.box,sv [],.bool x.uid,.slice p x.sset.length c,.int .i64 0,.int .i64 0,sv [],.bool false,.slice none 0 0])∧Below w.heap.size w w':=by
 have hbx:ar x.kind=true:=by unfold ar;simp only [Bool.or_eq_true,beq_iff_eq];omega
 have hst:ay x.kind=true:=by unfold ay;simp only [Bool.or_eq_true,beq_iff_eq];omega
 have t14:(x.kind==14)=false:=cFalse (by omega)
 have t8:(x.kind==8)=false:=cFalse (by omega)
 have t11:(x.kind==11)=false:=cFalse (by omega)
 have t6:(x.kind==6)=false:=cFalse (by omega)
 have cb:=fun W=>ba x.kind W
 have cs:=fun W=>bu x.kind W
 rw [hbx] at cb
 rw [hst] at cs
 have CB:=aa9 cb
 have CS:=aa9 cs
 clear cb cs hbx hst hk
 go_enter Tryz.func51,Tryz.ntmps51
 go_wp2_with fail
 refine (CB.out _).mono ?_
 rintro e w1 ⟨rfl,rfl⟩
 go_wp2_with fail
 refine (CS.out _).mono ?_
 rintro e w1 ⟨rfl,rfl⟩
 go_wp2
 go_returns
 exact ⟨rfl,(((Below.refl _ _).alloc (Nat.le_refl _) _).alloc (by simp) _).alloc (by simp;omega) _⟩
set_option maxRecDepth 20000 in
theorem vP (x:ap) (p q:Option Addr) (c d:Nat) (w:World) (hk:x.kind=7):
 Calls Tryz.prog 51 #[bQ x (.slice p x.sset.length c) (.slice q x.filter.scopes.length d)] w fun e w'=>e= .returned (.agg #[sv x.tag,.int .i64 x.kind,sv [],sv [],.bool x.uid,.slice p x.sset.length c,.int .i64 0,.int .i64 0,sv [],.bool false,.slice none 0 0])∧Below w.heap.size w w':=by
 have hbx:ar x.kind=false:=by unfold ar;simp only [Bool.or_eq_false_iff,beq_eq_false_iff_ne];omega
 have hst:ay x.kind=true:=by unfold ay;simp only [Bool.or_eq_true,beq_iff_eq];omega
 have t14:(x.kind==14)=false:=cFalse (by omega)
 have t8:(x.kind==8)=false:=cFalse (by omega)
 have t11:(x.kind==11)=false:=cFalse (by omega)
 have t6:(x.kind==6)=false:=cFalse (by omega)
 have cb:=fun W=>ba x.kind W
 have cs:=fun W=>bu x.kind W
 rw [hbx] at cb
 rw [hst] at cs
 have CB:=aa9 cb
 have CS:=aa9 cs
 clear cb cs hbx hst hk
 go_enter Tryz.func51,Tryz.ntmps51
 go_wp2_with fail
 refine (CB.out _).mono ?_
 rintro e w1 ⟨rfl,rfl⟩
 go_wp2_with fail
 refine (CS.out _).mono ?_
 rintro e w1 ⟨rfl,rfl⟩
 go_wp2
 go_returns
 exact ⟨rfl,(((Below.refl _ _).alloc (Nat.le_refl _) _).alloc (by simp) _).alloc (by simp;omega) _⟩
set_option maxRecDepth 20000 in
theorem vQ (x:ap) (p q:Option Addr) (c d:Nat) (w:World) (hk:x.kind=2∨x.kind=12∨x.kind=13):
 Calls Tryz.prog 51 #[bQ x (.slice p x.sset.length c) (.slice q x.filter.scopes.length d)] w fun e w'=>e= .returned (.agg #[sv x.tag,.int .i64 x.kind,sv x.box,sv [],.bool false,.slice none 0 0,.int .i64 0,.int .i64 0,sv [],.bool false,.slice none 0 0])∧Below w.heap.size w w':=by
 have hbx:ar x.kind=true:=by unfold ar;simp only [Bool.or_eq_true,beq_iff_eq];omega
 have hst:ay x.kind=false:=by unfold ay;simp only [Bool.or_eq_false_iff,beq_eq_false_iff_ne];omega
 have t14:(x.kind==14)=false:=cFalse (by omega)
 have t8:(x.kind==8)=false:=cFalse (by omega)
 have t11:(x.kind==11)=false:=cFalse (by omega)
 have t6:(x.kind==6)=false:=cFalse (by omega)
 have cb:=fun W=>ba x.kind W
 have cs:=fun W=>bu x.kind W
 rw [hbx] at cb
 rw [hst] at cs
 have CB:=aa9 cb
 have CS:=aa9 cs
 clear cb cs hbx hst hk
 go_enter Tryz.func51,Tryz.ntmps51
 go_wp2_with fail
 refine (CB.out _).mono ?_
 rintro e w1 ⟨rfl,rfl⟩
 go_wp2_with fail
 refine (CS.out _).mono ?_
 rintro e w1 ⟨rfl,rfl⟩
 go_wp2
 go_returns
 exact ⟨rfl,(((Below.refl _ _).alloc (Nat.le_refl _) _).alloc (by simp) _).alloc (by simp;omega) _⟩
set_option maxRecDepth 20000 in
theorem vR (x:ap) (p q:Option Addr) (c d:Nat) (w:World) (hk: ¬(x.kind=14∨x.kind=8∨x.kind=11∨x.kind=6∨x.kind=10∨x.kind=7∨x.kind=2∨x.kind=12∨x.kind=13)):
 Calls Tryz.prog 51 #[bQ x (.slice p x.sset.length c) (.slice q x.filter.scopes.length d)] w fun e w'=>e= .returned (.agg #[sv x.tag,.int .i64 x.kind,sv [],sv [],.bool false,.slice none 0 0,.int .i64 0,.int .i64 0,sv [],.bool false,.slice none 0 0])∧Below w.heap.size w w':=by
 have hbx:ar x.kind=false:=by unfold ar;simp only [Bool.or_eq_false_iff,beq_eq_false_iff_ne];omega
 have hst:ay x.kind=false:=by unfold ay;simp only [Bool.or_eq_false_iff,beq_eq_false_iff_ne];omega
 have t14:(x.kind==14)=false:=cFalse (by omega)
 have t8:(x.kind==8)=false:=cFalse (by omega)
 have t11:(x.kind==11)=false:=cFalse (by omega)
 have t6:(x.kind==6)=false:=cFalse (by omega)
 have cb:=fun W=>ba x.kind W
 have cs:=fun W=>bu x.kind W
 rw [hbx] at cb
 rw [hst] at cs
 have CB:=aa9 cb
 have CS:=aa9 cs
 clear cb cs hbx hst hk
 go_enter Tryz.func51,Tryz.ntmps51
 go_wp2_with fail
 refine (CB.out _).mono ?_
 rintro e w1 ⟨rfl,rfl⟩
 go_wp2_with fail
 refine (CS.out _).mono ?_
 rintro e w1 ⟨rfl,rfl⟩
 go_wp2
 go_returns
 exact ⟨rfl,(((Below.refl _ _).alloc (Nat.le_refl _) _).alloc (by simp) _).alloc (by simp;omega) _⟩
theorem rW (x:ap) (p q:Option Addr) (c d:Nat) (w:World):
 Calls Tryz.prog 51 #[bQ x (.slice p x.sset.length c) (.slice q x.filter.scopes.length d)] w fun e w'=>e= .returned (bQ (aG x) (bK x (.slice p x.sset.length c)) (aU x (.slice q x.filter.scopes.length d)))∧Below w.heap.size w w':=by
 by_cases ha:x.kind=14
 · skip
   have e1:ar x.kind=true:=by unfold ar;simp only [Bool.or_eq_true,beq_iff_eq];omega
   have e2:ay x.kind=false:=by unfold ay;simp only [Bool.or_eq_false_iff,beq_eq_false_iff_ne];omega
   have p14:(x.kind=14)=True:=eq_true (by omega)
   have p8:(x.kind=8)=False:=eq_false (by omega)
   have p11:(x.kind=11)=False:=eq_false (by omega)
   have p6:(x.kind=6)=False:=eq_false (by omega)
   have ev:bQ (aG x) (bK x (.slice p x.sset.length c)) (aU x (.slice q x.filter.scopes.length d))= .agg #[sv x.tag,.int .i64 x.kind,sv x.box,sv x.dst,.bool false,.slice none 0 0,.int .i64 0,.int .i64 0,sv [],.bool false,.slice none 0 0]:=by
    simp only [bQ,aG,bK,aU,e1,e2,p14,p8,p11,p6,if_true,if_false,or_self,Bool.false_eq_true]
   rw [ev]
   exact vK x p q c d w ha
 by_cases hb:x.kind=8
 · skip
   have e1:ar x.kind=false:=by unfold ar;simp only [Bool.or_eq_false_iff,beq_eq_false_iff_ne];omega
   have e2:ay x.kind=true:=by unfold ay;simp only [Bool.or_eq_true,beq_iff_eq];omega
   have p14:(x.kind=14)=False:=eq_false (by omega)
   have p8:(x.kind=8)=True:=eq_true (by omega)
   have p11:(x.kind=11)=False:=eq_false (by omega)
   have p6:(x.kind=6)=False:=eq_false (by omega)
   have ev:bQ (aG x) (bK x (.slice p x.sset.length c)) (aU x (.slice q x.filter.scopes.length d))= .agg #[sv x.tag,.int .i64 x.kind,sv [],sv [],.bool x.uid,.slice p x.sset.length c,.int .i64 x.op,.int .i64 x.flags,sv [],.bool false,.slice none 0 0]:=by
    simp only [bQ,aG,bK,aU,e1,e2,p14,p8,p11,p6,if_true,if_false,true_or,Bool.false_eq_true]
   rw [ev]
   exact vL x p q c d w hb
 by_cases hc:x.kind=11
 · skip
   have e1:ar x.kind=true:=by unfold ar;simp only [Bool.or_eq_true,beq_iff_eq];omega
   have e2:ay x.kind=false:=by unfold ay;simp only [Bool.or_eq_false_iff,beq_eq_false_iff_ne];omega
   have p14:(x.kind=14)=False:=eq_false (by omega)
   have p8:(x.kind=8)=False:=eq_false (by omega)
   have p11:(x.kind=11)=True:=eq_true (by omega)
   have p6:(x.kind=6)=False:=eq_false (by omega)
   have ev:bQ (aG x) (bK x (.slice p x.sset.length c)) (aU x (.slice q x.filter.scopes.length d))= .agg #[sv x.tag,.int .i64 x.kind,sv x.box,sv [],.bool false,.slice none 0 0,.int .i64 0,.int .i64 x.flags,sv x.text,.bool false,.slice none 0 0]:=by
    simp only [bQ,aG,bK,aU,e1,e2,p14,p8,p11,p6,if_true,if_false,or_true,Bool.false_eq_true]
   rw [ev]
   exact vM x p q c d w hc
 by_cases hd:x.kind=6
 · skip
   have e1:ar x.kind=false:=by unfold ar;simp only [Bool.or_eq_false_iff,beq_eq_false_iff_ne];omega
   have e2:ay x.kind=false:=by unfold ay;simp only [Bool.or_eq_false_iff,beq_eq_false_iff_ne];omega
   have p14:(x.kind=14)=False:=eq_false (by omega)
   have p8:(x.kind=8)=False:=eq_false (by omega)
   have p11:(x.kind=11)=False:=eq_false (by omega)
   have p6:(x.kind=6)=True:=eq_true (by omega)
   have ev:bQ (aG x) (bK x (.slice p x.sset.length c)) (aU x (.slice q x.filter.scopes.length d))= .agg #[sv x.tag,.int .i64 x.kind,sv [],sv [],.bool false,.slice none 0 0,.int .i64 0,.int .i64 0,sv [],.bool x.filter.on,.slice q x.filter.scopes.length d]:=by
    simp only [bQ,aG,bK,aU,e1,e2,p14,p8,p11,p6,if_true,if_false,or_self,Bool.false_eq_true]
   rw [ev]
   exact vN x p q c d w hd
 by_cases he:x.kind=10
 · skip
   have e1:ar x.kind=true:=by unfold ar;simp only [Bool.or_eq_true,beq_iff_eq];omega
   have e2:ay x.kind=true:=by unfold ay;simp only [Bool.or_eq_true,beq_iff_eq];omega
   have p14:(x.kind=14)=False:=eq_false (by omega)
   have p8:(x.kind=8)=False:=eq_false (by omega)
   have p11:(x.kind=11)=False:=eq_false (by omega)
   have p6:(x.kind=6)=False:=eq_false (by omega)
   have ev:bQ (aG x) (bK x (.slice p x.sset.length c)) (aU x (.slice q x.filter.scopes.length d))= .agg #[sv x.tag,.int .i64 x.kind,sv x.box,sv [],.bool x.uid,.slice p x.sset.length c,.int .i64 0,.int .i64 0,sv [],.bool false,.slice none 0 0]:=by
    simp only [bQ,aG,bK,aU,e1,e2,p14,p8,p11,p6,if_true,if_false,or_self]
   rw [ev]
   exact vO x p q c d w he
 by_cases hf:x.kind=7
 · skip
   have e1:ar x.kind=false:=by unfold ar;simp only [Bool.or_eq_false_iff,beq_eq_false_iff_ne];omega
   have e2:ay x.kind=true:=by unfold ay;simp only [Bool.or_eq_true,beq_iff_eq];omega
   have p14:(x.kind=14)=False:=eq_false (by omega)
   have p8:(x.kind=8)=False:=eq_false (by omega)
   have p11:(x.kind=11)=False:=eq_false (by omega)
   have p6:(x.kind=6)=False:=eq_false (by omega)
   have ev:bQ (aG x) (bK x (.slice p x.sset.length c)) (aU x (.slice q x.filter.scopes.length d))= .agg #[sv x.tag,.int .i64 x.kind,sv [],sv [],.bool x.uid,.slice p x.sset.length c,.int .i64 0,.int .i64 0,sv [],.bool false,.slice none 0 0]:=by
    simp only [bQ,aG,bK,aU,e1,e2,p14,p8,p11,p6,if_true,if_false,or_self,Bool.false_eq_true]
   rw [ev]
   exact vP x p q c d w hf
 by_cases hg:x.kind=2∨x.kind=12∨x.kind=13
 · skip
   have e1:ar x.kind=true:=by unfold ar;simp only [Bool.or_eq_true,beq_iff_eq];omega
   have e2:ay x.kind=false:=by unfold ay;simp only [Bool.or_eq_false_iff,beq_eq_false_iff_ne];omega
   have p14:(x.kind=14)=False:=eq_false (by omega)
   have p8:(x.kind=8)=False:=eq_false (by omega)
   have p11:(x.kind=11)=False:=eq_false (by omega)
   have p6:(x.kind=6)=False:=eq_false (by omega)
   have ev:bQ (aG x) (bK x (.slice p x.sset.length c)) (aU x (.slice q x.filter.scopes.length d))= .agg #[sv x.tag,.int .i64 x.kind,sv x.box,sv [],.bool false,.slice none 0 0,.int .i64 0,.int .i64 0,sv [],.bool false,.slice none 0 0]:=by
    simp only [bQ,aG,bK,aU,e1,e2,p14,p8,p11,p6,if_true,if_false,or_self,Bool.false_eq_true]
   rw [ev]
   exact vQ x p q c d w hg
 have hh: ¬(x.kind=14∨x.kind=8∨x.kind=11∨x.kind=6∨x.kind=10∨x.kind=7∨x.kind=2∨x.kind=12∨x.kind=13):=by omega
 have e1:ar x.kind=false:=by unfold ar;simp only [Bool.or_eq_false_iff,beq_eq_false_iff_ne];omega
 have e2:ay x.kind=false:=by unfold ay;simp only [Bool.or_eq_false_iff,beq_eq_false_iff_ne];omega
 have p14:(x.kind=14)=False:=eq_false (by omega)
 have p8:(x.kind=8)=False:=eq_false (by omega)
 have p11:(x.kind=11)=False:=eq_false (by omega)
 have p6:(x.kind=6)=False:=eq_false (by omega)
 have ev:bQ (aG x) (bK x (.slice p x.sset.length c)) (aU x (.slice q x.filter.scopes.length d))= .agg #[sv x.tag,.int .i64 x.kind,sv [],sv [],.bool false,.slice none 0 0,.int .i64 0,.int .i64 0,sv [],.bool false,.slice none 0 0]:=by
  simp only [bQ,aG,bK,aU,e1,e2,p14,p8,p11,p6,if_false,or_self,Bool.false_eq_true]
 rw [ev]
 exact vR x p q c d w hh
end Go.Proofs.YtmlgkoeacbeopaaGreatDoor
