/-
  Vj: FnExactParse (what the claim needs of them).
-/
import Derived.Test.YtmlgkoeacbeopaaGreatDoorCards
import Derived.Test.YtmlgkoeacbeopaaGreatDoorTie
import Derived.Deep.DeepHandedRow
import Derived.Test.YtmlgkoeacbeopaaGreatDoorVg2
import Derived.Test.YtmlgkoeacbeopaaGreatDoorVh
namespace Go.Proofs.YtmlgkoeacbeopaaGreatDoor
open Go.ChangeShapes Go.WideShapes Go.ChangeAt Go.RowKit
open Go.ChangeMaps (open_string)
set_option maxRecDepth 100000 in
theorem jb {W:World} (h:laidMetH Tryz.prog Rows.fnExactParseRow.laid W):Tab W:=
 Tab.of_laid (Lib.tabIs_of_head (rest:=[]) zI rq oU Tryz.underlying249 uh oV (h.filter fun x=>x.1== "internal/strconv.uint64pow10"))
set_option maxRecDepth 100000 in
theorem fH {W:World} (h:laidMetH Tryz.prog Rows.fnExactParseRow.laid W):Fw W:=
 Fw.of_laid (dC (rest:=[]) gFw tI nj Tryz.underlying9 tJ rh (h.filter fun x=>x.1== "loop.example/g00501/impl.flagWords"))
set_option maxRecDepth 100000 in
theorem fC {W:World} (h:laidMetH Tryz.prog Rows.fnExactParseRow.laid W):Ew W:=
 Ew.of_laid (dC (rest:=[]) gEw ub nI Tryz.underlying9 uc rp (h.filter fun x=>x.1== "loop.example/g00501/impl.eventWords"))
set_option maxRecDepth 100000 in
theorem fI {W:World} (h:laidMetH Tryz.prog Rows.fnExactParseRow.laid W):W.cell? ⟨0,0,none⟩=some (.iface 177 (.agg #[hdl 83])):=
 pJ (h.filter fun x=>x.1== "errors.errorType")
noncomputable def dg (os:Os):World:=
 { World.holding Tryz.prog os ⟨#[],#[],[]⟩ with heap:=(((((((((((((World.holding Tryz.prog os ⟨#[],#[],[]⟩).heap).modify 7 fun | .cells _ t frozen=> .cells #[.int .u8 0,.int .u8 1,.int .u8 28,.int .u8 2,.int .u8 29,.int .u8 14,.int .u8 24,.int .u8 3,.int .u8 30,.int .u8 22,.int .u8 20,.int .u8 15,.int .u8 25,.int .u8 17,.int .u8 4,.int .u8 8,.int .u8 31,.int .u8 27,.int .u8 13,.int .u8 23,.int .u8 21,.int .u8 19,.int .u8 16,.int .u8 7,.int .u8 26,.int .u8 12,.int .u8 18,.int .u8 6,.int .u8 11,.int .u8 5,.int .u8 10,.int .u8 9] t frozen | o=>o)).modify 8 fun | .cells _ t frozen=> .cells #[.int .u8 0,.int .u8 1,.int .u8 56,.int .u8 2,.int .u8 57,.int .u8 49,.int .u8 28,.int .u8 3,.int .u8 61,.int .u8 58,.int .u8 42,.int .u8 50,.int .u8 38,.int .u8 29,.int .u8 17,.int .u8 4,.int .u8 62,.int .u8 47,.int .u8 59,.int .u8 36,.int .u8 45,.int .u8 43,.int .u8 51,.int .u8 22,.int .u8 53,.int .u8 39,.int .u8 33,.int .u8 30,.int .u8 24,.int .u8 18,.int .u8 12,.int .u8 5,.int .u8 63,.int .u8 55,.int .u8 48,.int .u8 27,.int .u8 60,.int .u8 41,.int .u8 37,.int .u8 16,.int .u8 46,.int .u8 35,.int .u8 44,.int .u8 21,.int .u8 52,.int .u8 32,.int .u8 23,.int .u8 11,.int .u8 54,.int .u8 26,.int .u8 40,.int .u8 15,.int .u8 34,.int .u8 20,.int .u8 31,.int .u8 10,.int .u8 25,.int .u8 14,.int .u8 19,.int .u8 9,.int .u8 13,.int .u8 8,.int .u8 7,.int .u8 6] t frozen | o=>o)).modify 6 fun | .cells _ t frozen=> .cells #[.int .u64 1,.int .u64 10,.int .u64 100,.int .u64 1000,.int .u64 10000,.int .u64 100000,.int .u64 1000000,.int .u64 10000000,.int .u64 100000000,.int .u64 1000000000,.int .u64 10000000000,.int .u64 100000000000,.int .u64 1000000000000,.int .u64 10000000000000,.int .u64 100000000000000,.int .u64 1000000000000000,.int .u64 10000000000000000,.int .u64 100000000000000000,.int .u64 1000000000000000000,.int .u64 10000000000000000000] t frozen | o=>o)).modify 0 fun | .cells _ t frozen=> .cells #[.iface 177 (.agg #[hdl 83])] t frozen | o=>o)).modify 2 fun | .cells _ t frozen=> .cells #[.string ⟨#[115,101,101,110]⟩,.string ⟨#[97,110,115,119,101,114,101,100]⟩,.string ⟨#[102,108,97,103,103,101,100]⟩,.string ⟨#[100,101,108,101,116,101,100]⟩,.string ⟨#[100,114,97,102,116]⟩] t frozen | o=>o)).modify 5 fun | .cells _ t frozen=> .cells #[.string ⟨#[110,101,119]⟩,.string ⟨#[103,111,110,101]⟩,.string ⟨#[102,108,97,103,115]⟩,.string ⟨#[110,97,109,101,115]⟩] t frozen | o=>o) }
theorem j7 (os:Os):laidMetH Tryz.prog Rows.fnExactParseRow.laid ((dg os).forCall (fun _ _=>0) ⟨#[],#[.string ⟨#[]⟩],[]⟩).memory:=
 laidMetH_of_parts (laidMet_of_run' 10 (by kernel_rfl) (by kernel_rfl)) (by kernel_rfl)
theorem jc (os:Os) {H:Type} (enc:TypeId×Value→H): ∃ ds places,DataW.whole enc Tryz.prog ((dg os).forCall (fun _ _=>0) ⟨#[],#[.string ⟨#[]⟩],[]⟩).memory Tryz.f6.params.toList Rows.fnExactParseSpec.vars false (#[.string ⟨#[]⟩]:Array Value).toList 8=some (ds,[Rows.laid_loop_example_g00501_impl_flagWords,Rows.laid_loop_example_g00501_impl_eventWords],places):=
 ⟨[.lit (.string [])],MemPlace.row ⟨2,0,none⟩ 5++MemPlace.row ⟨5,0,none⟩ 4,by kernel_rfl⟩
set_option maxRecDepth 100000 in
theorem hH (os:Os) (started:os.Started) (H:Type) (enc:TypeId×Value→H) (F:Stop.Interp):
 ReturnsInHanded {} Tryz.checked os 6 .any ((OpenSpec.ofChange Rows.fnExactParseSpec).preRow enc Tryz.prog Tryz.f6 Rows.fnExactParseRow.domain false Rows.fnExactParseRow.laid) (((OpenSpec.ofChange Rows.fnExactParseSpec).at F).post enc Tryz.prog Tryz.f6 false true false false):=by
 obtain ⟨ds,places,hx⟩:=jc os enc
 refine returnsInHanded_of_row (C:=Tryz.checked) (s:=OpenSpec.ofChange Rows.fnExactParseSpec) Tryz.own started (by kernel_rfl) Tryz.func6
  (witness_row_at (enc:=enc) (C:=Tryz.checked) false (dg os) #[.string ⟨#[]⟩] rfl (by kernel_rfl) (by kernel_rfl) (by kernel_rfl)
   (OpenSpec.preRow_of_cond 8 hx (by kernel_rfl) (fun k hk=>by cases hk) (by kernel_rfl) (j7 os))) ?_
 clear hx ds places
 intro W base args ds gs before hval0 hW _ _ _ hL hSh _
 have hval: ∀ (j:Nat) t v,Tryz.f6.params[j]? =some t→args[j]? =some v→Value.okWide Tryz.prog W .any base t v:=hval0
 have hM:Mx W:=Tryz.laysM145.s1_3 W hSh
 have hW':=hW
 have hT:=jb hL
 have hF:=fH hL
 have hE:=fC hL
 have hEr:=fI hL
 obtain ⟨p,q,hA0,hV,rfl,_,_⟩:=hW
 have hA:DataW.TrodAll enc Tryz.prog W 0 (fun _=>true) true Tryz.f6.params.toList args.toList ds p:=hA0
 rw [Tryz.params6] at hA hval
 obtain ⟨v0,d0,rfl,rfl,h0⟩:=trodAll_one hA
 have hV0:=hV
 obtain ⟨_,_,_,_,_,_,_,_,g0,_,g1,_,rfl,_⟩:=trodVars_two hV
 obtain ⟨s_Line,rfl,rfl,rfl,hs_Line⟩:=open_string Tryz.underlying9 (hval 0 9 v0 rfl rfl) h0
 refine (lK PG.keeps qG qH s_Line.data.toList W ⟨⟨hT,hM⟩,hF,hE,hEr⟩ (by unfold maxLen at hs_Line;simp;omega) (fun _=>aaw _)).mono fun e W' ⟨he,hb⟩=> ?_
 subst he
 exact ⟨_,rfl,ja Tryz.laidOut Tryz.underlying4 rfl (by rw [Tryz.params6];intro t ht;simp at ht;subst ht;exact ⟨by kernel_rfl,of_decide_eq_true (by kernel_rfl)⟩) (by kernel_rfl) rfl rfl rfl hW' hb⟩
theorem jO:Rows.FnExactParseSaid:=
 OpenClaim.holds_of_cond 6 Tryz.f6 rfl rfl rfl rfl rfl rfl rfl ⟨rfl,rfl,rfl,rfl,rfl⟩ rfl rfl rfl rfl rfl (by kernel_rfl) Tryz.func6 (by kernel_rfl)
  (of_decide_eq_true (by kernel_rfl)) (by unfold Func.isWrapper;first | (rw [if_pos (by decide+kernel)];kernel_rfl) | (rw [if_neg (by decide+kernel)];exact ⟨rfl,rfl⟩))
  (fun os started H enc _ F=>by rw [OpenClaim.pre_eq_preRow];exact hH os started H enc F)
theorem jd (f:FuncId) (fn:Func) (hf:Tryz.pinned.checked.prog.funcNamed Rows.fnExactParseRow.func=some f) (hfn:Tryz.pinned.checked.prog.funcs[f]? =some fn):
 true=Tryz.pinned.checked.prog.looks []∧ ∀ (j:Nat) t,fn.params[j]? =some t→Tryz.pinned.checked.prog.wantsStandIn t=false:=by
 obtain rfl:f=6:=Option.some.inj ((show Tryz.prog.funcNamed Rows.fnExactParseRow.func=some 6 by kernel_rfl).symm.trans hf) |>.symm
 obtain rfl:fn=Tryz.f6:=(Option.some.inj (Tryz.func6.symm.trans hfn)).symm
 refine ⟨by kernel_rfl,fun j t ht=> ?_⟩
 have hm:=Array.mem_toList_iff.2 (Array.mem_of_getElem? ht)
 rw [Tryz.params6] at hm
 simp at hm;subst hm;exact (show Tryz.prog.wantsStandIn 9=false by kernel_rfl)
theorem fnExactParse_holds:Rows.FnExactParseCardSaid:=
 Claim7.holds_tied_plain_at .later [] _ _ _ _ jO (fun _ h=>by cases h) (by kernel_rfl) (fun _ h=>by cases h) fnExactParse_row_tie rfl ⟨rfl,rfl⟩ (by kernel_rfl) rfl jd (by kernel_rfl)
end Go.Proofs.YtmlgkoeacbeopaaGreatDoor
