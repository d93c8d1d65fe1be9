/- Vi -/
import Derived.Test.YtmlgkoeacbeopaaGreatDoorCards
import Derived.Test.YtmlgkoeacbeopaaGreatDoorTie
import Derived.Deep.DeepHandedRow
import Derived.Test.YtmlgkoeacbeopaaGreatDoorVg
import Derived.Test.YtmlgkoeacbeopaaGreatDoorVh
namespace Go.Proofs.YtmlgkoeacbeopaaGreatDoor
open Go.ChangeShapes Go.WideShapes Go.ChangeAt Go.RowKit Go.Deep Go.Joins
def qI:List Sh:=[.int,.str]
theorem Tok.is {xs:List Lf} (h:nu qI xs): ∃ x:Tok,ef xs x.lf∧bs x.lf:=by
 obtain ⟨a0,s0,rfl,⟨n0,rfl,b0⟩,a1,s1,rfl,⟨n1,rfl,b1⟩,rfl⟩:=h
 exact ⟨⟨n0,n1⟩,⟨rfl,rfl,trivial⟩,⟨b0,b1,trivial⟩⟩
theorem Tok.row_is {y:Lf} (h:zC (.rows 73 2 qI) y): ∃ l:List Tok,rj y (aQ l)∧kK (aQ l):=xx (fun _ h=>Tok.is h) h
set_option maxRecDepth 100000 in
theorem vd:tN Tryz.prog 11 40=some [.rows 73 2 qI]:=by kernel_rfl
set_option maxRecDepth 100000 in
theorem qJ {H:Type} {enc:TypeId×Value→H} {W:World} {v:Value} {d:DataW H} {ps:List MemPlace} {r:Reach} {b0:Nat} (hv:Value.okWide Tryz.prog W r b0 40 v) (h:DataW.Trod enc Tryz.prog W 0 (fun _=>true) true 40 v d ps):
 ∃ l:List Tok,az W (aQ l) v∧kK (aQ l):=by
 obtain ⟨y,h1,h2⟩:=vS vd Tryz.underlying40 hv h
 obtain ⟨l,h3,h4⟩:=Tok.row_is h2
 exact ⟨l,az.same h3 h1,h4⟩
end Go.Proofs.YtmlgkoeacbeopaaGreatDoor
namespace Go.Proofs.YtmlgkoeacbeopaaGreatDoor
open Go.ChangeShapes Go.WideShapes Go.ChangeAt Go.RowKit
open Go.ChangeMaps (open_string)
set_option maxRecDepth 100000 in
theorem eZ {W:World} (h:laidMetH Tryz.prog Rows.fnExactParseTokensRow.laid W):Tab W:=
 Tab.of_laid (Lib.tabIs_of_head (rest:=[]) zI rq oU Tryz.underlying249 uh oV (h.filter fun x=>x.1== "internal/strconv.uint64pow10"))
set_option maxRecDepth 100000 in
theorem dZ {W:World} (h:laidMetH Tryz.prog Rows.fnExactParseTokensRow.laid W):Fw W:=
 Fw.of_laid (dC (rest:=[]) gFw tI nj Tryz.underlying9 tJ rh (h.filter fun x=>x.1== "loop.example/g00501/impl.flagWords"))
set_option maxRecDepth 100000 in
theorem dM {W:World} (h:laidMetH Tryz.prog Rows.fnExactParseTokensRow.laid W):Ew W:=
 Ew.of_laid (dC (rest:=[]) gEw ub nI Tryz.underlying9 uc rp (h.filter fun x=>x.1== "loop.example/g00501/impl.eventWords"))
set_option maxRecDepth 100000 in
theorem d3 {W:World} (h:laidMetH Tryz.prog Rows.fnExactParseTokensRow.laid W):W.cell? ⟨0,0,none⟩=some (.iface 177 (.agg #[hdl 83])):=
 pJ (h.filter fun x=>x.1== "errors.errorType")
noncomputable def ci (os:Os):World:=
 { World.holding Tryz.prog os ⟨#[],#[],[]⟩ with heap:=(((((((((((((World.holding Tryz.prog os ⟨#[],#[],[]⟩).heap).modify 7 fun | .cells _ t frozen=> .cells #[.int .u8 0,.int .u8 1,.int .u8 28,.int .u8 2,.int .u8 29,.int .u8 14,.int .u8 24,.int .u8 3,.int .u8 30,.int .u8 22,.int .u8 20,.int .u8 15,.int .u8 25,.int .u8 17,.int .u8 4,.int .u8 8,.int .u8 31,.int .u8 27,.int .u8 13,.int .u8 23,.int .u8 21,.int .u8 19,.int .u8 16,.int .u8 7,.int .u8 26,.int .u8 12,.int .u8 18,.int .u8 6,.int .u8 11,.int .u8 5,.int .u8 10,.int .u8 9] t frozen | o=>o)).modify 8 fun | .cells _ t frozen=> .cells #[.int .u8 0,.int .u8 1,.int .u8 56,.int .u8 2,.int .u8 57,.int .u8 49,.int .u8 28,.int .u8 3,.int .u8 61,.int .u8 58,.int .u8 42,.int .u8 50,.int .u8 38,.int .u8 29,.int .u8 17,.int .u8 4,.int .u8 62,.int .u8 47,.int .u8 59,.int .u8 36,.int .u8 45,.int .u8 43,.int .u8 51,.int .u8 22,.int .u8 53,.int .u8 39,.int .u8 33,.int .u8 30,.int .u8 24,.int .u8 18,.int .u8 12,.int .u8 5,.int .u8 63,.int .u8 55,.int .u8 48,.int .u8 27,.int .u8 60,.int .u8 41,.int .u8 37,.int .u8 16,.int .u8 46,.int .u8 35,.int .u8 44,.int .u8 21,.int .u8 52,.int .u8 32,.int .u8 23,.int .u8 11,.int .u8 54,.int .u8 26,.int .u8 40,.int .u8 15,.int .u8 34,.int .u8 20,.int .u8 31,.int .u8 10,.int .u8 25,.int .u8 14,.int .u8 19,.int .u8 9,.int .u8 13,.int .u8 8,.int .u8 7,.int .u8 6] t frozen | o=>o)).modify 6 fun | .cells _ t frozen=> .cells #[.int .u64 1,.int .u64 10,.int .u64 100,.int .u64 1000,.int .u64 10000,.int .u64 100000,.int .u64 1000000,.int .u64 10000000,.int .u64 100000000,.int .u64 1000000000,.int .u64 10000000000,.int .u64 100000000000,.int .u64 1000000000000,.int .u64 10000000000000,.int .u64 100000000000000,.int .u64 1000000000000000,.int .u64 10000000000000000,.int .u64 100000000000000000,.int .u64 1000000000000000000,.int .u64 10000000000000000000] t frozen | o=>o)).modify 0 fun | .cells _ t frozen=> .cells #[.iface 177 (.agg #[hdl 83])] t frozen | o=>o)).modify 2 fun | .cells _ t frozen=> .cells #[.string ⟨#[115,101,101,110]⟩,.string ⟨#[97,110,115,119,101,114,101,100]⟩,.string ⟨#[102,108,97,103,103,101,100]⟩,.string ⟨#[100,101,108,101,116,101,100]⟩,.string ⟨#[100,114,97,102,116]⟩] t frozen | o=>o)).modify 5 fun | .cells _ t frozen=> .cells #[.string ⟨#[110,101,119]⟩,.string ⟨#[103,111,110,101]⟩,.string ⟨#[102,108,97,103,115]⟩,.string ⟨#[110,97,109,101,115]⟩] t frozen | o=>o) }
theorem fG (os:Os):laidMetH Tryz.prog Rows.fnExactParseTokensRow.laid ((ci os).forCall (fun _ _=>0) ⟨#[],#[.slice none 0 0],[]⟩).memory:=
 laidMetH_of_parts (laidMet_of_run' 10 (by kernel_rfl) (by kernel_rfl)) (by kernel_rfl)
theorem e8 (os:Os) {H:Type} (enc:TypeId×Value→H): ∃ ds places,DataW.whole enc Tryz.prog ((ci os).forCall (fun _ _=>0) ⟨#[],#[.slice none 0 0],[]⟩).memory Tryz.f5.params.toList Rows.fnExactParseTokensSpec.vars false (#[.slice none 0 0]:Array Value).toList 8=some (ds,[Rows.laid_loop_example_g00501_impl_flagWords,Rows.laid_loop_example_g00501_impl_eventWords],places):=
 ⟨[.nil],MemPlace.row ⟨2,0,none⟩ 5++MemPlace.row ⟨5,0,none⟩ 4,by kernel_rfl⟩
set_option maxRecDepth 100000 in
theorem eG (os:Os) (started:os.Started) (H:Type) (enc:TypeId×Value→H) (F:Stop.Interp):
 ReturnsInHanded {} Tryz.checked os 5 .any ((OpenSpec.ofChange Rows.fnExactParseTokensSpec).preRow enc Tryz.prog Tryz.f5 Rows.fnExactParseTokensRow.domain false Rows.fnExactParseTokensRow.laid) (((OpenSpec.ofChange Rows.fnExactParseTokensSpec).at F).post enc Tryz.prog Tryz.f5 false true false false):=by
 obtain ⟨ds,places,hx⟩:=e8 os enc
 refine returnsInHanded_of_row (C:=Tryz.checked) (s:=OpenSpec.ofChange Rows.fnExactParseTokensSpec) Tryz.own started (by kernel_rfl) Tryz.func5
  (witness_row_at (enc:=enc) (C:=Tryz.checked) false (ci os) #[.slice none 0 0] rfl (by kernel_rfl) (by kernel_rfl) (by kernel_rfl)
   (OpenSpec.preRow_of_cond 8 hx (by kernel_rfl) (fun k hk=>by cases hk) (by kernel_rfl) (fG os))) ?_
 clear hx ds places
 intro W base args ds gs before hval0 hW _ _ _ hL hSh _
 have hval: ∀ (j:Nat) t v,Tryz.f5.params[j]? =some t→args[j]? =some v→Value.okWide Tryz.prog W .any base t v:=hval0
 have hM:Mx W:=Tryz.laysM145.s1_3 W hSh
 have hW':=hW
 have hT:=eZ hL
 have hF:=dZ hL
 have hE:=dM hL
 have hEr:=d3 hL
 obtain ⟨p,q,hA0,hV,rfl,_,_⟩:=hW
 have hA:DataW.TrodAll enc Tryz.prog W 0 (fun _=>true) true Tryz.f5.params.toList args.toList ds p:=hA0
 rw [Tryz.params5] at hA hval
 obtain ⟨v0,d0,rfl,rfl,h0⟩:=trodAll_one hA
 have hV0:=hV
 obtain ⟨_,_,_,_,_,_,_,_,g0,_,g1,_,rfl,_⟩:=trodVars_two hV
 obtain ⟨l_List,h_v_List,hb_List⟩:=qJ (hval 0 40 v0 rfl rfl) h0
 refine (gd PG.keeps jM jN l_List v0 W ⟨⟨hT,hM⟩,hF,hE,hEr⟩ h_v_List hb_List aav).mono fun e W' ⟨he,hb⟩=> ?_
 subst he
 exact ⟨_,rfl,ja Tryz.laidOut Tryz.underlying4 rfl (by rw [Tryz.params5];intro t ht;simp at ht;subst ht;exact ⟨by kernel_rfl,of_decide_eq_true (by kernel_rfl)⟩) (by kernel_rfl) rfl rfl rfl hW' hb⟩
theorem fB:Rows.FnExactParseTokensSaid:=
 OpenClaim.holds_of_cond 5 Tryz.f5 rfl rfl rfl rfl rfl rfl rfl ⟨rfl,rfl,rfl,rfl,rfl⟩ rfl rfl rfl rfl rfl (by kernel_rfl) Tryz.func5 (by kernel_rfl)
  (of_decide_eq_true (by kernel_rfl)) (by unfold Func.isWrapper;first | (rw [if_pos (by decide+kernel)];kernel_rfl) | (rw [if_neg (by decide+kernel)];exact ⟨rfl,rfl⟩))
  (fun os started H enc _ F=>by rw [OpenClaim.pre_eq_preRow];exact eG os started H enc F)
theorem e9 (f:FuncId) (fn:Func) (hf:Tryz.pinned.checked.prog.funcNamed Rows.fnExactParseTokensRow.func=some f) (hfn:Tryz.pinned.checked.prog.funcs[f]? =some fn):
 true=Tryz.pinned.checked.prog.looks []∧ ∀ (j:Nat) t,fn.params[j]? =some t→Tryz.pinned.checked.prog.wantsStandIn t=false:=by
 obtain rfl:f=5:=Option.some.inj ((show Tryz.prog.funcNamed Rows.fnExactParseTokensRow.func=some 5 by kernel_rfl).symm.trans hf) |>.symm
 obtain rfl:fn=Tryz.f5:=(Option.some.inj (Tryz.func5.symm.trans hfn)).symm
 refine ⟨by kernel_rfl,fun j t ht=> ?_⟩
 have hm:=Array.mem_toList_iff.2 (Array.mem_of_getElem? ht)
 rw [Tryz.params5] at hm
 simp at hm;subst hm;exact (show Tryz.prog.wantsStandIn 40=false by kernel_rfl)
theorem fnExactParseTokens_holds:Rows.FnExactParseTokensCardSaid:=
 Claim7.holds_tied_plain_at .later [] _ _ _ _ fB (fun _ h=>by cases h) (by kernel_rfl) (fun _ h=>by cases h) fnExactParseTokens_row_tie rfl ⟨rfl,rfl⟩ (by kernel_rfl) rfl e9 (by kernel_rfl)
end Go.Proofs.YtmlgkoeacbeopaaGreatDoor
