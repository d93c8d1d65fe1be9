/- Vh -/
import Derived.OpenVars
import Derived.ChangeVars
import Derived.LaidHandle
import Derived.LaidSub
import Derived.Stop.Joined
import Derived.Test.YtmlgkoeacbeopaaGreatDoorUr
import Derived.Test.YtmlgkoeacbeopaaGreatDoorUz
namespace Go.Proofs.YtmlgkoeacbeopaaGreatDoor
open Go.ChangeShapes Go.WideShapes Go.ChangeAt Go.RowKit
section
variable {H:Type} {enc:TypeId×Value→H} {P:Program}
theorem ja {f:Func} {s:ChangeSpec} {W W':World} {args:Array Value} {ds gs:List (DataW H)} {before:List MemPlace} {tb:TypeId}
 (hl:laidOutB P=true) (htb:P.underlying tb=some .bool) (hr:f.resultTypes= #[tb]) (hts: ∀ t∈f.params.toList,P.readableRec t=true∧t < P.types.size)
 (hv:varsRowed P s.vars=true) (hsr:(s.fn H (ds++gs)).results=[.lit (.bool true)]) (hsa:(s.fn H (ds++gs)).args=ds) (hsv:(s.fn H (ds++gs)).vars=gs)
 (hW:DataW.Whole enc P f.params.toList s.vars false W args.toList ds gs before) (hb:Below W.heap.size W W'):
 s.post enc P f false true false false W args (.bool true) W':=by
 have hW':=hW
 have hlt:=fun p hp=>hW.lt p hp
 obtain ⟨p,q,hA,hV,rfl,_,_⟩:=hW
 refine ⟨ds,gs,p++q,[],p,q,hW',?_,?_,?_,hb.frame _,fun h=>by cases h⟩
 · rw [hsr,hr]
   exact trodAll_mk1 (shut_bool htb true)
 · rw [hsa]
   exact fi hl hb _ _ _ _ hts (fun x hx=>hlt x (by simp [hx])) hA
 · rw [hsv]
   exact Below.trodVars hl hb hv hV
end
end Go.Proofs.YtmlgkoeacbeopaaGreatDoor
namespace Go.Proofs.YtmlgkoeacbeopaaGreatDoor
open Go.ChangeShapes Go.WideShapes Go.RowKit
set_option maxRecDepth 100000 in
theorem gEt:Tryz.prog.globalNamed "errors.errorType" =some 0:=by kernel_rfl
set_option maxRecDepth 100000 in
theorem gRt:(Tryz.prog.cutTypes.find? (·.1== "internal/reflectlite.rtype")).map (·.2)=some 177:=by kernel_rfl
set_option maxRecDepth 100000 in
theorem zj:((List.range 286).filter fun t=>Tryz.prog.rowNamed t [101,114,114,111,114])=[83]:=by kernel_rfl
set_option maxRecDepth 100000 in
theorem zk:Tryz.prog.types.size=286:=by kernel_rfl
set_option maxRecDepth 100000 in
theorem aa6:typeHandle Tryz.prog 83=hdl 83:=by kernel_rfl
theorem pJ {W:World} (h:laidMetH Tryz.prog [("errors.errorType",Rows.laid_errors_errorType)] W):W.cell? ⟨0,0,none⟩=some (.iface 177 (.agg #[hdl 83])):=by
 have h':laidMet Tryz.prog [] W∧handlesMet Tryz.prog [("errors.errorType",Rows.laid_errors_errorType)] W:=h
 obtain ⟨name,u,ty,e1,e2,e3,e4,e5⟩:=h'.2 _ (List.mem_singleton.2 rfl)
 have en:name=[101,114,114,111,114]:=(Option.some.inj e1).symm
 subst en
 obtain rfl:=Option.some.inj (gRt.symm.trans e2)
 have hm:ty∈(List.range 286).filter fun t=>Tryz.prog.rowNamed t [101,114,114,111,114]:=List.mem_filter.2 ⟨List.mem_range.2 (by rw [←zk];exact e3),e4⟩
 rw [zj] at hm
 obtain rfl:=List.mem_singleton.1 hm
 rw [aa6] at e5
 simpa using World.var?_cell gEt e5 0
end Go.Proofs.YtmlgkoeacbeopaaGreatDoor
