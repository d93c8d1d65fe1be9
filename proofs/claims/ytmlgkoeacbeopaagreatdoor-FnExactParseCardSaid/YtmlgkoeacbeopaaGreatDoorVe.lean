/- Ve -/
import Derived.Test.YtmlgkoeacbeopaaGreatDoorVd
set_option maxHeartbeats 12800000
namespace Go.Proofs.YtmlgkoeacbeopaaGreatDoor
open Go.RowKit
def kj (f:FuncId) (G:World→Prop):Prop:= ∀ (s_Line:List UInt8) (W:World),G W→s_Line.length≤1048576→
 Calls Tryz.prog f #[sv s_Line] W fun e w'=> ∃ z0_5 f0_5,∃ z0_10 f0_10,e= .returned (.tuple #[.agg #[sv (qP s_Line).tag,.int .i64 (qP s_Line).kind,sv (qP s_Line).box,sv (qP s_Line).dst,.bool (qP s_Line).uid,z0_5,.int .i64 (qP s_Line).op,.int .i64 (qP s_Line).flags,sv (qP s_Line).text,.bool (qP s_Line).filter.on,z0_10],.bool (oP s_Line)])∧au w' (am (qP s_Line).sset) z0_5 f0_5∧au w' (aj (qP s_Line).filter.scopes) z0_10 f0_10∧(f0_5++f0_10).Nodup∧(∀ q∈f0_5++f0_10,W.heap.size≤q)∧Below W.heap.size W w'
set_option maxRecDepth 20000 in
theorem lK {G:World→Prop} (hK:mO G) (SP:kj 19 (fun _=>True)) (IM:kj 14 G) (s_Line:List UInt8) (w:World) (hG:G w) (hb_Line:s_Line.length≤9223372036854775807) (hr_0:s_Line.length≤1048576→bg (qP s_Line).lf≤1000000000):
 Calls Tryz.prog 6 #[sv s_Line] w fun e w'=>e= .returned (.bool true)∧Below w.heap.size w w':=by
 have bz_Line:(ByteArray.mk s_Line.toArray).size=s_Line.length:=by show s_Line.toArray.size=_;simp
 by_cases hl_Line:s_Line.length≤1048576
 case neg=>
  have hi_Line:(1048576:Int) < (s_Line.length:Int):=by omega
  clear SP IM hr_0
  have hb:Below w.heap.size w w:=Below.refl _ _
  go_enter Tryz.func6,Tryz.ntmps6
  have hbz:=aa9 hb.size
  go_wp2
  go_ret
  exact ⟨rfl,hb⟩
 have hi_Line: ¬(1048576:Int) < (s_Line.length:Int):=by omega
 have C_spec:=aa9 (fun (W:World)=>SP s_Line W trivial hl_Line)
 have C_impl:=aa9 (fun (W:World) (hg:G W)=>IM s_Line W hg hl_Line)
 have hq_0:=hr_0 hl_Line
 have SZ_r0:=aa9 hq_0
 have CN_r0:=aa9 (show 1+aL (am (qP s_Line).sset)+aL (aj (qP s_Line).filter.scopes)≤100000000000 from by have hs:=ap.sz (qP s_Line);have h5:=fP (jr (qP s_Line).sset);have h10:=fP (gv (qP s_Line).filter.scopes);simp only [aj,am] at hs hq_0 ⊢;omega)
 clear hq_0
 clear SP IM hr_0
 generalize (oP s_Line)=R1 at *
 have ne1:(R1 != R1)=false:=by simp
 have hb:Below w.heap.size w w:=Below.refl _ _
 go_enter Tryz.func6,Tryz.ntmps6
 have hbz:=aa9 hb.size
 go_wp2_with fail
 refine (C_spec.out _ ).mono ?_
 rintro e w1 ⟨z3,f5,z4,f6,rfl,i7,i8,nd9,lo10,b2⟩
 have hz11:w.heap.size≤w1.heap.size:=b2.size
 replace hb:=hb.trans (b2.mono hb.size)
 have LO12:=aa9 (show ∀ q∈f5++f6,w.heap.size≤q from lo10)
 have HI13:=aa9 (show ∀ q∈f5++f6,q < w1.heap.size from fun q hq=>by simp only [List.mem_append] at hq;rcases hq with hq | hq <;> first | exact au.lt _ _ _ i7 q hq | exact au.lt _ _ _ i8 q hq)
 have ND14:=aa9 nd9
 have F15:=aa9 i7
 have LO16:=aa9 (show ∀ q∈f5,w.heap.size≤q from fun q hq=>LO12.out q (by simp [hq]))
 have HI17:=aa9 (show ∀ q∈f5,q < w1.heap.size from fun q hq=>HI13.out q (by simp [hq]))
 obtain ⟨pz3,cz3,rfl⟩:=au.slice i7
 have F18:=aa9 i8
 have LO19:=aa9 (show ∀ q∈f6,w.heap.size≤q from fun q hq=>LO12.out q (by simp [hq]))
 have HI20:=aa9 (show ∀ q∈f6,q < w1.heap.size from fun q hq=>HI13.out q (by simp [hq]))
 obtain ⟨pz4,cz4,rfl⟩:=au.slice i8
 clear i7
 clear i8
 clear nd9 lo10
 clear b2
 have b22:Below w1.heap.size w1 (w1.alloc (.cells #[sv (qP s_Line).tag,.int .i64 (qP s_Line).kind,sv (qP s_Line).box,sv (qP s_Line).dst,.bool (qP s_Line).uid,(.slice pz3 (qP s_Line).sset.length cz3),.int .i64 (qP s_Line).op,.int .i64 (qP s_Line).flags,sv (qP s_Line).text,.bool (qP s_Line).filter.on,(.slice pz4 (qP s_Line).filter.scopes.length cz4)] 29)):=(Below.refl _ _).alloc (Nat.le_refl _) _
 have F23:=aa9 (heap_alloc_new w1 (.cells #[sv (qP s_Line).tag,.int .i64 (qP s_Line).kind,sv (qP s_Line).box,sv (qP s_Line).dst,.bool (qP s_Line).uid,(.slice pz3 (qP s_Line).sset.length cz3),.int .i64 (qP s_Line).op,.int .i64 (qP s_Line).flags,sv (qP s_Line).text,.bool (qP s_Line).filter.on,(.slice pz4 (qP s_Line).filter.scopes.length cz4)] 29))
 have hz24:w1.heap.size < (w1.alloc (.cells #[sv (qP s_Line).tag,.int .i64 (qP s_Line).kind,sv (qP s_Line).box,sv (qP s_Line).dst,.bool (qP s_Line).uid,(.slice pz3 (qP s_Line).sset.length cz3),.int .i64 (qP s_Line).op,.int .i64 (qP s_Line).flags,sv (qP s_Line).text,.bool (qP s_Line).filter.on,(.slice pz4 (qP s_Line).filter.scopes.length cz4)] 29)).heap.size:=by simp
 generalize hX21:w1.alloc (.cells #[sv (qP s_Line).tag,.int .i64 (qP s_Line).kind,sv (qP s_Line).box,sv (qP s_Line).dst,.bool (qP s_Line).uid,(.slice pz3 (qP s_Line).sset.length cz3),.int .i64 (qP s_Line).op,.int .i64 (qP s_Line).flags,sv (qP s_Line).text,.bool (qP s_Line).filter.on,(.slice pz4 (qP s_Line).filter.scopes.length cz4)] 29)=X21 at *
 have F25:=aa9 (au.below F15.out b22)
 clear F15
 have F26:=aa9 (au.below F18.out b22)
 clear F18
 have hz27:w1.heap.size≤X21.heap.size:=b22.size
 replace hb:=hb.trans (b22.mono hb.size)
 clear b22
 go_wp2_with fail
 refine (C_impl.out _ (hK _ _ hG hb) ).mono ?_
 rintro e w28 ⟨z30,f32,z31,f33,rfl,i34,i35,nd36,lo37,b29⟩
 have F38:=aa9 (au.below F25.out b29)
 clear F25
 have F39:=aa9 (au.below F26.out b29)
 clear F26
 have F40:=aa9 ((b29.block (w1.heap.size) (Array.getElem?_eq_some_iff.1 F23.out).1).trans F23.out)
 clear F23
 have hz41:X21.heap.size≤w28.heap.size:=b29.size
 replace hb:=hb.trans (b29.mono hb.size)
 have LO42:=aa9 (show ∀ q∈f32++f33,X21.heap.size≤q from lo37)
 have HI43:=aa9 (show ∀ q∈f32++f33,q < w28.heap.size from fun q hq=>by simp only [List.mem_append] at hq;rcases hq with hq | hq <;> first | exact au.lt _ _ _ i34 q hq | exact au.lt _ _ _ i35 q hq)
 have ND44:=aa9 nd36
 have F45:=aa9 i34
 have LO46:=aa9 (show ∀ q∈f32,X21.heap.size≤q from fun q hq=>LO42.out q (by simp [hq]))
 have HI47:=aa9 (show ∀ q∈f32,q < w28.heap.size from fun q hq=>HI43.out q (by simp [hq]))
 obtain ⟨pz30,cz30,rfl⟩:=au.slice i34
 have F48:=aa9 i35
 have LO49:=aa9 (show ∀ q∈f33,X21.heap.size≤q from fun q hq=>LO42.out q (by simp [hq]))
 have HI50:=aa9 (show ∀ q∈f33,q < w28.heap.size from fun q hq=>HI43.out q (by simp [hq]))
 obtain ⟨pz31,cz31,rfl⟩:=au.slice i35
 clear i34
 clear i35
 clear nd36 lo37
 clear b29
 have b52:Below w28.heap.size w28 (w28.alloc (.cells #[sv (qP s_Line).tag,.int .i64 (qP s_Line).kind,sv (qP s_Line).box,sv (qP s_Line).dst,.bool (qP s_Line).uid,(.slice pz30 (qP s_Line).sset.length cz30),.int .i64 (qP s_Line).op,.int .i64 (qP s_Line).flags,sv (qP s_Line).text,.bool (qP s_Line).filter.on,(.slice pz31 (qP s_Line).filter.scopes.length cz31)] 29)):=(Below.refl _ _).alloc (Nat.le_refl _) _
 have F53:=aa9 (heap_alloc_new w28 (.cells #[sv (qP s_Line).tag,.int .i64 (qP s_Line).kind,sv (qP s_Line).box,sv (qP s_Line).dst,.bool (qP s_Line).uid,(.slice pz30 (qP s_Line).sset.length cz30),.int .i64 (qP s_Line).op,.int .i64 (qP s_Line).flags,sv (qP s_Line).text,.bool (qP s_Line).filter.on,(.slice pz31 (qP s_Line).filter.scopes.length cz31)] 29))
 have hz54:w28.heap.size < (w28.alloc (.cells #[sv (qP s_Line).tag,.int .i64 (qP s_Line).kind,sv (qP s_Line).box,sv (qP s_Line).dst,.bool (qP s_Line).uid,(.slice pz30 (qP s_Line).sset.length cz30),.int .i64 (qP s_Line).op,.int .i64 (qP s_Line).flags,sv (qP s_Line).text,.bool (qP s_Line).filter.on,(.slice pz31 (qP s_Line).filter.scopes.length cz31)] 29)).heap.size:=by simp
 generalize hX51:w28.alloc (.cells #[sv (qP s_Line).tag,.int .i64 (qP s_Line).kind,sv (qP s_Line).box,sv (qP s_Line).dst,.bool (qP s_Line).uid,(.slice pz30 (qP s_Line).sset.length cz30),.int .i64 (qP s_Line).op,.int .i64 (qP s_Line).flags,sv (qP s_Line).text,.bool (qP s_Line).filter.on,(.slice pz31 (qP s_Line).filter.scopes.length cz31)] 29)=X51 at *
 have F55:=aa9 (au.below F38.out b52)
 clear F38
 have F56:=aa9 (au.below F39.out b52)
 clear F39
 have F57:=aa9 ((b52.block (w1.heap.size) (Array.getElem?_eq_some_iff.1 F40.out).1).trans F40.out)
 clear F40
 have F58:=aa9 (au.below F45.out b52)
 clear F45
 have F59:=aa9 (au.below F48.out b52)
 clear F48
 have hz60:w28.heap.size≤X51.heap.size:=b52.size
 replace hb:=hb.trans (b52.mono hb.size)
 clear b52
 obtain ⟨y61,y62,y63,y64,y65,y66,y67,y68,y69,y70,y71⟩:=cC11 F53.out
 obtain ⟨y72,y73,y74,y75,y76,y77,y78,y79,y80,y81,y82⟩:=cC11 F57.out
 go_wp2_with fail
 refine (ed (qP s_Line) _ _ _ _ _ (au.rd _ _ _ F58.out) (au.rd _ _ _ F55.out) (au.rd _ _ _ F59.out) (au.rd _ _ _ F56.out) (by have:=SZ_r0.out;omega)).mono ?_
 rintro e w83 ⟨rfl,b84⟩
 clear y61 y62 y63 y64 y65 y66 y67 y68 y69 y70 y71 y72 y73 y74 y75 y76 y77 y78 y79 y80 y81 y82
 have F85:=aa9 (au.below F55.out b84)
 clear F55
 have F86:=aa9 (au.below F56.out b84)
 clear F56
 have F87:=aa9 ((b84.block (w1.heap.size) (Array.getElem?_eq_some_iff.1 F57.out).1).trans F57.out)
 clear F57
 have F88:=aa9 (au.below F58.out b84)
 clear F58
 have F89:=aa9 (au.below F59.out b84)
 clear F59
 have F90:=aa9 ((b84.block (w28.heap.size) (Array.getElem?_eq_some_iff.1 F53.out).1).trans F53.out)
 clear F53
 have hz91:X51.heap.size≤w83.heap.size:=b84.size
 replace hb:=hb.trans (b84.mono hb.size)
 clear b84
 obtain ⟨y92,y93,y94,y95,y96,y97,y98,y99,y100,y101,y102⟩:=cC11 F90.out
 go_wp2_with fail
 refine (iE (qP s_Line) _ _ _ 1 rfl f32 f33 _ F88.out F89.out ND44.out (by have:=CN_r0.out;omega) (by have:=SZ_r0.out;omega)).mono ?_
 rintro e w103 ⟨rfl,i106,i107,g105⟩
 clear y92 y93 y94 y95 y96 y97 y98 y99 y100 y101 y102
 clear F88
 have F108:=aa9 (au.rd _ _ _ i106)
 clear F89
 have F109:=aa9 (au.rd _ _ _ i107)
 have F110:=aa9 (au.away F85.out g105 (fun q hq hm=>by have h1:=LO16.out q hq;have h2:=HI17.out q hq;have h3:=LO42.out q hm;have h4:=HI43.out q hm;omega))
 clear F85
 have F111:=aa9 (au.away F86.out g105 (fun q hq hm=>by have h1:=LO19.out q hq;have h2:=HI20.out q hq;have h3:=LO42.out q hm;have h4:=HI43.out q hm;omega))
 clear F86
 have F112:=aa9 ((g105.block (w1.heap.size) (Array.getElem?_eq_some_iff.1 F87.out).1 (fun hm=>by have h3:=LO42.out _ hm;have h4:=HI43.out _ hm;omega)).trans F87.out)
 clear F87
 have F113:=aa9 ((g105.block (w28.heap.size) (Array.getElem?_eq_some_iff.1 F90.out).1 (fun hm=>by have h3:=LO42.out _ hm;have h4:=HI43.out _ hm;omega)).trans F90.out)
 clear F90
 have hz114:w83.heap.size≤w103.heap.size:=g105.size
 replace hb:=ac.below hb g105 hb.size (fun q hq=>by have h3:=LO42.out q hq;have h9:=hbz.out;omega)
 clear g105 i106 i107
 obtain ⟨K115,hK115⟩: ∃ K:Nat,K=1+aL (am (qP s_Line).sset)+aL (aj (qP s_Line).filter.scopes):=⟨_,rfl⟩
 rw [←hK115]
 have hnK115: ¬(K115:Int) < 0:=by omega
 have hdK115:decide ((K115:Int) < 0)=false:=decide_eq_false hnK115
 have HK115:=aa9 hK115
 clear hK115
 obtain ⟨y116,y117,y118,y119,y120,y121,y122,y123,y124,y125,y126⟩:=cC11 F113.out
 go_wp2_with fail
 refine (dS (qP s_Line) _ _ _ 1 rfl _ F108.out F109.out (by have:=CN_r0.out;omega) (by have:=SZ_r0.out;omega)).mono ?_
 rintro e w127 ⟨rfl,b128⟩
 clear y116 y117 y118 y119 y120 y121 y122 y123 y124 y125 y126
 rw [←HK115.out]
 have F129:=aa9 (au.below F110.out b128)
 clear F110
 have F130:=aa9 (au.below F111.out b128)
 clear F111
 have F131:=aa9 ((b128.block (w1.heap.size) (Array.getElem?_eq_some_iff.1 F112.out).1).trans F112.out)
 clear F112
 have F132:=aa9 ((b128.block (w28.heap.size) (Array.getElem?_eq_some_iff.1 F113.out).1).trans F113.out)
 clear F113
 have F133:=aa9 (az.below b128 _ _ F108.out)
 clear F108
 have F134:=aa9 (az.below b128 _ _ F109.out)
 clear F109
 have hz135:w103.heap.size≤w127.heap.size:=b128.size
 replace hb:=hb.trans (b128.mono hb.size)
 clear b128
 go_wp2_with fail
 refine (C_impl.out _ (hK _ _ hG hb) ).mono ?_
 rintro e w136 ⟨z138,f140,z139,f141,rfl,i142,i143,nd144,lo145,b137⟩
 have F146:=aa9 (au.below F129.out b137)
 clear F129
 have F147:=aa9 (au.below F130.out b137)
 clear F130
 have F148:=aa9 ((b137.block (w1.heap.size) (Array.getElem?_eq_some_iff.1 F131.out).1).trans F131.out)
 clear F131
 have F149:=aa9 ((b137.block (w28.heap.size) (Array.getElem?_eq_some_iff.1 F132.out).1).trans F132.out)
 clear F132
 have F150:=aa9 (az.below b137 _ _ F133.out)
 clear F133
 have F151:=aa9 (az.below b137 _ _ F134.out)
 clear F134
 have hz152:w127.heap.size≤w136.heap.size:=b137.size
 replace hb:=hb.trans (b137.mono hb.size)
 have LO153:=aa9 (show ∀ q∈f140++f141,w127.heap.size≤q from lo145)
 have HI154:=aa9 (show ∀ q∈f140++f141,q < w136.heap.size from fun q hq=>by simp only [List.mem_append] at hq;rcases hq with hq | hq <;> first | exact au.lt _ _ _ i142 q hq | exact au.lt _ _ _ i143 q hq)
 have ND155:=aa9 nd144
 have F156:=aa9 i142
 have LO157:=aa9 (show ∀ q∈f140,w127.heap.size≤q from fun q hq=>LO153.out q (by simp [hq]))
 have HI158:=aa9 (show ∀ q∈f140,q < w136.heap.size from fun q hq=>HI154.out q (by simp [hq]))
 obtain ⟨pz138,cz138,rfl⟩:=au.slice i142
 have F159:=aa9 i143
 have LO160:=aa9 (show ∀ q∈f141,w127.heap.size≤q from fun q hq=>LO153.out q (by simp [hq]))
 have HI161:=aa9 (show ∀ q∈f141,q < w136.heap.size from fun q hq=>HI154.out q (by simp [hq]))
 obtain ⟨pz139,cz139,rfl⟩:=au.slice i143
 clear i142
 clear i143
 clear nd144 lo145
 clear b137
 have b163:Below w136.heap.size w136 (w136.alloc (.cells #[sv (qP s_Line).tag,.int .i64 (qP s_Line).kind,sv (qP s_Line).box,sv (qP s_Line).dst,.bool (qP s_Line).uid,(.slice pz138 (qP s_Line).sset.length cz138),.int .i64 (qP s_Line).op,.int .i64 (qP s_Line).flags,sv (qP s_Line).text,.bool (qP s_Line).filter.on,(.slice pz139 (qP s_Line).filter.scopes.length cz139)] 29)):=(Below.refl _ _).alloc (Nat.le_refl _) _
 have F164:=aa9 (heap_alloc_new w136 (.cells #[sv (qP s_Line).tag,.int .i64 (qP s_Line).kind,sv (qP s_Line).box,sv (qP s_Line).dst,.bool (qP s_Line).uid,(.slice pz138 (qP s_Line).sset.length cz138),.int .i64 (qP s_Line).op,.int .i64 (qP s_Line).flags,sv (qP s_Line).text,.bool (qP s_Line).filter.on,(.slice pz139 (qP s_Line).filter.scopes.length cz139)] 29))
 have hz165:w136.heap.size < (w136.alloc (.cells #[sv (qP s_Line).tag,.int .i64 (qP s_Line).kind,sv (qP s_Line).box,sv (qP s_Line).dst,.bool (qP s_Line).uid,(.slice pz138 (qP s_Line).sset.length cz138),.int .i64 (qP s_Line).op,.int .i64 (qP s_Line).flags,sv (qP s_Line).text,.bool (qP s_Line).filter.on,(.slice pz139 (qP s_Line).filter.scopes.length cz139)] 29)).heap.size:=by simp
 generalize hX162:w136.alloc (.cells #[sv (qP s_Line).tag,.int .i64 (qP s_Line).kind,sv (qP s_Line).box,sv (qP s_Line).dst,.bool (qP s_Line).uid,(.slice pz138 (qP s_Line).sset.length cz138),.int .i64 (qP s_Line).op,.int .i64 (qP s_Line).flags,sv (qP s_Line).text,.bool (qP s_Line).filter.on,(.slice pz139 (qP s_Line).filter.scopes.length cz139)] 29)=X162 at *
 have F166:=aa9 (au.below F146.out b163)
 clear F146
 have F167:=aa9 (au.below F147.out b163)
 clear F147
 have F168:=aa9 ((b163.block (w1.heap.size) (Array.getElem?_eq_some_iff.1 F148.out).1).trans F148.out)
 clear F148
 have F169:=aa9 ((b163.block (w28.heap.size) (Array.getElem?_eq_some_iff.1 F149.out).1).trans F149.out)
 clear F149
 have F170:=aa9 (az.below b163 _ _ F150.out)
 clear F150
 have F171:=aa9 (az.below b163 _ _ F151.out)
 clear F151
 have F172:=aa9 (au.below F156.out b163)
 clear F156
 have F173:=aa9 (au.below F159.out b163)
 clear F159
 have hz174:w136.heap.size≤X162.heap.size:=b163.size
 replace hb:=hb.trans (b163.mono hb.size)
 clear b163
 obtain ⟨y175,y176,y177,y178,y179,y180,y181,y182,y183,y184,y185⟩:=cC11 F164.out
 obtain ⟨y186,y187,y188,y189,y190,y191,y192,y193,y194,y195,y196⟩:=cC11 F168.out
 go_wp2_with fail
 refine (ed (qP s_Line) _ _ _ _ _ (au.rd _ _ _ F172.out) (au.rd _ _ _ F166.out) (au.rd _ _ _ F173.out) (au.rd _ _ _ F167.out) (by have:=SZ_r0.out;omega)).mono ?_
 rintro e w197 ⟨rfl,b198⟩
 clear y175 y176 y177 y178 y179 y180 y181 y182 y183 y184 y185 y186 y187 y188 y189 y190 y191 y192 y193 y194 y195 y196
 have F199:=aa9 (au.below F166.out b198)
 clear F166
 have F200:=aa9 (au.below F167.out b198)
 clear F167
 have F201:=aa9 ((b198.block (w1.heap.size) (Array.getElem?_eq_some_iff.1 F168.out).1).trans F168.out)
 clear F168
 have F202:=aa9 ((b198.block (w28.heap.size) (Array.getElem?_eq_some_iff.1 F169.out).1).trans F169.out)
 clear F169
 have F203:=aa9 (az.below b198 _ _ F170.out)
 clear F170
 have F204:=aa9 (az.below b198 _ _ F171.out)
 clear F171
 have F205:=aa9 (au.below F172.out b198)
 clear F172
 have F206:=aa9 (au.below F173.out b198)
 clear F173
 have F207:=aa9 ((b198.block (w136.heap.size) (Array.getElem?_eq_some_iff.1 F164.out).1).trans F164.out)
 clear F164
 have hz208:X162.heap.size≤w197.heap.size:=b198.size
 replace hb:=hb.trans (b198.mono hb.size)
 clear b198
 obtain ⟨y209,y210,y211,y212,y213,y214,y215,y216,y217,y218,y219⟩:=cC11 F202.out
 go_wp2_with fail
 refine (dS (qP s_Line) _ _ _ 1 rfl _ F203.out F204.out (by have:=CN_r0.out;omega) (by have:=SZ_r0.out;omega)).mono ?_
 rintro e w220 ⟨rfl,b221⟩
 clear y209 y210 y211 y212 y213 y214 y215 y216 y217 y218 y219
 rw [←HK115.out]
 have F222:=aa9 (au.below F199.out b221)
 clear F199
 have F223:=aa9 (au.below F200.out b221)
 clear F200
 have F224:=aa9 ((b221.block (w1.heap.size) (Array.getElem?_eq_some_iff.1 F201.out).1).trans F201.out)
 clear F201
 have F225:=aa9 ((b221.block (w28.heap.size) (Array.getElem?_eq_some_iff.1 F202.out).1).trans F202.out)
 clear F202
 have F226:=aa9 (az.below b221 _ _ F203.out)
 clear F203
 have F227:=aa9 (az.below b221 _ _ F204.out)
 clear F204
 have F228:=aa9 (au.below F205.out b221)
 clear F205
 have F229:=aa9 (au.below F206.out b221)
 clear F206
 have F230:=aa9 ((b221.block (w136.heap.size) (Array.getElem?_eq_some_iff.1 F207.out).1).trans F207.out)
 clear F207
 have hz231:w197.heap.size≤w220.heap.size:=b221.size
 replace hb:=hb.trans (b221.mono hb.size)
 clear b221
 go_wp2
 go_ret
 exact ⟨rfl,hb⟩
end Go.Proofs.YtmlgkoeacbeopaaGreatDoor
