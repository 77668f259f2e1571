import Derived.Test.YticfnaiehdpbmaaGreatDoorAg43
import Derived.LaidHandle
import Derived.Stop.LaidErr
set_option maxRecDepth 100000
set_option maxHeartbeats 8000000
set_option linter.unusedVariables false
namespace Go.Proofs.YticfnaiehdpbmaaGreatDoor
open Go.RowKit Go.Proofs.Tryz
section
open Go.ChangeShapes Go.WideShapes Go.ChangeAt Go.WideMaps Go.WideElems Go.RowKit
theorem aD7 : Tryz.prog.globalNamed "errors.errorType" = some 0 := by kernel_rfl
theorem asC : Tryz.prog.globalNamed "sloppyscope/run.errStopped" = some 1 := by kernel_rfl
theorem aD8 : Tryz.prog.globalNamed "internal/strconv.uint64pow10" = some 8 := by kernel_rfl
theorem aAR:(Tryz.prog.globals[1]?).map (·.type)=some 31:=by kernel_rfl
theorem aD9:(Tryz.prog.globals[8]?).map (·.type)=some 341:=by kernel_rfl
theorem aAS : (Tryz.prog.cutTypes.find? (·.1 == "internal/reflectlite.rtype")).map (·.2) = some 215 := by kernel_rfl
theorem oneRow:((List.range 393).filter fun t=>Tryz.prog.rowNamed t [101,114,114,111,114])=[31]:=by kernel_rfl
theorem avd:Tryz.prog.types.size=393:=by kernel_rfl
theorem anD:Tryz.prog.cellsOf 320=1:=by kernel_rfl
theorem anE:Tryz.prog.cellsOf 341=20:=by kernel_rfl
theorem anF:Tryz.prog.cellsOf 361=1:=by kernel_rfl
theorem asD : "*" ++ "errors.errorString" = "*errors.errorString" := by decide
theorem ave (u : TypeId) (h : Tryz.prog.typeName? 3 u = some "*errors.errorString") : u = 359 :=
 typeName_ptr_named (nm := "errors.errorString") (by rw [asD]; kernel_rfl) (by kernel_rfl) (by decide) u (by rw [asD]; exact h)
theorem aqH:(Rows.laid_internal_strconv_uint64pow10:DataW Unit)=Lib.tabData .u64 Lib.pow10Tab:=rfl
theorem ahL:∀ i,i<19->(Pq.getD i ByteArray.empty).size<=3:=by decide +kernel
theorem ajn {W : World} (h : handlesMet Tryz.prog [("errors.errorType", Rows.laid_errors_errorType)] W) : Hp.Qp W := by
 obtain⟨name,u,qJ,av,bC,ey,hE,kc⟩:=h _ (List.mem_singleton.2 rfl);have vk:name=[101,114,114,111,114]:=(Option.some.inj av).symm;subst vk;obtain rfl:=Option.some.inj (aAS.symm.trans bC);have aV:qJ ∈ (List.range 393).filter fun t=>Tryz.prog.rowNamed t [101,114,114,111,114]:=List.mem_filter.2 ⟨List.mem_range.2 (by rw[<-avd];exact ey),hE⟩
 rw[oneRow] at aV;obtain rfl:=List.mem_singleton.1 aV;have hh:typeHandle Tryz.prog 31=.pointer (some ⟨13,31,none⟩):=by kernel_rfl
 rw[hh] at kc;simpa using World.var?_cell aD7 kc 0
theorem YI {n:String}{d:DataW Unit}{r:List (String × DataW Unit)}{W:World}(h:laidMet Tryz.prog ((n,d)::r) W):∃ g t cs f p,Tryz.prog.globalNamed n=some g/\(Tryz.prog.globals[g]?).map (·.type)=some t/\W.var? Tryz.prog n=some cs/\DataW.trod (fun _=>()) Tryz.prog W 0 (fun _=>true) false f t cs.toList=some (d,p):=by
 obtain⟨ps,⟨g,t,cs,f,p,q,hg,a',ap,hd,_⟩,_⟩:=h;exact⟨g,t,cs,f,p,hg,a',ap,hd⟩
theorem adX {cs:Array Value}{l:List Value}(h:cs.toList=l):cs=l.toArray:=by
 obtain⟨m⟩:=cs;exact congrArg List.toArray h
abbrev aAT : List (String × DataW Unit) -> List (String × DataW Unit) := fun r => ("sloppyscope/lex.words", Rows.laid_sloppyscope_lex_words) :: ("sloppyscope/lex.signs", Rows.laid_sloppyscope_lex_signs) :: ("sloppyscope/tree.signs", Rows.laid_sloppyscope_tree_signs) :: ("sloppyscope/tree.heads", Rows.laid_sloppyscope_tree_heads) :: r
section
variable {W:World} {r:List (String × DataW Unit)}
include W r
theorem aoH (h:laidMet Tryz.prog (aAT r) W):Hp.Gl W:=by
 obtain⟨cC,t0,KL,q4,aW,qr,jN,pK,m0⟩:=YI h;obtain⟨b0,nh,KM,dZ,p1,iE,wi,sM,tO⟩:=YI h.tail;obtain⟨d4,t2,Hm,dW,cr,mm,eS,eT,cS⟩:=YI h.tail.tail;obtain⟨d1,t3,KN,fO,cL,c7,kW,Eu,xC⟩:=YI h.tail.tail.tail;obtain rfl:=Option.some.inj (anB.symm.trans qr);obtain rfl:=Option.some.inj (anC.symm.trans iE);obtain rfl:=Option.some.inj (aiZ.symm.trans mm);obtain rfl:=Option.some.inj (ai0.symm.trans c7);obtain rfl:=Option.some.inj (avb.symm.trans jN)
 obtain rfl:=Option.some.inj (avc.symm.trans wi);obtain rfl:=Option.some.inj (aqI.symm.trans eS);obtain rfl:=Option.some.inj (aqJ.symm.trans kW);have aH:=adX (XT anG rfl m0);have av:=adX (XT anH rfl tO);have bC:=adX (akH cS);have ey:=adX (akI xC);obtain⟨hz,HC,Iq⟩:=Vm anB pK;obtain⟨g4,HD,Ir⟩:=Vm anC sM;obtain⟨gR,vo,Az⟩:=Vm aiZ eT;obtain⟨j7,zJ,kS⟩:=Vm ai0 Eu
 exact⟨⟨ahM,ahN,ahL,⟨hz,HC,by rw[Iq,aH];rfl⟩,⟨g4,HD,by rw[Ir,av];rfl⟩⟩,⟨⟨j7,zJ,by rw[kS,ey]⟩,⟨gR,vo,by rw[Az,bC]⟩⟩⟩
theorem asR (h : laidMet Tryz.prog (("internal/strconv.uint64pow10", Rows.laid_internal_strconv_uint64pow10) :: r) W) : Hp.X5 W := by
 obtain⟨d4,t2,Hm,dW,cr,mm,eS,eT,cS⟩:=YI h;obtain rfl:=Option.some.inj (aD8.symm.trans mm);obtain rfl:=Option.some.inj (aD9.symm.trans eS);rw[aqH] at cS;unfold Hp.X5 Lib.TabIs;rw[eT,<-Lib.cells_of_tab Tryz.underlying341 Tryz.underlying320 anD anE cS]
theorem aoI (h : laidMet Tryz.prog (("sloppyscope/run.errStopped", Rows.laid_sloppyscope_run_errStopped) :: r) W) : ∃ eb : Addr, W.cell? ⟨1, 0, none⟩ = some (.iface 359 (.pointer (some eb))) := by
 obtain⟨a,s,ap,_⟩:=laid_sentinel h asC aAR Tryz.underlying31 ave Tryz.underlying359 Tryz.underlying361 rfl rfl Tryz.underlying9 anF cells9;exact⟨a,by simpa using World.var?_cell asC ap 0⟩
end
theorem awG {W:World}(h1:Hp.X5 W)(O:Hp.Qp W)(ax:Hp.Gl W)(aU:∃ eb:Addr,W.cell? ⟨1,0,none⟩=some (.iface 359 (.pointer (some eb)))):∃ es eb,Hp.Rw W es eb:=by
 obtain⟨eb,aU⟩:=aU;exact⟨_,eb,rfl,aU,O,h1,ax,by have:=ax.li.lt;omega⟩
end
end Go.Proofs.YticfnaiehdpbmaaGreatDoor
