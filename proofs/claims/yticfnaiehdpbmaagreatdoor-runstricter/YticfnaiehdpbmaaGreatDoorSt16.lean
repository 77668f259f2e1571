import Derived.Test.YticfnaiehdpbmaaGreatDoorSt15
import Derived.LaidHandle
import Derived.Stop.LaidErr
set_option maxRecDepth 100000
set_option maxHeartbeats 8000000
set_option linter.all false
namespace Go.Proofs.YticfnaiehdpbmaaGreatDoor
open Go.RowKit Go.Proofs.Tryz
section
open Go.ChangeShapes Go.WideShapes Go.ChangeAt Go.WideMaps Go.WideElems Go.RowKit
theorem aGG : Tryz.prog.globalNamed "errors.errorType" = some 0 := by kernel_rfl
theorem au1 : Tryz.prog.globalNamed "sloppyscope/run.errStopped" = some 1 := by kernel_rfl
theorem aGH : Tryz.prog.globalNamed "internal/strconv.uint64pow10" = some 8 := by kernel_rfl
theorem aDd:(Tryz.prog.globals[1]?).map (·.type)=some 31:=by kernel_rfl
theorem aGI:(Tryz.prog.globals[8]?).map (·.type)=some 341:=by kernel_rfl
theorem aDe : (Tryz.prog.cutTypes.find? (·.1 == "internal/reflectlite.rtype")).map (·.2) = some 215 := by kernel_rfl
theorem oneRow:((List.range 393).filter λa=>Tryz.prog.rowNamed a [101,114,114,111,114])=[31]:=by kernel_rfl
theorem axy:Tryz.prog.types.size=393:=by kernel_rfl
theorem apT:Tryz.prog.cellsOf 320=1:=by kernel_rfl
theorem apU:Tryz.prog.cellsOf 341=20:=by kernel_rfl
theorem apV:Tryz.prog.cellsOf 361=1:=by kernel_rfl
theorem au2 : "*" ++ "errors.errorString" = "*errors.errorString" := by decide
theorem axz (a : TypeId) (h : Tryz.prog.typeName? 3 a = some "*errors.errorString") : a = 359 :=
 typeName_ptr_named (nm:= "errors.errorString") (by rw [au2]; kernel_rfl) (by kernel_rfl) (by decide) a (by rw [au2]; exact h)
theorem atr:(Rows.laid_internal_strconv_uint64pow10:DataW Unit)=Lib.tabData .u64 Lib.pow10Tab:=rfl
theorem ajq:∀ a,a<19->(O0.getD a ByteArray.empty).size<=3:=by decide +kernel
theorem amF {a : World} (h : handlesMet Tryz.prog [("errors.errorType", Rows.laid_errors_errorType)] a) : Hp.Rj a := by
 obtain⟨j,n,k,d,e,f,g,c⟩:=h _ (List.mem_singleton.2 rfl);have m:j=[101,114,114,111,114]:=(Option.some.inj d).symm;subst m;obtain rfl:=Option.some.inj (aDe.symm.trans e);have b:k ∈ (List.range 393).filter λl=>Tryz.prog.rowNamed l [101,114,114,111,114]:=List.mem_filter.2 ⟨List.mem_range.2 (by rw[<-axy];exact f),g⟩
 rw[oneRow] at b;obtain rfl:=List.mem_singleton.1 b;have i:typeHandle Tryz.prog 31=.pointer (some ⟨13,31,none⟩):=by kernel_rfl
 rw[i] at c;simpa using World.var?_cell aGG c 0
theorem ZF {f:String}{i:DataW Unit}{n:List (String × DataW Unit)}{d:World}(h:laidMet Tryz.prog ((f,i)::n) d):∃ b c a e g,Tryz.prog.globalNamed f=some b/\(Tryz.prog.globals[b]?).map (·.type)=some c/\d.var? Tryz.prog f=some a/\DataW.trod (λ_=>()) Tryz.prog d 0 (λ_=>true) false e c a.toList=some (i,g):=by
 obtain⟨o,⟨b,c,a,e,g,p,m,j,k,l,_⟩,_⟩:=h;exact⟨b,c,a,e,g,m,j,k,l⟩
theorem afc {a:Array Value}{b:List Value}(h:a.toList=b):a=b.toArray:=by
 obtain⟨c⟩:=a;exact congrArg List.toArray h
abbrev aDf : List (String × DataW Unit) -> List (String × DataW Unit) := λa => ("sloppyscope/lex.words", Rows.laid_sloppyscope_lex_words) :: ("sloppyscope/lex.signs", Rows.laid_sloppyscope_lex_signs) :: ("sloppyscope/tree.signs", Rows.laid_sloppyscope_tree_signs) :: ("sloppyscope/tree.heads", Rows.laid_sloppyscope_tree_heads) :: a
section
variable {a:World} {b:List (String × DataW Unit)}
include a b
theorem att (h:laidMet Tryz.prog (aDf b) a):Hp.Gl a:=by
 have⟨X,aq,O,ak,S,D,u,E,C⟩:=ZF h;have⟨T,ah,P,ad,aj,v,J,F,H⟩:=ZF h.tail;have⟨V,au,N,Y,W,B,p,q,n⟩:=ZF h.tail.tail;have⟨ae,av,R,ag,U,m,z,d,L⟩:=ZF h.tail.tail.tail;obtain rfl:=Option.some.inj (apR.symm.trans D);obtain rfl:=Option.some.inj (apS.symm.trans v);obtain rfl:=Option.some.inj (akX.symm.trans B);obtain rfl:=Option.some.inj (akY.symm.trans m);obtain rfl:=Option.some.inj (axw.symm.trans u)
 obtain rfl:=Option.some.inj (axx.symm.trans J);obtain rfl:=Option.some.inj (atu.symm.trans p);obtain rfl:=Option.some.inj (atv.symm.trans z);have j:=afc (YO apW rfl C);have k:=afc (YO apX rfl H);have l:=afc (amG n);have o:=afc (amH L);have⟨t,e,g⟩:=Wp apR E;have⟨s,f,i⟩:=Wp apS F;have⟨r,I,c⟩:=Wp akX q;have⟨A,M,w⟩:=Wp akY d
 exact⟨⟨ajr,ajs,ajq,⟨t,e,by rw[g,j];rfl⟩,⟨s,f,by rw[i,k];rfl⟩⟩,⟨⟨A,M,by rw[w,o]⟩,⟨r,I,by rw[c,l]⟩⟩⟩
theorem axA (h : laidMet Tryz.prog (("internal/strconv.uint64pow10", Rows.laid_internal_strconv_uint64pow10) :: b) a) : Hp.Y1 a := by
 have⟨i,l,g,k,j,f,d,e,c⟩:=ZF h;obtain rfl:=Option.some.inj (aGH.symm.trans f);obtain rfl:=Option.some.inj (aGI.symm.trans d);rw[atr] at c;unfold Hp.Y1 Lib.TabIs;rw[e,<-Lib.cells_of_tab Tryz.underlying341 Tryz.underlying320 apT apU c]
theorem atw (h : laidMet Tryz.prog (("sloppyscope/run.errStopped", Rows.laid_sloppyscope_run_errStopped) :: b) a) : ∃ e : Addr, a.cell? ⟨1, 0, none⟩ = some (.iface 359 (.pointer (some e))) := by
 have⟨c,f,d,_⟩:=laid_sentinel h au1 aDd Tryz.underlying31 axz Tryz.underlying359 Tryz.underlying361 rfl rfl Tryz.underlying9 apV cells9;exact⟨c,by simpa using World.var?_cell au1 d 0⟩
end
theorem aDg {a:World}(g:Hp.Y1 a)(e:Hp.Rj a)(d:Hp.Gl a)(c:∃ b:Addr,a.cell? ⟨1,0,none⟩=some (.iface 359 (.pointer (some b)))):∃ f b,Hp.Rw a f b:=by
 obtain⟨b,c⟩:=c;exact⟨_,b,rfl,c,e,g,d,by have:=d.li.lt;omega⟩
