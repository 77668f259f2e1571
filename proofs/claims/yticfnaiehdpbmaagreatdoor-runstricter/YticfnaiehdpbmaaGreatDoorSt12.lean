import Derived.Test.YticfnaiehdpbmaaGreatDoorRows
import Derived.LaidMore
import Derived.Test.YticfnaiehdpbmaaGreatDoorSt10
set_option maxRecDepth 100000
set_option maxHeartbeats 8000000
set_option linter.all false
namespace Go.Proofs.YticfnaiehdpbmaaGreatDoor
open Go.RowKit Go.Proofs.Tryz
section
open Go.ChangeShapes Go.WideShapes Go.ChangeAt Go.WideMaps Go.WideElems Go.RowKit
def aGF:ownKnob Tryz.prog.godebug=none:=by kernel_rfl
def apR : Tryz.prog.globalNamed "sloppyscope/lex.words" = some 6 := by kernel_rfl
def apS : Tryz.prog.globalNamed "sloppyscope/lex.signs" = some 2 := by kernel_rfl
def axw:(Tryz.prog.globals[6]?).map (·.type)=some 272:=by kernel_rfl
def axx:(Tryz.prog.globals[2]?).map (·.type)=some 272:=by kernel_rfl
def cells9:Tryz.prog.cellsOf 9=1:=by kernel_rfl
def cells53:Tryz.prog.cellsOf 272=19:=by kernel_rfl
def YO {W:World}{fuel:Nat}{cs:List Value}{p:List MemPlace}(L:List (List UInt8))(dA:L.length=19)
  (h:DataW.trod (fun _=>()) Tryz.prog W 0 (fun _=>true) false fuel 272 cs=some (.agg (L.map fun l=>.lit (.string l)),p)):cs=(L.map ofBytes).map Value.string:=by
 obtain⟨xs,m,rfl,ac,hlen,ax,fc⟩:=DataW.trod_array Tryz.underlying272 h;simp only[Prod.mk.injEq,DataW.agg.injEq] at ac;rw[cells53] at hlen;refine List.ext_getElem (by simp[dA,hlen]) fun i h1 U=>?_;have az:i<19:=by omega
 have ao:=fc i az;rw[cells9,Nat.mul_one,List.getElem?_eq_getElem (by omega)] at ao;have⟨s,aw,bi,_⟩:=DataW.trod_string Tryz.underlying9 ao;have d4:(xs.map (·.1))[i]'(by simp[ax];omega)=.lit (.string (L[i]'(by omega))):=by
  have hC:(xs.map (·.1))[i]? =(L.map fun l=>(DataW.lit (.string l):DataW Unit))[i]?:=by rw[ac.1]
  rw[List.getElem?_eq_getElem (by simp[ax];omega),List.getElem?_eq_getElem (by simp;omega)] at hC
  simpa using hC
 rw[List.getElem_map,bi] at d4;have kj:s.data.toList=L[i]'(by omega):=by simpa using d4
 have vL:(cs.drop i)[0]? = some (.string s):=by
  have:((cs.drop i).take 1)[0]? = some (.string s):=by rw[aw];rfl
  simpa using this
 rw[List.getElem?_drop,Nat.add_zero,List.getElem?_eq_getElem h1] at vL;rw[Option.some.inj vL];simp[aci kj]
def Wp {W:World}{n:String}{g:Nat}{cs:Array Value}(hg:Tryz.prog.globalNamed n=some g)(h:W.var? Tryz.prog n=some cs):∃ t fr,W.heap[g]? = some (.cells cs t fr):=by
 simp only[World.var?,hg,Option.bind_some] at h
 split at h
 ·rename_i Lf t fr hh
  cases h;exact⟨t,fr,hh⟩
 ·
  cases h
end
section
open Go.ChangeShapes Go.WideShapes Go.ChangeAt Go.WideMaps Go.WideElems Go.RowKit
def akX : Tryz.prog.globalNamed "sloppyscope/tree.signs" = some 3 := by kernel_rfl
def akY : Tryz.prog.globalNamed "sloppyscope/tree.heads" = some 4 := by kernel_rfl
def atu:(Tryz.prog.globals[3]?).map (·.type)=some 276:=by kernel_rfl
def atv:(Tryz.prog.globals[4]?).map (·.type)=some 285:=by kernel_rfl
def ahe:Tryz.prog.cellsOf 275=4:=by kernel_rfl
def akZ:Tryz.prog.cellsOf 3=1:=by kernel_rfl
def apY:Tryz.prog.cellsOf 276=56:=by kernel_rfl
def ak0:Tryz.prog.cellsOf 284=2:=by kernel_rfl
def apZ:Tryz.prog.cellsOf 285=16:=by kernel_rfl
def aap (k:Nat)(E:0<k):∀ (L:List (List Value)) (cs:List Value),(∀ l ∈ L,l.length=k)->cs.length=L.length * k->(∀ i (az:i<L.length),(cs.drop (i * k)).take k=L[i])->cs=L.flatten
 | [],cs,_,hl,_=>by
  have:cs.length=0:=by simpa using hl
  simpa using this
 | l::L,cs,h,hl,al=>by
  have h0:=al 0 (by simp);simp only[Nat.zero_mul,List.drop_zero,List.getElem_cons_zero] at h0;have h1:=aap k E L (cs.drop k) (fun x ac=>h x (List.mem_cons_of_mem _ ac)) (by rw[List.length_drop,hl,List.length_cons,Nat.add_mul];omega) (fun i az=>by
   have:=al (i+1) (by simpa using az);rw[List.getElem_cons_succ] at this;rw[List.drop_drop,show k+i * k=(i+1) * k by rw[Nat.add_mul];omega]
   exact this)
  rw[List.flatten_cons,<-h0,<-h1,List.take_append_drop]
section
variable {W:World} {fuel:Nat} {cs:List Value}
include W fuel cs
def afd {bB:Int}{q:List MemPlace}(h:DataW.trod (fun _=>()) Tryz.prog W 0 (fun _=>true) false fuel 3 cs=some (.lit (.int .i64 bB),q)):cs=[.int .i64 bB]:=by
 have⟨k,e,f,_⟩:=DataW.trod_int Tryz.underlying3 h;simp only[Prod.mk.injEq,DataW.lit.injEq,Lit.int.injEq,true_and] at f;rw[e,<-f.1]
def text_of {l:List UInt8}{q:List MemPlace}(h:DataW.trod (fun _=>()) Tryz.prog W 0 (fun _=>true) false fuel 9 cs=some (.lit (.string l),q)):cs=[.string (ofBytes l)]:=by
 have⟨s,aw,bi,_⟩:=DataW.trod_string Tryz.underlying9 h;simp only[Prod.mk.injEq,DataW.lit.injEq,Lit.string.injEq] at bi;rw[aw,aci bi.1.symm]
end
def atx {cs:List Value}(hl:cs.length=4){a b c d:Value}(h0:(cs.drop 0).take 1=[a])(h1:(cs.drop 1).take 1=[b])(U:(cs.drop 2).take 1=[c])(av:(cs.drop 3).take 1=[d]):cs=[a,b,c,d]:=by
 match cs,hl with
 | [x,y,bB,u],_=>simp at h0 h1 U av;rw[h0,h1,U,av]
def fields2 {cs:List Value}(hl:cs.length=2){a b:Value}(h0:(cs.drop 0).take 1=[a])(h1:(cs.drop 1).take 1=[b]):cs=[a,b]:=by
 match cs,hl with
 | [x,y],_=>simp at h0 h1;rw[h0,h1]
def sgD (l:List UInt8)(a b c:Int):DataW Unit:=.agg [.lit (.string l),.lit (.int .i64 a),.lit (.int .i64 b),.lit (.int .i64 c)]
def hdD (l:List UInt8)(a:Int):DataW Unit:=.agg [.lit (.string l),.lit (.int .i64 a)]
def Yg {H:Type}{xs:List (DataW H × List MemPlace)}{aW:List (DataW H)}(h:aW=xs.map (·.1))(i:Nat)(d:DataW H)(hd:aW[i]? = some d):∃ q,xs[i]? = some (d,q):=by
 subst h;rw[List.getElem?_map] at hd
 cases ac:xs[i]? with
 | none=>rw[ac] at hd;cases hd
 | some x=>
  rw[ac] at hd;exact⟨x.2,by rw[<-Option.some.inj hd]⟩
section
variable {W:World} {fuel:Nat} {cs:List Value} {l:List UInt8}
include W fuel cs l
def aDh {a b c:Int}{q:List MemPlace}(h:DataW.trod (fun _=>()) Tryz.prog W 0 (fun _=>true) false fuel 275 cs=some (sgD l a b c,q)) :
  cs=[.string (ofBytes l),.int .i64 a,.int .i64 b,.int .i64 c]:=by
 have⟨xs,n,_,ac,hl,ax,fc⟩:=DataW.trod_struct Tryz.underlying275 h;simp only[Prod.mk.injEq,sgD,DataW.agg.injEq] at ac;rw[ahe] at hl;obtain⟨cK,fB⟩:=Yg ac.1 0 _ rfl;obtain⟨b1,cy⟩:=Yg ac.1 1 _ rfl;obtain⟨bU,dO⟩:=Yg ac.1 2 _ rfl;obtain⟨ej,jl⟩:=Yg ac.1 3 _ rfl;have pA:=fc 0 _ rfl;have dU:=fc 1 _ rfl;have dQ:=fc 2 _ rfl;have fT:=fc 3 _ rfl;rw[fB] at pA;rw[cy] at dU;rw[dO] at dQ;rw[jl] at fT;have cz:(cs.drop 0).take (Tryz.prog.cellsOf 9)=_:=text_of pA
 have bK:(cs.drop 1).take (Tryz.prog.cellsOf 3)=_:=afd dU;have cX:(cs.drop 2).take (Tryz.prog.cellsOf 3)=_:=afd dQ;have dV:(cs.drop 3).take (Tryz.prog.cellsOf 3)=_:=afd fT;rw[cells9] at cz;rw[akZ] at bK cX dV;exact atx hl cz bK cX dV
def aDi {a:Int}{q:List MemPlace}(h:DataW.trod (fun _=>()) Tryz.prog W 0 (fun _=>true) false fuel 284 cs=some (hdD l a,q)) :
  cs=[.string (ofBytes l),.int .i64 a]:=by
 have⟨xs,n,_,ac,hl,ax,fc⟩:=DataW.trod_struct Tryz.underlying284 h;simp only[Prod.mk.injEq,hdD,DataW.agg.injEq] at ac;rw[ak0] at hl;obtain⟨cK,fB⟩:=Yg ac.1 0 _ rfl;obtain⟨b1,cy⟩:=Yg ac.1 1 _ rfl;have pA:=fc 0 _ rfl;have dU:=fc 1 _ rfl;rw[fB] at pA;rw[cy] at dU;have cz:(cs.drop 0).take (Tryz.prog.cellsOf 9)=_:=text_of pA;have bK:(cs.drop 1).take (Tryz.prog.cellsOf 3)=_:=afd dU;rw[cells9] at cz;rw[akZ] at bK;exact fields2 hl cz bK
end
def aDj:List (List UInt8 × Int × Int × Int):=sgs.map fun e=>(e.tx.data.toList,e.kd,e.parts,e.str)
def aDk:List (List UInt8 × Int):=hds.map fun e=>(e.1.data.toList,e.2)
section
variable {W:World} {fuel:Nat} {cs:List Value} {p:List MemPlace}
include W fuel cs p
def amG (h:DataW.trod (fun _=>()) Tryz.prog W 0 (fun _=>true) false fuel 276 cs=some (.agg (aDj.map fun e=>sgD e.1 e.2.1 e.2.2.1 e.2.2.2),p)):cs=Wq.toList:=by
 have⟨xs,m,_,ac,hlen,ax,fc⟩:=DataW.trod_array Tryz.underlying276 h;simp only[Prod.mk.injEq,DataW.agg.injEq] at ac;rw[apY] at hlen;have key:cs=(aDj.map fun e=>[Value.string (ofBytes e.1),.int .i64 e.2.1,.int .i64 e.2.2.1,.int .i64 e.2.2.2]).flatten:=by
  refine aap 4 (by decide) _ cs ?_ (by rw[hlen];rfl) ?_
  ·intro l hl;obtain⟨e,_,rfl⟩:=List.mem_map.1 hl;rfl
  ·intro i az;rw[List.length_map] at az;have AF:i<14:=az;have ao:=fc i AF;rw[ahe] at ao;obtain⟨q,ag⟩:=Yg ac.1 i _ (by rw[List.getElem?_map,List.getElem?_eq_getElem az];rfl)
   rw[ag] at ao;rw[aDh ao,List.getElem_map]
 rw[key];rfl
def amH (h:DataW.trod (fun _=>()) Tryz.prog W 0 (fun _=>true) false fuel 285 cs=some (.agg (aDk.map fun e=>hdD e.1 e.2),p)):cs=VK.toList:=by
 have⟨xs,m,_,ac,hlen,ax,fc⟩:=DataW.trod_array Tryz.underlying285 h;simp only[Prod.mk.injEq,DataW.agg.injEq] at ac;rw[apZ] at hlen;have key:cs=(aDk.map fun e=>[Value.string (ofBytes e.1),.int .i64 e.2]).flatten:=by
  refine aap 2 (by decide) _ cs ?_ (by rw[hlen];rfl) ?_
  ·intro l hl;obtain⟨e,_,rfl⟩:=List.mem_map.1 hl;rfl
  ·intro i az;rw[List.length_map] at az;have AF:i<8:=az;have ao:=fc i AF;rw[ak0] at ao;obtain⟨q,ag⟩:=Yg ac.1 i _ (by rw[List.getElem?_map,List.getElem?_eq_getElem az];rfl)
   rw[ag] at ao;rw[aDi ao,List.getElem_map]
 rw[key];rfl
end
end
namespace Hp
section
open Go.RowKit Go.Extern.Stop Go.Stop Go.Extern
def aru {w:Og}{T:Nat}{t:TypeId}{n v0:Ot}(bH iY:Obj)(A:w.heap[T]? = some (OM #[v0] t))(dZ:w.cell? (N9 T 0)=some v0)(lU:T<w.heap.size) :
  (((w.setCell (N9 T 0) n).alloc bH).alloc iY).heap[T]? = some (OM #[n] t)/\Below T w (((w.setCell (N9 T 0) n).alloc bH).alloc iY):=
 ⟨alloc_old (alloc_old (heap_setCell_same w T 0 _ t n A)),(ano bH iY dZ lU).2⟩
def arv (bc:Nat)(T a:Nat)(w:Og)(x1:w.heap[T]? = some (OM #[QS] 122))(dZ:w.cell? (N9 T 0)=some QS)(ah:w.frozen? (N9 T 0)=false)(ay:w.cell? (N9 a 0)=some (Oy T 0))(lU:T<w.heap.size)(oM:a<w.heap.size) :
  Oq 65 #[.iface 122 (Oy bc 0),.iface 123 (Oy T 0),.agg #[Oy 13 123,Oy a 0,.int .u64 150],.iface 215 (.agg #[Oy 13 122])] w fun e w'=>
   e=OA (Om true)/\w'.heap[T]? = some (OM #[Oy bc 0] 122)/\Below T w w':=by
 have z:=N8 (∀{G}(h:G:=by
 have BH:=R9.alp;have Hb:=R9.Zi;have KA:=R9.ah4;have cZ:=R9.anu (N9 a 0) (N9 T 0) (w.alloc (.cells #[Oy 13 123,Oy a 0,.int .u64 150] 130)) (by rw[World.cell?_alloc_past _ _ _ oM];exact ay)
 have st:=R9.avm (N9 T 0) (N9 (w.heap.size+1) 0) (N9 bc 0) QS ((w.alloc (.cells #[Oy 13 123,Oy a 0,.int .u64 150] 130)).alloc (.cells #[Oy bc 0] 122))
  (by rw[World.cell?_alloc_at _ _ _ _ OW];rfl) (by rw[World.cell?_alloc_past _ _ _ QY,World.cell?_alloc_past _ _ _ lU];exact dZ) (by rw[World.frozen?_alloc_old _ _ _ QY,World.frozen?_alloc_old _ _ _ QY];exact ah)
 have z:=N8 (∀{G}(h:G:=by
 exact⟨rfl,aru _ _ x1 dZ lU⟩),G);exact arn),G);exact aro
def aj3 (bc:Nat)(T:Nat)(w:Og)(x1:w.heap[T]? = some (OM #[QS] 122))(dZ:w.cell? (N9 T 0)=some QS)(ah:w.frozen? (N9 T 0)=false)(lU:T<w.heap.size)(hg:w.cell? (N9 0 0)=some (.iface 215 (.agg #[Oy 13 31]))) :
  Oq 32 #[.iface 122 (Oy bc 0),.iface 123 (Oy T 0)] w fun e w'=>e=OA (Om true)/\w'.heap[T]? = some (OM #[Oy bc 0] 122)/\Below T w w':=by
 have z:=N8 (∀{G}(h:G:=by
 have Dx:gF.heap[T]? = some (OM #[QS] 122):=by rw[iR];exact alloc_old (alloc_old x1)
 have z:=N8 (∀{G}(h:G:=by
 have aj:Hid _:=arv bc T w.heap.size gF Dx rp qo ay Oe Oe;rw[iR] at aj kk;clear b8 qo rp Dx x1 ay iR gF;exact aze),G);exact avl),G);exact zsv
end
section
variable {w0:Og} {mb af:Nat} {O:List Nat} {es aT aB aA aK:Ot} {w w':Og} {σ:St} {N:Nat} {F:Fx}
section
variable {p:Pl} {o:Int} {d:Nd} {aW:List Nd} {v:Va}
include p o d aW v
def asG {σ1:St}(h:F.v (Oa d 0) p σ=((v,.no),σ1)):Xp F p o (d::aW) σ=Xp F p o aW (σ1.Qx o d.2.tx v false):=by rw[Xp,h]
def asH {e:Er}{σ1:St}(h:F.v (Oa d 0) p σ=((v,e),σ1))(ao:e≠.no):Xp F p o (d::aW) σ=((vU,e),σ1):=by
 rw[Xp,h];exact awu
end
def amh (ab:Zf es)(aJ:Ms w0 mb af O w σ)(aH:Sz N σ)(hN:N<1000000000){a:Ad}{d:Nd}(hd:OJ O w a d)(hlen:d.2.kids.length<=1000000)(h1:∀ k ∈ Px d,k.2.kids.length=1)(p:Pl)(aC:Option Addr)
  (P:St->Prop) (hP:P { σ with M:=σ.M.OY 0 }) (br:∀ k ∈ Px d,∀ bM,P bM->Tt w0 mb af O es bM (Oa k 0) p (F.v (Oa k 0) p bM)/\∀ v σ1,F.v (Oa k 0) p bM=((v,.no),σ1)->Sz N σ1/\P (σ1.Qx σ.M.objs.length k.2.tx v false)) :
  Oq 266 #[N7 mb,N7 a.p,PD p aC] w (OQ w0 mb af O es w (Xp F p σ.M.objs.length (Px d) { σ with M:=σ.M.OY 0 })):=by
 have z:=N8 (∀{G}(h:G:=by
 have b7:=hide bb;have ei:=hide (cells4 bb);have z:=N8 (∀{G}(h:G:=by
 have⟨q,bj⟩:=xH a.p;have⟨ob,f'⟩:=xE ((σ.M.objs.length:Int):Int);have⟨qW,qK⟩:=xE ({ σ with M:=σ.M.OY 0 }:St);have⟨aW,u'⟩:=xH (Px d);have⟨cZ,pg⟩:=xH a.ks;have ij:cZ.length=aW.length:=by rw[pg.out,u'.out,hd.ks,RG]
 rw[<-f',<-qK,<-u'.out];rw[<-f',<-u'.out] at br;rw[<-qK] at hP;rw[<-u'.out] at h1;have⟨rs,fM⟩:=xH (Xp F ⟨au,aG,st⟩ ob aW qW);rw[<-fM.out];have m3:Oq 49 #[N7 mb,NY 0] w2 fun e w'=>e=OA (NY ob)/\Ms w0 mb af O w' qW/\O8 Th mb w2 w':=by
  obtain⟨_,_,_,_,ac⟩:=cU;refine(aaf ac aH hN 0).mono ?_;rintro e w' ⟨rfl,U,av⟩;rw[f',qK];exact⟨rfl,⟨_,_,_,_,U⟩,av⟩
 have oy:=hide hP;have aj:=hide br;have uU:=hide h1;have pj:=hide ij;have DU:cZ.length<=1000000:=by rw[pg.out,hd.ks];exact hlen
 rw[<-bj.out] at ds ⊢;clear bb hr2 dq cE d2 hP br h1 f' qK ij;go_enter func266,ntmps266;go_wp2_with fail;rw[<-bo.out,<-b4,<-bS];clear bS b4;refine cm m3 ?_;rintro e aq ⟨rfl,eu,f5⟩;have fQ:=eu.lt;have nZ:OV none mb w2 aq:=OV.ofT f5;have dg:=hide (nZ.keep bq.out Ol);have fk:=hide (nZ.keep b7.out Ol);have cT:=(cG.trans nZ);have x8:=cR.kp nZ.Ul;have⟨BI,c3,hrow,s4⟩:=Ri.row x8.at_;obtain⟨cV,dM,aQ⟩:=hrow.form;subst aQ;rw[<-bj.out] at c3 s4;rw[<-pg.out] at c3 hrow;have fw:=x8.ndl
 rw[<-pg.out,<-u'.out] at fw;go_wp2_with fail;clear c3
 go_loopw [22] (fun i wr=>∃ (k:Nat) (dx:St),k<=cZ.length/\i=NY k/\Ms w0 mb af O wr dx/\P dx/\OV none mb aq wr/\rs=Xp F ⟨au,aG,st⟩ ob (aW.drop k) dx) (fun i _=>cZ.length - (intOf i).toNat)
 case atStart=>exact⟨0,qW,Nat.zero_le _,rfl,eu,oy.out,OV.of QI (OO fQ),fM.out⟩
 case round=>
  obtain⟨k,dx,E,rfl,aJ,lk,ah,iV⟩:=hrel;have hT:=aJ;have mi:=hide lk;have jb:=hide iV;have dk:=aJ.lt;have r':=(cT.trans ah);have FH:=ah;have bq:=hide (ah.keep dg.out Ol);have b7:=hide (ah.keep fk.out Ol);have ei:=hide (cells4 b7.out);have hpl2:=lt_of_heap b7.out;clear lk iV
  by_cases aM:k<cZ.length
  ·have bm:k<aW.length:=by rw[<-pj.out];exact aM
   obtain⟨g,cap,am,hg,ai,ax⟩:=(hrow.kp ah.Ul).cell k aM;have z:=N8 (∀{G}(h:G:=by
   have ji:=(Uc.get _ _ fw k aM bm).kp ah.Ul;obtain⟨cj,ih⟩:=NZ aj aW[k] (List.getElem_mem _) dx mi.out;have iT:=NZ uU aW[k] (List.getElem_mem _);have⟨b9,cz,cap0,fE,dv,fU,_⟩:=ji.Yb (i:=0) Oe;rw[iT] at fE;have bF:=hide (fun X (ak:Oo wr X)=>cj X b9 aC (hT.later ak) (fU.kp (Kp.of ak)));have⟨ho,nr⟩:=xE ((cZ[k]).p);have⟨kp,c'⟩:=xE b9.p;have⟨tx,lO⟩:=xH ((aW[k]).2.tx);have I9:=ji.cells.1;have fS:=ji.cells.2.2.1;have hblk:=ji.blk;rw[<-nr] at ai fE I9 fS hblk;rw[<-lO.out] at fS
   rw[<-c'] at dv bF
   rcases dt:F.v (Oa aW[k] 0) ⟨au,aG,st⟩ dx with ⟨⟨v1,aw⟩,σ1⟩
   rw[dt] at bF;have lL:=hide ih;have df:=hide dt;have me:=hide (List.drop_eq_getElem_cons bm);have ez:=hide fE;have lK:=hide dv;have mW:=hide fS;have lI:=hide hblk;have dC:=cell_lt dv;have cE:w.heap.size<=aV:=NZ cQ;clear ih nr c' dt fE dv fS hblk;go_wp2_with fail;clear ai;refine VG (H:=fun wz vb ev=>VB w0 mb af O es wr v1 aw σ1 wz vb ev) (G:=?GG) (fun dD=>?ways) ?rest
   case ways=>
    refine S9 8 fun ae=>?_;refine up 0 mb 0 ae ?_;refine up 1 ho 0 ae ?_;refine up 2 ho 0 ae ?_;refine up 3 ho 3 ae ?_;have z:=N8 (∀{G}(h:G:=by
    refine uk4 7 ei.out ae ?_;refine uq2 8 12 (fun K D=>?_) fun K D=>?_
    ·have z:=N8 (∀{G}(h:G:=by
     refine uz 14 ev ?_;exact aBx),G);exact asI
    ·have z:=N8 (∀{G}(h:G:=by
     have fi:aD.heap[wr.heap.size]? = some (OM #[NY 0,NY 0,Pm] 65):=ah.keep (Oi _ _) Ol;have z:=N8 (∀{G}(h:G:=by
     have z:=N8 (∀{G}(h:G:=by
     have cj:=VB.early (v:=v1) fi Pg (OO dk) aL aJ ((OV.of (PE.drew) (OO dk)).trans ah);exact aBy),G);exact aiV),G);exact asJ),G);exact asK),G);exact ao3
   case rest=>
    have z:=N8 (∀{G}(h:G:=by
    have dm:OV none mb w wz:=r'.trans a7.fr;clear dj
    by_cases ao:aw=.no
    ·subst ao;have bu:ev=Qd:=a7.er;subst bu;have⟨b8,v6⟩:=NZ lL v1 σ1 df.out;rw[<-lO.out] at v6;have gD:=hide v6;have jr:=a7.ms;have gd:=hide (cells3 a7.v);have h5:=lt_of_heap a7.v;have op:=hide (a7.fr.Ul.XG mW.out lI.out);have hj:=cell_lt op.out;have FJ:=(FH.trans a7.fr);have pn:Hid (∀ X,Oo wz X->Oq 56 #[N7 mb,NY ob,Oj tx,vA v1,Om false] X fun e w'=>(∃ c,e=OA (TT c))/\Ms w0 mb af O w' (σ1.Qx ob tx v1 false)/\O8 Th mb X w'):=fun X ak=>by
      have⟨_,_,_,_,ac⟩:=jr.later ak;refine(YL ac b8 hN ob tx v1 false).mono ?_;rintro e w' ⟨rfl,U,av⟩;exact⟨⟨_,rfl⟩,⟨_,_,_,_,U⟩,av⟩
     clear v6 cS bY cg dJ dK dL rl;go_wp2_with fail;refine S9 9 fun ae=>?_;have z:=N8 (∀{G}(h:G:=by
     refine uh 3 (NY ob) (ae) ?_;refine up 4 ho 0 ae ?_;refine up 5 ho 0 ae ?_;refine up 6 ho 1 ae ?_;refine uk 7 op.out ae ?_;refine uk3 8 gd.out ae ?_;refine PS 9 fun K D=>?_;go_simp;refine cm (NZ pn _ ae) ?_;rintro e ce ⟨⟨c5,rfl⟩,ug,qp⟩;refine ko D ?_;clear D K;have g':=(FJ.trans ((OV.of (L:=none) ae (OO eW)).trans (OV.ofT qp)));refine RY ?_ _;go_simp;go_wp2
     go_roundw
     case rel=>
      refine⟨k+1,σ1.Qx ob tx v1 false,by omega,by go_num,ug,gD.out,g',?_⟩;rw[jb.out,me.out,asG df.out,<-lO.out]
     case measure=>simp[intOf];omega),G);exact TI
    ·have⟨et,ex,bu⟩:=a7.er.WC ao ab;subst bu;have aI:rs=((vU,aw),σ1):=by rw[jb.out,me.out];exact asH df.out ao
     have bA:=hide aI;clear ao aI;exact asz),G);exact aBa),G);exact awv
  ·have cL:k=cZ.length:=Oe;have aI:rs=((SQ ob,.no),dx):=by rw[jb.out,cL,pj.out,List.drop_length];rfl
   have cD:=hide aI;have hK:¬ (k:Int)<(cZ.length:Int):=Oe;have⟨b5,dt⟩:=xE (SQ ob);have h2:=aa9 ob wr;rw[<-dt] at h2;clear aI cL;go_wp2_with fail;refine cm h2 ?_;rintro e fs ⟨rfl,cA⟩;have dS:=hide (stays cA bq.out);have k9:=(hT.later cA);have jZ:=(r'.trans (OV.of (L:=none) cA (OO dk)));have df:=hide dt;have⟨dl,bT,cY,l7,l8,l9,nl⟩:=O3 dS.out;clear dt;have z:=N8 (∀{G}(h:G:=by
   rw[cD.out,<-df.out];exact⟨⟨_,rfl,rfl⟩,bE,bI⟩),G);exact agH),G);exact UZ),G);exact Xd
def abP (F:Fx)(k:Nd)(p:Pl)(σ:St):(Va × Er) × St:=match Sl F (Oa k 0) p σ with
 | ((o,.no),σ1)=>let r:=σ1.M.cut o k.2.tx;if !r.1&&p.strict then ((vU,bad tType),{ σ1 with M:=r.2 }) else ((PX r.1,.no),{ σ1 with M:=r.2 })
 | ((_,e),σ1)=>((vU,e),σ1)
section
variable (ab:Zf es) (aJ:Ms w0 mb af O w σ) {a:Ad} {d:Nd} (hd:OJ O w a d) (E:d.2.kids.length=1) (p:Pl) (aC:Option Addr) (h1:Tt w0 mb af O es σ (Oa d 0) p (F.v (Oa d 0) p σ)) (aH:∀ o σ1,Sl F (Oa d 0) p σ=((o,.no),σ1)->Sz N σ1) (hN:N<1000000000)
include ab aJ a d hd E p aC h1 aH hN
def aoX :
  Oq 264 #[N7 mb,N7 a.p,PD p aC] w (OQ w0 mb af O es w (aiQ F d p σ)):=by
 have z:=N8 (∀{G}(h:G:=by
 have ei:=hide (cells4 bb);have z:=N8 (∀{G}(h:G:=by
 have z:=N8 (∀{G}(h:G:=by
 have z:=N8 (∀{G}(h:G:=by
 have⟨rs,bA⟩:=xH (aiQ F d ⟨au,aG,st⟩ σ);have z:=N8 (∀{G}(h:G:=by
 rcases aa:Sl F (Oa d 0) ⟨au,aG,st⟩ σ with ⟨⟨bH,aw⟩,σ1⟩
 have z:=N8 (∀{G}(h:G:=by
 have bV:=hide aa;have dY:=hide aH;clear bb hr2 aa h1 dq cE d2 fE dv c' aH;go_enter func264,ntmps264;have z:=N8 (∀{G}(h:G:=by
 have z:=N8 (∀{G}(h:G:=by
 have z:=N8 (∀{G}(h:G:=by
 have dm:=(cG.trans mB);have p6:=(cR.kp mB.Ul);have eW:=hc.lt;have⟨cS,bY,cg,dJ,dK,dL,rl⟩:=O3 ed.out
 by_cases ao:aw=.no
 ·have z:=N8 (∀{G}(h:G:=by
  have⟨v2,eY⟩:=xE (((σ1.M.prop bH tx).map Pr.v).getD vU);have Bn:aos (σ1.M.prop bH tx)=vA v2:=by
   rw[eY]
   cases σ1.M.prop bH tx <;> rfl
  have⟨js,pI⟩:=xE ((σ1.M.prop bH tx).isSome);have gZ:Hid (∀ X,Oo wz X->Oq 124 #[N7 mb,NY bH,Oj tx] X fun e w'=>e=OA (.tuple #[vA v2,Om js])/\Oo X w'):=fun X ak=>by
   have⟨_,_,_,_,ac⟩:=hc.later ak;have h:=aAP ac.hh b8.go.sm (OO hN) bH tx;rw[Bn,<-pI] at h;exact h
  have aI:rs=((v2,.no),σ1):=by rw[bA.out];unfold aiQ;rw[bV.out,eY,cB]
  have cD:=hide aI;clear c1 cB eY Bn pI aI;go_simp;go_wp2_with fail;refine VG (H:=fun fA vb ev=>VB w0 mb af O es wz v2 .no σ1 fA vb Qd/\ev=Om js) (G:=?GG) (fun dD=>?ways) ?rest
  case ways=>
   refine S9 8 fun ae=>?_;have z:=N8 (∀{G}(h:G:=by
   refine uh 3 (NY bH) (ae) ?_;have z:=N8 (∀{G}(h:G:=by
   refine uq2 8 12 (fun K D=>?_) fun K D=>?_
   ·go_simp;refine cm (NZ gZ _ ae) ?_;rintro e aD ⟨rfl,je⟩;refine ko D ?_;clear D K;have aL:WZ es aD Qd .no:=rfl;have aJ:=(hc.later (ae)).later je;have ah:=OV.of (L:=none) (B:=mb) je (OO (Ms.lt (hc.later (ae))));refine uz 9 (.tuple #[(vA v2),Om js]) ?_;refine uz 10 (vA v2) ?_;refine uz 11 (Om js) ?_;refine PS 12 fun K D=>?_;go_simp;refine ko D ?_;clear D K;refine PS 13 fun K D=>?_;go_simp;refine ko D ?_;clear D K;refine uz 14 (Om js) ?_;refine RY ?_ _;go_simp
    have cj:=VB.late (v:=v2) aL aJ ((OV.of ae (OO eW)).trans ah)
    generalize aD.alloc (.cells #[NY v2.k,NY v2.n,Oj v2.s] 65)=fA at cj ⊢
    generalize aD.heap.size=vb at cj ⊢
    generalize bu:Value.bool js=ev
    exact dD fA vb ev ⟨cj,bu.symm⟩
   ·have bL:=N8 (∀{G}(h:G:=by
    refine cm (NZ gZ _ (PE.drew)) ?_;rintro e aD ⟨rfl,je⟩;refine ko D ?_;clear D K;have aL:WZ es aD Qd .no:=rfl;have aJ:=(hc.later (PE.drew)).later je;have ah:=OV.of (L:=none) (B:=mb) je (OO (Ms.lt (hc.later (PE.drew))));have fi:aD.heap[wz.heap.size]? = some (OM #[NY 0,NY 0,Pm] 65):=ah.keep (Oi _ _) Ol;have⟨z0,oc,z2,od,og,oh,zl⟩:=O3 fi;refine uz 9 (.tuple #[(vA v2),Om js]) ?_;refine uz 10 (vA v2) ?_;refine uz 11 (Om js) ?_;refine PS 13 fun K D=>?_;go_simp;refine ko D ?_;clear D K
    refine uz 14 (Om js) ?_;refine RY ?_ _;go_simp;have cj:=VB.early (v:=v2) fi Pg (OO eW) aL aJ ((OV.of (PE.drew) (OO eW)).trans ah)
    generalize ((aD.setCell (N9 wz.heap.size 0) (NY v2.k)).setCell (N9 wz.heap.size 1) (NY v2.n)).setCell (N9 wz.heap.size 2) (Oj v2.s)=fA at cj ⊢
    generalize wz.heap.size=vb at cj ⊢
    generalize bu:Value.bool js=ev
    exact dD fA vb ev ⟨cj,bu.symm⟩),G);exact zts),G);exact asB),G);exact TI
  case rest=>
   rintro fA vb ev ⟨a7,rfl⟩;have Cw:=hide (a7.fr.keep ed.out Ol);have FK:=(dm.trans a7.fr);have F9:=a7.ms;have MD:=a7.ms.lt;have⟨hM,gW,gX,iK,iL,iM,hO⟩:=O3 Cw.out;have⟨fB,cy,dO,ip,iq,ir,ia⟩:=O3 (a7.v);clear cS bY cg dJ dK dL rl;go_wp2_with fail;have⟨b3,bz,bh,bI,bE,cK,b1,bU⟩:=rt3 Cw.out cQ.out bG FK F9 (NY v2.k) (NY v2.n) (Oj v2.s);rw[<-bz];refine WB (v:=.tuple #[vA v2,Qd]) ?_;rw[cD.out];exact⟨⟨_,rfl,rfl⟩,bE,bI⟩),G);exact aBh
 ·have⟨et,ex,bu⟩:=aL.WC ao ab;subst bu;have aI:rs=((vU,aw),σ1):=by
   rw[bA.out];unfold aiQ;rw[bV.out];exact axO
  exact aBi),G);exact awm),G);exact VZ),G);exact asC),G);exact aoY),G);exact aoZ),G);exact awn),G);exact ac6),G);exact UZ),G);exact Xd
def abR :
  Oq 298 #[N7 mb,N7 a.p,PD p aC] w (OQ w0 mb af O es w (abP F d p σ)):=by
 have z:=N8 (∀{G}(h:G:=by
 have b7:=hide bb;have ei:=hide (cells4 bb);have z:=N8 (∀{G}(h:G:=by
 have z:=N8 (∀{G}(h:G:=by
 have z:=N8 (∀{G}(h:G:=by
 have⟨rs,bA⟩:=xH (abP F d ⟨au,aG,st⟩ σ);have z:=N8 (∀{G}(h:G:=by
 rcases aa:Sl F (Oa d 0) ⟨au,aG,st⟩ σ with ⟨⟨bH,aw⟩,σ1⟩
 have z:=N8 (∀{G}(h:G:=by
 have bV:=hide aa;have dY:=hide aH;clear bb hr2 aa h1 dq cE d2 fE dv c' aH;go_enter func298,ntmps298;have z:=N8 (∀{G}(h:G:=by
 have z:=N8 (∀{G}(h:G:=by
 have z:=N8 (∀{G}(h:G:=by
 have e':=hide (mB.keep b7.out Ol);have dm:=(cG.trans mB);have p6:=(cR.kp mB.Ul);have eW:=hc.lt;have⟨cS,bY,cg,dJ,dK,dL,rl⟩:=O3 ed.out
 by_cases ao:aw=.no
 ·have z:=N8 (∀{G}(h:G:=by
  have⟨js,pI⟩:=xE ((σ1.M.cut bH tx).1);have⟨b6,ga⟩:=xE ({ σ1 with M:=(σ1.M.cut bH tx).2 }:St);have gZ:Hid (∀ X,Oo wz X->Oq 315 #[N7 mb,NY bH,Oj tx] X fun e w'=>e=OA (Om js)/\Ms w0 mb af O w' b6/\O8 Th mb X w'):=fun X ak=>by
   have⟨_,_,_,_,ac⟩:=hc.later ak;refine(auO ac.hh b8.go.ok b8.go.sm (OO hN) bH tx).mono ?_;rintro e w' ⟨rfl,U,av⟩;rw[ga,pI];exact⟨rfl,⟨_,_,_,_,ac.heap U av⟩,av⟩
  have aI:rs=if !js&&st then ((vU,bad tType),b6) else ((PX js,.no),b6):=by rw[bA.out];unfold abP;rw[bV.out,ga,pI,cB]
  have cD:=hide aI;clear c1 cB ga pI aI;go_simp;go_wp2_with fail;refine S9 8 fun ae=>?_;have z:=N8 (∀{G}(h:G:=by
  refine uh 3 (NY bH) (ae) ?_;have z:=N8 (∀{G}(h:G:=by
  refine PS 8 fun K D=>?_;go_simp;refine cm (NZ gZ _ ae) ?_;rintro e bD ⟨rfl,Ae,Ab⟩;refine ko D ?_;clear D K;have hY:=(OV.of (L:=none) ae (OO eW)).trans (OV.ofT Ab);have gE:=hide (hY.keep ed.out Ol);have fD:=(dm.trans hY);have⟨aU,p1,cp,cJ,_,d3⟩:=cells4 (hY.keep e'.out Ol);have gz:=Ae.lt;have⟨hM,gW,gX,iK,iL,iM,hO⟩:=O3 gE.out;clear cS bY cg dJ dK dL rl;refine uz 9 (Om js) ?_;refine RY ?_ _;go_simp
  cases js with
  | true=>
   go_wp2_with fail;have⟨b5,dt⟩:=xE (PX true);have h2:=VF true bD;exact aBj
  | false=>
   cases st with
   | true=>
    go_wp2_with fail;refine cm (UQ (es:=es) gz tType) ?_;rintro e gV ⟨⟨ev,rfl,aL⟩,g6⟩;have nN:=hide (stays g6 gE.out);have ox:=(Ae.later g6);have oq:=(fD.trans (OV.of (L:=none) g6 (OO gz)));have⟨dl,bT,cY,l7,l8,l9,nl⟩:=O3 nN.out;clear hM gW gX iK iL iM hO aU p1 cp cJ d3;have z:=N8 (∀{G}(h:G:=by
    have aI:rs=((vU,bad tType),b6):=by rw[cD.out];rfl
    rw[aI];exact⟨⟨_,rfl,aL.Qn bh Ol⟩,bE,bI⟩),G);exact asx
   | false=>
    go_wp2_with fail;have⟨b5,dt⟩:=xE (PX false);have h2:=VF false bD;exact aBj),G);exact asB),G);exact TI),G);exact aBh
 ·have⟨et,ex,bu⟩:=aL.WC ao ab;subst bu;have aI:rs=((vU,aw),σ1):=by
   rw[bA.out];unfold abP;rw[bV.out];exact axO
  exact aBi),G);exact awm),G);exact VZ),G);exact asC),G);exact aoY),G);exact aoZ),G);exact awn),G);exact ac6),G);exact UZ),G);exact Xd
end
def aiS (aJ:Ms w0 mb af O w σ)(v:Va):Oq 296 #[N7 mb,vA v] w fun e w'=>e=OA (Oj (Vq σ.M v))/\Oo w w':=by
 obtain⟨_,_,_,_,ac⟩:=aJ;have bG:=ac.lt;have aE:=(Below.refl w.heap.size w).alloc Pg (.cells #[NY v.k,NY v.n,Oj v.s] 65);obtain⟨k,n,t⟩:=v
 by_cases b9:k=0
 ·subst b9;have aw:Vq σ.M ⟨0,n,t⟩=Rf:=rfl;exact ao0
 by_cases de:k=2
 ·subst de;have aw:Vq σ.M ⟨2,n,t⟩=agE:=rfl;exact ao0
 by_cases g8:k=3
 ·subst g8;have aw:Vq σ.M ⟨3,n,t⟩=ako:=rfl;exact ao0
 by_cases k4:k=4
 ·subst k4;have aw:Vq σ.M ⟨4,n,t⟩=akp:=rfl;exact ao0
 by_cases k3:k=5
 ·subst k3;have⟨c,ai⟩:=xE (σ.M.codeOf n);have⟨w2,bo⟩:=xH (w.alloc (.cells #[NY 5,NY n,Oj t] 65));have bn:Oo w w2:=by rw[bo.out];exact aE
  have⟨vb,a7⟩:=xE w.heap.size;have eY:w2.heap[vb]? = some (OM #[NY 5,NY n,Oj t] 65):=by rw[bo.out,a7];exact Oi _ _
  have gd:=hide (cells3 eY);have h5:=lt_of_heap eY;have om:=hide (fun X (ak:Oo w2 X)=>aiK ((ac.later bn).later ak).hh n);rw[<-ai] at om;have dk:=(ac.later bn).lt
  by_cases c0:c=0
  ·have aw:Vq σ.M ⟨5,n,t⟩=Yr:=by unfold Vq;rw[<-ai,c0];rfl
   rw[aw];rw[c0] at om;clear aw ai c0 b9 de g8 k4 eY;go_enter func296,ntmps296;go_wp2_with fail;rw[<-bo.out,<-a7];clear a7;refine S9 5 fun ae=>?_;have z:=N8 (∀{G}(h:G:=by
   have z:=N8 (∀{G}(h:G:=by
   refine uz 6 (Om false) ?_;refine RY ?_ _;have iN:=(bn.trans (ae.mono bn.size));go_simp;go_wp2;go_ret;exact⟨rfl,iN⟩),G);exact aBk),G);exact TI
  ·have aw:Vq σ.M ⟨5,n,t⟩=P7:=by unfold Vq;rw[<-ai];simp[c0]
   rw[aw];clear aw ai b9 de g8 k4 eY;go_enter func296,ntmps296;go_wp2_with fail;rw[<-bo.out,<-a7];clear a7;refine S9 5 fun ae=>?_;have z:=N8 (∀{G}(h:G:=by
   have z:=N8 (∀{G}(h:G:=by
   refine uz 6 (Om true) ?_;refine RY ?_ _;have iN:=(bn.trans (ae.mono bn.size));go_simp;go_wp2;go_ret;exact⟨rfl,iN⟩),G);exact aBk),G);exact TI
 have aw:Vq σ.M ⟨k,n,t⟩=Yr:=by unfold Vq;simp[b9,de,g8,k4,k3]
 exact ao0
def ac7 (F:Fx)(d:Nd)(p:Pl)(σ:St):(Va × Er) × St:=
 if (Oa d 0).2.kd=23/\σ.M.find p.scope (Oa d 0).2.tx = -1 then ((VD Rf,.no),σ)
 else match F.v (Oa d 0) p σ with
  | ((v,.no),σ1)=>((VD (Vq σ1.M v),.no),σ1)
  | ((_,e),σ1)=>((vU,e),σ1)
def agI (r:(Va × Er) × St):(Va × Er) × St:=match r with
  | ((v,.no),σ1)=>((VD (Vq σ1.M v),.no),σ1)
  | ((_,e),σ1)=>((vU,e),σ1)
def asD (r:(Va × Er) × St):(Va × Er) × St:=match r with
  | ((_,.no),σ1)=>((PX true,.no),σ1)
  | ((_,e),σ1)=>((vU,e),σ1)
def aiT (_:Zf es)(aJ:Ms w0 mb af O w σ){a:Ad}{d:Nd}(hd:OJ O w a d)(E:d.2.kids.length=1)(p:Pl)(aC:Option Addr)(h1:Tt w0 mb af O es σ (Oa d 0) p (F.v (Oa d 0) p σ))(bm:(Oa d 0).2.kd=23)(aF:σ.M.find p.scope (Oa d 0).2.tx = -1)(aH:Sz N σ)(hN:N<1000000000) :
  Oq 261 #[N7 mb,N7 a.p,PD p aC] w (OQ w0 mb af O es w (((VD Rf,.no),σ))):=by
 have z:=N8 (∀{G}(h:G:=by
 have ei:=hide (cells4 bb);have z:=N8 (∀{G}(h:G:=by
 have z:=N8 (∀{G}(h:G:=by
 have z:=N8 (∀{G}(h:G:=by
 have gg:σ.M.find au tx = -1:=by rw[cB];exact aF
 rw[gg] at hr;have⟨rs,bA⟩:=xH (((VD Rf,Er.no),σ));rw[<-bA.out];have z:=N8 (∀{G}(h:G:=by
 refine uz 16 (Om true) ?_;refine uz 17 (Om true) ?_;refine RY ?_ _;go_simp;have j0:=(cU.later cl);have jJ:=hide (stays cl bq.out);have m0:=(cG.trans (OV.of (L:=none) cl (OO dk)));have oU:=j0.lt;go_wp2_with fail;have⟨b5,df⟩:=xH (VD Rf);have h2:=Zu Rf ef;rw[<-df.out] at h2;refine cm h2 ?_;rintro e fs ⟨rfl,cA⟩;have dS:=hide (stays cA jJ.out);have k9:=(j0.later cA);have jZ:=(m0.trans (OV.of (L:=none) cA (OO oU)));have⟨dl,bT,cY,l7,l8,l9,nl⟩:=O3 dS.out
 have z:=N8 (∀{G}(h:G:=by
 have aI:rs=((b5,.no),σ):=by rw[bA.out,df.out]
 rw[aI];exact⟨⟨_,rfl,rfl⟩,bE,bI⟩),G);exact agH),G);exact aBl),G);exact aBm),G);exact amd),G);exact UZ),G);exact Xd
section
variable (ab:Zf es) (aJ:Ms w0 mb af O w σ) {a:Ad} {d:Nd} (hd:OJ O w a d) (E:d.2.kids.length=1) (p:Pl) (aC:Option Addr) (h1:Tt w0 mb af O es σ (Oa d 0) p (F.v (Oa d 0) p σ))
include ab aJ a d hd E p aC h1
def ame (bm:(Oa d 0).2.kd=23)(aF:¬ σ.M.find p.scope (Oa d 0).2.tx = -1)(aH:Sz N σ)(hN:N<1000000000) :
  Oq 261 #[N7 mb,N7 a.p,PD p aC] w (OQ w0 mb af O es w (agI (F.v (Oa d 0) p σ))):=by
 have z:=N8 (∀{G}(h:G:=by
 have b7:=hide bb;have ei:=hide (cells4 bb);have z:=N8 (∀{G}(h:G:=by
 have z:=N8 (∀{G}(h:G:=by
 have z:=N8 (∀{G}(h:G:=by
 have gg:¬ σ.M.find au tx = -1:=by rw[cB];exact aF
 have⟨kS,mC⟩:=xE (σ.M.find au tx);rw[<-mC] at hr gg;clear mC;have z:=N8 (∀{G}(h:G:=by
 have z:=N8 (∀{G}(h:G:=by
 refine uz 16 (Om false) ?_;refine uz 17 (Om false) ?_;refine RY ?_ _;go_simp;exact aBn),G);exact aBl),G);exact aBo),G);exact aBm),G);exact amd),G);exact UZ),G);exact Xd
def aeG (bm:¬ (Oa d 0).2.kd=23) :
  Oq 261 #[N7 mb,N7 a.p,PD p aC] w (OQ w0 mb af O es w (agI (F.v (Oa d 0) p σ))):=by
 have z:=N8 (∀{G}(h:G:=by
 have b7:=hide bb;have z:=N8 (∀{G}(h:G:=by
 have z:=N8 (∀{G}(h:G:=by
 have⟨kd,rx⟩:=xE ((Oa d 0).2.kd);rw[<-rx] at mD kR bm;clear rx;have⟨tx,cB⟩:=xE ((Oa d 0).2.tx);rw[<-cB] at fS;have z:=N8 (∀{G}(h:G:=by
 rw[<-bj.out] at fE ds ns ⊢;rw[<-c'] at dv sZ eK mD kR fS;have r4:=hide kR;clear bb hr2 dq cE d2 c' cB kR fS;go_enter func261,ntmps261;go_wp2_with fail;rw[<-bo.out,<-b4,<-bS];clear bS b4;refine S9 17 fun ae=>?_;refine up 0 kp 0 ae ?_;refine up 1 kp 0 ae ?_;refine up 2 kp 0 ae ?_;refine uk 3 r4.out ae ?_;refine uh 4 (Om false) (ae) ?_;refine uh 5 (Om false) (ae) ?_;have z:=N8 (∀{G}(h:G:=by
 refine uh 11 undef (ae) ?_ (hy:=Or.inr ⟨by kernel_rfl,rfl⟩);refine uh 12 undef (ae) ?_ (hy:=Or.inr ⟨by kernel_rfl,rfl⟩);refine uh 13 undef (ae) ?_ (hy:=Or.inr ⟨by kernel_rfl,rfl⟩);refine uh 14 undef (ae) ?_ (hy:=Or.inr ⟨by kernel_rfl,rfl⟩);refine uh 15 undef (ae) ?_ (hy:=Or.inr ⟨by kernel_rfl,rfl⟩);refine uh 16 undef (ae) ?_ (hy:=Or.inr ⟨by kernel_rfl,rfl⟩);refine PS 17 fun K D=>?_;go_simp;refine ko D ?_;clear D K;refine RY ?_ _;have⟨ef,h7⟩:=xE w2.drew;have cl:Oo w2 ef:=by rw[h7];exact ae
 go_simp;rw[<-h7];clear h7;exact aBn),G);exact awo),G);exact aBo),G);exact amd),G);exact UZ),G);exact Xd
end
def agJ (aJ:Ms w0 mb af O w σ){a:Ad}{d:Nd}(hd:OJ O w a d)(E:d.2.kids.length=1)(p:Pl)(aC:Option Addr)(bm:(Oa d 0).2.kd=23)(aH:Sz N σ)(hN:N<1000000000) :
  Oq 262 #[N7 mb,N7 a.p,PD p aC] w (OQ w0 mb af O es w (((PX (σ.M.drop (σ.M.find p.scope (Oa d 0).2.tx) (Oa d 0).2.tx).1,.no),{ σ with M:=(σ.M.drop (σ.M.find p.scope (Oa d 0).2.tx) (Oa d 0).2.tx).2 }))):=by
 have z:=N8 (∀{G}(h:G:=by
 have ei:=hide (cells4 bb);have z:=N8 (∀{G}(h:G:=by
 have z:=N8 (∀{G}(h:G:=by
 rw[bm] at mD kR;have⟨tx,cB⟩:=xE ((Oa d 0).2.tx);rw[<-cB] at fS;have⟨kS,mC⟩:=xE (σ.M.find au tx);have hr:Hid (∀ X,Oo w2 X->Oq 195 #[N7 mb,NY au,Oj tx] X fun e w'=>e=OA (NY kS)/\Oo X w'):=fun X ak=>by
  have⟨_,_,_,_,ac⟩:=cU.later ak;rw[mC];exact aex ac.hh aH.go.ok aH.go.sm (OO hN) au tx
 have⟨js,pI⟩:=xE ((σ.M.drop kS tx).1);have⟨σ1,h8⟩:=xE ({ σ with M:=(σ.M.drop kS tx).2 }:St);have me:Hid (∀ X,Oo w2 X->Oq 297 #[N7 mb,NY kS,Oj tx] X fun e w'=>e=OA (Om js)/\Ms w0 mb af O w' σ1/\O8 Th mb X w'):=fun X ak=>by
  have⟨_,_,_,_,ac⟩:=cU.later ak;refine(av2 ac.hh aH.go.ok aH.go.sm (OO hN) kS tx).mono ?_;rintro e w' ⟨rfl,U,av⟩;rw[h8,pI];exact⟨rfl,⟨_,_,_,_,ac.heap U av⟩,av⟩
 have⟨rs,bA⟩:=xH (((PX js,Er.no),σ1));have kY:((PX (σ.M.drop (σ.M.find (Pl.mk au aG st).scope (Oa d 0).2.tx) (Oa d 0).2.tx).1,Er.no),({ σ with M:=(σ.M.drop (σ.M.find (Pl.mk au aG st).scope (Oa d 0).2.tx) (Oa d 0).2.tx).2 }:St))=rs:=by rw[bA.out,pI,h8,mC,cB]
 rw[kY];clear kY pI h8 mC;rw[<-bj.out] at fE ds ns ⊢;rw[<-c'] at dv sZ eK mD kR fS;have mW:=hide fS;have⟨aU,p1,cp,cJ,_,d3⟩:=cells4 bb;clear bb hr2 dq cE d2 c' cB kR fS bm;go_enter func262,ntmps262;go_wp2_with fail;rw[<-bo.out,<-b4,<-bS];clear bS b4;clear aU p1 cp cJ d3;refine S9 17 fun ae=>?_;have z:=N8 (∀{G}(h:G:=by
 refine up 3 mb 0 ae ?_;refine up 4 mb 0 ae ?_;refine up 5 mb 0 ae ?_;refine up 6 bc 0 ae ?_;refine uk 7 (ei.out.1) ae ?_;refine up 8 kp 0 ae ?_;refine up 9 kp 0 ae ?_;refine up 10 kp 1 ae ?_;refine uk 11 mW.out ae ?_;refine up 13 kp 0 ae ?_;refine up 14 kp 0 ae ?_;refine up 15 kp 1 ae ?_;refine uk 16 mW.out ae ?_;refine PS 12 fun K D=>?_;go_simp;refine cm (NZ hr _ ae) ?_;rintro e ef ⟨rfl,bn⟩;have cl:Oo w2 ef:=ae.trans bn;refine D.out _ _ (fun _=>cl) ?_;clear D K;refine PS 17 fun K D=>?_;go_simp
 refine cm (NZ me _ cl) ?_;rintro e aD ⟨rfl,g4,gw⟩;refine ko D ?_;clear D K;have jO:=(OV.of (L:=none) cl (OO dk)).trans (OV.ofT gw);have dz:=hide (jO.keep bq.out Ol);have fj:=(cG.trans jO);have hx:=g4.lt;refine PS 18 fun K D=>?_;go_simp;refine cm (VF js aD) ?_;rintro e fs ⟨rfl,cA⟩;refine ko D ?_;clear D K;have⟨b5,df⟩:=xH (PX js);rw[<-df.out];have dS:=hide (stays cA dz.out);have k9:=(g4.later cA);have jZ:=(fj.trans (OV.of (L:=none) cA (OO hx)))
 have⟨dl,bT,cY,l7,l8,l9,nl⟩:=O3 dS.out;refine PS 19 fun K D=>?_;go_simp;refine ko D ?_;clear D K;refine uz 20 Qd ?_;refine RY ?_ _;go_simp;have z:=N8 (∀{G}(h:G:=by
 have aI:rs=((b5,.no),σ1):=by rw[bA.out,df.out]
 rw[aI];exact⟨⟨_,rfl,rfl⟩,bE,bI⟩),G);exact agH),G);exact TI),G);exact amd),G);exact UZ),G);exact Xd
section
variable (ab:Zf es) (aJ:Ms w0 mb af O w σ) {a:Ad} {d:Nd} (hd:OJ O w a d) (E:d.2.kids.length=1) (p:Pl) (aC:Option Addr)
include ab aJ a d hd E p aC
def agK (bm:(Oa d 0).2.kd=36)(iS:(Oa d 0).2.kids.length=1)(U:Tt w0 mb af O es σ (Oa (Oa d 0) 0) p (F.v (Oa (Oa d 0) 0) p σ))(aH:∀ o σ1,Sl F (Oa (Oa d 0) 0) p σ=((o,.no),σ1)->Sz N σ1)(hN:N<1000000000) :
  Oq 262 #[N7 mb,N7 a.p,PD p aC] w (OQ w0 mb af O es w (abP F (Oa d 0) p σ)):=by
 have z:=N8 (∀{G}(h:G:=by
 have z:=N8 (∀{G}(h:G:=by
 have z:=N8 (∀{G}(h:G:=by
 rw[bm] at mD kR;have⟨tx,cB⟩:=xE ((Oa d 0).2.tx);rw[<-cB] at fS;have bF:=(abR ab cU na iS ⟨au,aG,st⟩ aC U aH hN);have⟨rs,d'⟩:=xE (abP F (Oa d 0) ⟨au,aG,st⟩ σ);rw[<-d',<-c'] at bF;rw[<-d'];clear d';rw[<-bj.out] at fE ds ns ⊢;rw[<-c'] at dv sZ eK mD kR fS;have⟨aU,p1,cp,cJ,_,d3⟩:=cells4 bb;clear bb hr2 dq cE d2 c' cB kR fS bm aH iS;have z:=N8 (∀{G}(h:G:=by
 have⟨v9,lh⟩:=xH rs.1.1;rw[<-lh.out];have⟨cS,bY,cg,dJ,dK,dL,rl⟩:=O3 dz.out;clear aU p1 cp cJ d3;go_wp2_with fail;have⟨b3,bz,bh,bI,bE,cK,b1,bU⟩:=rt3 dz.out cQ.out bG fj g4 (NY v9.k) (NY v9.n) (Oj v9.s);exact awp),G);exact aBp),G);exact amd),G);exact UZ),G);exact Xd
def aeH (h1:Tt w0 mb af O es σ (Oa d 0) p (F.v (Oa d 0) p σ))(bm:¬ (Oa d 0).2.kd=23)(ry:¬ (Oa d 0).2.kd=36) :
  Oq 262 #[N7 mb,N7 a.p,PD p aC] w (OQ w0 mb af O es w (asD (F.v (Oa d 0) p σ))):=by
 have z:=N8 (∀{G}(h:G:=by
 have z:=N8 (∀{G}(h:G:=by
 have z:=N8 (∀{G}(h:G:=by
 have⟨kd,rx⟩:=xE ((Oa d 0).2.kd);rw[<-rx] at mD kR bm ry;clear rx;have⟨tx,cB⟩:=xE ((Oa d 0).2.tx);rw[<-cB] at fS
 rcases aa:F.v (Oa d 0) ⟨au,aG,st⟩ σ with ⟨⟨v1,aw⟩,σ1⟩
 have bF:=(h1 w2 b9 aC cU na);rw[aa] at bF;rw[<-c'] at bF;have⟨rs,bA⟩:=xH (asD ((v1,aw),σ1));rw[<-bA.out];clear aa;rw[<-bj.out] at fE ds ns ⊢;rw[<-c'] at dv sZ eK mD kR fS;have⟨aU,p1,cp,cJ,_,d3⟩:=cells4 bb;clear bb hr2 dq cE d2 c' cB kR fS;have z:=N8 (∀{G}(h:G:=by
 have hx:=g4.lt;clear aU p1 cp cJ d3
 by_cases ao:aw=.no
 ·subst ao;have bu:ev=Qd:=aL;subst bu;go_wp2_with fail;have⟨wd,e7⟩:=xE (aD.alloc (.cells #[NY v1.k,NY v1.n,Oj v1.s] 65));have z:=N8 (∀{G}(h:G:=by
  try rw[<-e7]
  clear e7;have⟨b5,df⟩:=xH (PX true);have h2:=VF true wd;rw[<-df.out] at h2;refine cm h2 ?_;rintro e fs ⟨rfl,cA⟩;have dS:=hide (stays cA hU.out);have k9:=(mg.later cA);have jZ:=(vd.trans (OV.of (L:=none) cA (OO uv)));have⟨dl,bT,cY,l7,l8,l9,nl⟩:=O3 dS.out;have z:=N8 (∀{G}(h:G:=by
  have aI:rs=((b5,.no),σ1):=by rw[bA.out,df.out];rfl
  rw[aI];exact⟨⟨_,rfl,rfl⟩,bE,bI⟩),G);exact agH),G);exact awq
 ·have⟨et,ex,bu⟩:=aL.WC ao ab;subst bu;have aI:rs=((vU,aw),σ1):=by
   rw[bA.out];unfold asD;exact axO
  have z:=N8 (∀{G}(h:G:=by
  have oK:=(aL.Qn bh Ol).later d0;exact aDG),G);exact aBr),G);exact aBp),G);exact amd),G);exact UZ),G);exact Xd
def ao1 (h1:Tt w0 mb af O es σ (Oa d 0) p (F.v (Oa d 0) p σ))(iS:(Oa d 0).2.kd=36->(Oa d 0).2.kids.length=1)(U:(Oa d 0).2.kd=36->Tt w0 mb af O es σ (Oa (Oa d 0) 0) p (F.v (Oa (Oa d 0) 0) p σ))(aH:Sz N σ)(cn:(Oa d 0).2.kd=36->∀ o σ1,Sl F (Oa (Oa d 0) 0) p σ=((o,.no),σ1)->Sz N σ1)(hN:N<1000000000) :
  Oq 262 #[N7 mb,N7 a.p,PD p aC] w (OQ w0 mb af O es w (Zt F d p σ)):=by
 by_cases c1:(Oa d 0).2.kd=23
 ·have aw:Zt F d p σ=((PX (σ.M.drop (σ.M.find p.scope (Oa d 0).2.tx) (Oa d 0).2.tx).1,.no),{ σ with M:=(σ.M.drop (σ.M.find p.scope (Oa d 0).2.tx) (Oa d 0).2.tx).2 }):=by
   unfold Zt
   dsimp only
   rw[if_pos c1]
  rw[aw];exact agJ aJ hd E p aC c1 aH hN
 ·by_cases c2:(Oa d 0).2.kd=36
  ·have aw:Zt F d p σ=abP F (Oa d 0) p σ:=by
    unfold Zt
    dsimp only
    rw[if_neg c1,if_pos c2];rfl
   rw[aw];exact agK ab aJ hd E p aC c2 (iS c2) (U c2) (cn c2) hN
  ·have aw:Zt F d p σ=asD (F.v (Oa d 0) p σ):=by
    unfold Zt
    dsimp only
    rw[if_neg c1,if_neg c2];rfl
   rw[aw];exact aeH ab aJ hd E p aC h1 c1 c2
def ao2 (h1:Tt w0 mb af O es σ (Oa d 0) p (F.v (Oa d 0) p σ))(aH:Sz N σ)(hN:N<1000000000) :
  Oq 261 #[N7 mb,N7 a.p,PD p aC] w (OQ w0 mb af O es w (ac7 F d p σ)):=by
 by_cases c1:(Oa d 0).2.kd=23
 ·by_cases c2:σ.M.find p.scope (Oa d 0).2.tx = -1
  ·have aw:ac7 F d p σ=((VD Rf,.no),σ):=by unfold ac7;rw[if_pos ⟨c1,c2⟩]
   rw[aw];exact aiT ab aJ hd E p aC h1 c1 c2 aH hN
  ·have aw:ac7 F d p σ=agI (F.v (Oa d 0) p σ):=by unfold ac7 agI;rw[if_neg (fun h=>c2 h.2)]
   rw[aw];exact ame ab aJ hd E p aC h1 c1 c2 aH hN
 ·have aw:ac7 F d p σ=agI (F.v (Oa d 0) p σ):=by unfold ac7 agI;rw[if_neg (fun h=>c1 h.1)]
  rw[aw];exact aeG ab aJ hd E p aC h1 c1
end
section
variable (ab:Zf es) (aJ:Ms w0 mb af O w σ) {a:Ad} {d:Nd} (hd:OJ O w a d) (E:d.2.kids.length=2)
include ab aJ a d hd E
def amb (bm:d.2.kd=25)(p:Pl)(aC:Option Addr)(h1:Tt w0 mb af O es σ (Oa d 0) p (F.v (Oa d 0) p σ))(U:∀ v1 σ1,F.v (Oa d 0) p σ=((v1,.no),σ1)->Tt w0 mb af O es σ1 (Oa d 1) p (F.v (Oa d 1) p σ1)) :
  Oq 258 #[N7 mb,N7 a.p,PD p aC] w (OQ w0 mb af O es w (Zw F d p σ)):=by
 have z:=N8 (∀{G}(h:G:=by
 have b7:=hide bb;have ei:=hide (cells4 bb);have z:=N8 (∀{G}(h:G:=by
 have z:=N8 (∀{G}(h:G:=by
 have z:=N8 (∀{G}(h:G:=by
 have⟨rs,d'⟩:=xE (Zw F d ⟨au,aG,st⟩ σ);rw[<-d',<-bj.out];have z:=N8 (∀{G}(h:G:=by
 have z:=N8 (∀{G}(h:G:=by
 refine VG (H:=fun wz vb ev=>VB w0 mb af O es w2 v1 aw σ1 wz vb ev) (G:=?GG) (fun dD=>?ways) ?rest
 case ways=>
  exact aeF
 case rest=>
  rintro wz vb ev a7;have z:=N8 (∀{G}(h:G:=by
  have z:=N8 (∀{G}(h:G:=by
  have gI:=cR.kp a7.fr.Ul
  by_cases ao:aw=.no
  ·have z:=N8 (∀{G}(h:G:=by
   cases e1:v1.tru with
   | true=>
    have z:=N8 (∀{G}(h:G:=by
    refine uh 9 (Om true) (ae) ?_;exact aBb),G);exact asA
   | false=>
    have z:=N8 (∀{G}(h:G:=by
    refine uh 9 (Om true) (ae) ?_;exact aBd),G);exact asA),G);exact aBe
  ·exact aBf),G);exact aoW),G);exact asy),G);exact aBg),G);exact ama),G);exact aiR),G);exact ac6),G);exact UZ),G);exact Xd
def amc (bm:d.2.kd=26)(p:Pl)(aC:Option Addr)(h1:Tt w0 mb af O es σ (Oa d 0) p (F.v (Oa d 0) p σ))(U:∀ v1 σ1,F.v (Oa d 0) p σ=((v1,.no),σ1)->Tt w0 mb af O es σ1 (Oa d 1) p (F.v (Oa d 1) p σ1)) :
  Oq 258 #[N7 mb,N7 a.p,PD p aC] w (OQ w0 mb af O es w (Zw F d p σ)):=by
 have z:=N8 (∀{G}(h:G:=by
 have b7:=hide bb;have ei:=hide (cells4 bb);have z:=N8 (∀{G}(h:G:=by
 have z:=N8 (∀{G}(h:G:=by
 have z:=N8 (∀{G}(h:G:=by
 have⟨rs,d'⟩:=xE (Zw F d ⟨au,aG,st⟩ σ);rw[<-d',<-bj.out];have z:=N8 (∀{G}(h:G:=by
 have z:=N8 (∀{G}(h:G:=by
 refine VG (H:=fun wz vb ev=>VB w0 mb af O es w2 v1 aw σ1 wz vb ev) (G:=?GG) (fun dD=>?ways) ?rest
 case ways=>
  exact aeF
 case rest=>
  rintro wz vb ev a7;have z:=N8 (∀{G}(h:G:=by
  have z:=N8 (∀{G}(h:G:=by
  have gI:=cR.kp a7.fr.Ul
  by_cases ao:aw=.no
  ·have z:=N8 (∀{G}(h:G:=by
   cases e1:v1.tru with
   | true=>
    have z:=N8 (∀{G}(h:G:=by
    refine uh 9 (Om false) (ae) ?_;exact aBd),G);exact asA
   | false=>
    have z:=N8 (∀{G}(h:G:=by
    refine uh 9 (Om false) (ae) ?_;exact aBb),G);exact asA),G);exact aBe
  ·exact aBf),G);exact aoW),G);exact asy),G);exact aBg),G);exact ama),G);exact aiR),G);exact ac6),G);exact UZ),G);exact Xd
end
abbrev ZR (aT aB:Ot)(c n:Int)(x:Ou):Ot:=.agg #[aT,NY c,Oj x,NY n,aB]
def cells5 {b:Nat}{x y bB u v:Ot}{t:TypeId}(h:w.heap[b]? = some (OM #[x,y,bB,u,v] t)):w.cell? (N9 b 0)=some x/\w.cell? (N9 b 1)=some y/\w.cell? (N9 b 2)=some bB/\w.cell? (N9 b 3)=some u/\w.cell? (N9 b 4)=some v/\(∀ j,w.frozen? (N9 b j)=false)/\b<w.heap.size:=by
 refine⟨?_,?_,?_,?_,?_,fun j=>?_,lt_of_heap h⟩
 ·rw[cell_of h];rfl
 ·rw[cell_of h];rfl
 ·rw[cell_of h];rfl
 ·rw[cell_of h];rfl
 ·rw[cell_of h];rfl
 ·simp[World.frozen?,h]
def aj2 {B C:Nat}(l:List Ou)(u v:Ot)(w:Og)(h1:Q5 B w u l)(U:Q5 C w v l)(hl:l.length<=1000000000) :
  Oq 16 #[u,v] w fun e w'=>e=OA (Om true)/\Oo w w':=by
 obtain⟨cV,uc,rfl⟩:=OG h1;obtain⟨va,du,rfl⟩:=OG U;go_enter func16,ntmps16;go_wp2_with fail
 go_loopw [5] (fun j wr=>∃ k:Nat,k<=l.length/\j=NY k/\Oo w wr) (fun j _=>l.length - (intOf j).toNat)
 case atStart=>exact⟨0,Nat.zero_le _,rfl,QI⟩
 case round=>
  obtain⟨k,E,rfl,A⟩:=hrel
  by_cases aM:k<l.length
  ·have⟨bK,p1,am,jg,_,fN⟩:=Uy (Q5.later h1 A) k aM;simp only[Value.slice.injEq] at am;obtain⟨rfl,_,rfl⟩:=am;have⟨cX,cp,am,lX,_,eI⟩:=Uy (Q5.later U A) k aM;have z:=N8 (∀{G}(h:G:=by
   generalize l[k]=x at fN eI
   go_wp2_with fail;refine wp_region_held (S:=fun X=>X=wr.drew) Pe ?_;change wpAnyH _ _ _ _ _ _ _ _ (World.drew _);refine wh 0 (.slice (some (N9 bK 0)) l.length uc) rfl ?_;refine wh 1 (NY k) rfl ?_;refine wh 2 (Oy bK k) rfl ?_;refine wh 3 (Oj x) rfl ?_ (hy:=Or.inl ⟨by kernel_rfl,fun X ak=>by cases ak;go_simp⟩)
   refine wh 4 (.slice (some (N9 cX 0)) l.length du) rfl ?_;refine wh 5 (NY k) rfl ?_;refine wh 6 (Oy cX k) rfl ?_;refine wh 7 (Oj x) rfl ?_ (hy:=Or.inl ⟨by kernel_rfl,fun X ak=>by cases ak;go_simp⟩)
   refine wh 8 (Om false) rfl ?_;exact aDo),G);exact alS
  ·have cL:k=l.length:=Oe;subst cL;go_wp2;go_ret;exact⟨rfl,A⟩
def adU {B:Nat}{w:Og}{v:Ot}{l:List (Int × Int)}(h:w.ownsRow B 54 2 v l.length (l.flatMap sn2))(k:Nat)(E:k<l.length) :
  ∃ g cap,v=.slice (some (N9 g 0)) l.length cap/\g<w.heap.size/\w.cell? (N9 g (2 * k))=some (NY l[k].1)/\w.cell? (N9 g (2 * k+1))=some (NY l[k].2):=by
 obtain⟨g,cap,rfl,_,_⟩:=h.form Oe;have ac:∀ (l:List (Int × Int)) (k:Nat) (E:k<l.length),(l.flatMap sn2)[2 * k]? = some (NY l[k].1)/\(l.flatMap sn2)[2 * k+1]? = some (NY l[k].2):=by
  intro l
  induction l with
  | nil=>intro k E;simp at E
  | cons a l bv=>
   intro k E
   cases k with
   | zero=>exact⟨rfl,rfl⟩
   | succ k=>
    have:=bv k (by simpa using E);rw[List.flatMap_cons,show 2 * (k+1)=2 * k+2 by omega];exact this
 refine⟨g,cap,rfl,(h.lt g rfl).2,?_,?_⟩
 ·rw[h.cellAt (2 * k) Oe];exact(ac l k E).1
 ·rw[h.cellAt (2 * k+1) Oe];exact(ac l k E).2
def aGP (a b:Int)(w:Og):(Op.equalIn 10000 54 (.agg #[NY a,NY b]) (.agg #[NY a,NY b])).run prog w=.ok true w:=by
 have ka:=underlying3;have a3:=Tryz.isAgg3;have z3:=Tryz.sizeOf3;rw[show (10000:Nat)=9999+1 from rfl,Op.equalIn];simp only[Sem.run_bind,run_underlying underlying54,Result.andThen_ok];simp only[Std.Legacy.Range.forIn_eq_forIn_range',Std.Legacy.Range.size,Nat.sub_zero,Nat.add_sub_cancel,Nat.div_one,List.range'_succ,List.range'_zero,List.forIn_cons,List.forIn_nil];go_simp
def axJ {B:Nat}(l:List Ou)(s:List (Int × Int))(u v fV v':Ot)(c n:Int)(x:Ou)(w:Og)(h1:Q5 B w u l)(U:Q5 B w fV l)(av:w.ownsRow B 54 2 v s.length (s.flatMap sn2))(aN:w.ownsRow B 54 2 v' s.length (s.flatMap sn2))(hl:l.length<=1000000000)(ab:s.length<=1000000000) :
  Oq 13 #[ZR u v c n x,ZR fV v' c n x] w fun e w'=>e=OA (Om true)/\Oo w w':=by
 have⟨w2,bo⟩:=xH ((w.alloc (.cells #[u,NY c,Oj x,NY n,v] 29)).alloc (.cells #[fV,NY c,Oj x,NY n,v'] 29));have z:=N8 (∀{G}(h:G:=by
 have bb:w2.heap[bc]? = some (OM #[u,NY c,Oj x,NY n,v] 29):=by rw[bo.out,bS];exact alloc_old (Oi _ _)
 have hr2:w2.heap[aV]? = some (OM #[fV,NY c,Oj x,NY n,v'] 29):=by
  rw[bo.out,b4,show w.heap.size+1=(w.alloc (.cells #[u,NY c,Oj x,NY n,v] 29)).heap.size by simp];exact Oi _ _
 have ha:=(aj2 l u fV w2 (OI h1 aE) (OI U aE) hl);have b7:=hide bb;have bq:=hide hr2;have bF:=(OI av aE);have CJ:=(OI aN aE);obtain⟨va,du,rfl⟩:=OG av;obtain⟨NO,KF,rfl⟩:=OG aN;have⟨aU,p1,cp,cJ,kC,_,pl⟩:=cells5 bb;have⟨cS,bY,cg,eo,jz,_,rl⟩:=cells5 hr2;clear bb hr2;go_enter func13,ntmps13;go_wp2_with fail;rw[<-bo.out,<-b4,<-bS];clear b4 bS;refine cm ha ?_;rintro e aq ⟨rfl,bn⟩;have fk:=hide (stays bn b7.out);have dg:=hide (stays bn bq.out)
 have lP:=(OI bF bn);have qh:=(OI CJ bn);have dG:=(aE.trans (bn.mono aE.size));clear aU p1 cp cJ kC pl cS bY cg eo jz rl bn ha b7 bq bF CJ aE;have⟨aU,p1,cp,cJ,kC,_,pl⟩:=cells5 fk.out;have⟨cS,bY,cg,eo,jz,_,rl⟩:=cells5 dg.out;go_wp2_with fail
 go_loopw [5] (fun j wr=>∃ k:Nat,k<=s.length/\j=NY k/\Oo aq wr) (fun j _=>s.length - (intOf j).toNat)
 case atStart=>exact⟨0,Nat.zero_le _,rfl,QI⟩
 case round=>
  obtain⟨k,E,rfl,A⟩:=hrel;clear aU p1 cp cJ kC pl cS bY cg eo jz rl;have⟨aU,p1,cp,cJ,kC,_,pl⟩:=cells5 (stays A fk.out);have⟨cS,bY,cg,eo,jz,_,rl⟩:=cells5 (stays A dg.out)
  by_cases aM:k<s.length
  ·have⟨bK,p1,am,jg,fN,um⟩:=adU (OI lP A) k aM;simp only[Value.slice.injEq] at am;obtain⟨rfl,_,rfl⟩:=am;have⟨cX,cp,am,lX,eI,cR⟩:=adU (OI qh A) k aM;simp only[Value.slice.injEq] at am;obtain⟨rfl,_,rfl⟩:=am;have hK:(k:Int)<(s.length:Int):=Oe
   generalize s[k]=y at fN eI um cR
   obtain⟨gW,gX⟩:=y;go_wp2_with fail;refine wp_region_held (S:=fun X=>X=wr.drew) Pe ?_;change wpAnyH _ _ _ _ _ _ _ _ (World.drew _);refine wh 0 (Oy bc 4) rfl ?_;refine wh 1 (.slice (some (N9 bK 0)) s.length du) rfl ?_ (hy:=Or.inl ⟨by kernel_rfl,fun X ak=>by cases ak;go_simp⟩)
   refine wh 2 (NY k) rfl ?_;refine wh 3 (Oy bK (2 * k)) rfl ?_;refine wh 4 (.agg #[NY gW,NY gX]) rfl ?_ (hy:=Or.inl ⟨by kernel_rfl,fun X ak=>by cases ak;go_simp⟩)
   refine wh 5 (Oy aV 4) rfl ?_;refine wh 6 (.slice (some (N9 cX 0)) s.length KF) rfl ?_ (hy:=Or.inl ⟨by kernel_rfl,fun X ak=>by cases ak;go_simp⟩)
   refine wh 7 (NY k) rfl ?_;refine wh 8 (Oy cX (2 * k)) rfl ?_;refine wh 9 (.agg #[NY gW,NY gX]) rfl ?_ (hy:=Or.inl ⟨by kernel_rfl,fun X ak=>by cases ak;go_simp⟩)
   have qy:=aGP gW gX;refine wh 10 (Om false) rfl ?_ (hy:=Or.inl ⟨by kernel_rfl,fun X ak=>by have hu:=qy X;go_simp⟩)
   clear qy;exact aDo
  ·have cL:k=s.length:=Oe;subst cL;go_wp2;go_ret;exact⟨rfl,dG.trans (A.mono dG.size)⟩),G);exact zse
end
end Hp
abbrev tLa:Ou:=⟨#[97]⟩
namespace Hp
abbrev Ze:Ou:=⟨#[118,97,114,32,97,32,61,32,50,59,32,112,114,105,110,116,40,97,32,42,32,51,41,59]⟩
def lR1:List Tk:=[⟨2,anQ,0,0⟩,⟨1,tLa,0,4⟩,⟨5,tEq,0,6⟩,⟨3,Oh,2,8⟩,⟨5,PY,0,9⟩,⟨1,UM,0,11⟩,⟨5,RP,0,16⟩,⟨1,tLa,0,17⟩,⟨5,avG,0,19⟩,⟨3,Oh,3,21⟩,⟨5,TV,0,22⟩,⟨5,PY,0,23⟩,⟨6,Oh,0,24⟩]
def acV:Tr:=.mk 1 Oh 0 [.mk 2 tLa 0 [.mk 17 Oh 2 []],.mk 15 Oh 0 [.mk 35 Oh 0 [.mk 23 UM 0 [],.mk 31 Oh 0 [.mk 23 tLa 0 [],.mk 17 Oh 3 []]]]]
def aul:Q7 O4 O0 Ze (OC PU Ze 0) []=.ok lR1:=by
 have aI:OC PU Ze 0=0:=by decide +kernel
 rw[aI,P5 O4 O0 Ze 0 [] 2 0 anQ 3 Ol Pe Ol];have aw:OC PU Ze 3=4:=by decide +kernel
 rw[aw,P5 O4 O0 Ze 4 _ 1 0 tLa 5 Ol Pe Ol];have bi:OC PU Ze 5=6:=by decide +kernel
 rw[bi,P5 O4 O0 Ze 6 _ 5 0 tEq 7 Ol Pe Ol];have d4:OC PU Ze 7=8:=by decide +kernel
 rw[d4,P5 O4 O0 Ze 8 _ 3 2 Oh 9 Ol Pe Ol];have hC:OC PU Ze 9=9:=by decide +kernel
 rw[hC,P5 O4 O0 Ze 9 _ 5 0 PY 10 Ol Pe Ol];have kj:OC PU Ze 10=11:=by decide +kernel
 rw[kj,P5 O4 O0 Ze 11 _ 1 0 UM 16 Ol Pe Ol];have vL:OC PU Ze 16=16:=by decide +kernel
 rw[vL,P5 O4 O0 Ze 16 _ 5 0 RP 17 Ol Pe Ol];have Hy:OC PU Ze 17=17:=by decide +kernel
 rw[Hy,P5 O4 O0 Ze 17 _ 1 0 tLa 18 Ol Pe Ol];have HA:OC PU Ze 18=19:=by decide +kernel
 rw[HA,P5 O4 O0 Ze 19 _ 5 0 avG 20 Ol Pe Ol];have zM:OC PU Ze 20=21:=by decide +kernel
 rw[zM,P5 O4 O0 Ze 21 _ 3 3 Oh 22 Ol Pe Ol];have Hw:OC PU Ze 22=22:=by decide +kernel
 rw[Hw,P5 O4 O0 Ze 22 _ 5 0 TV 23 Ol Pe Ol];have Hx:OC PU Ze 23=23:=by decide +kernel
 rw[Hx,P5 O4 O0 Ze 23 _ 5 0 PY 24 Ol Pe Ol];have HB:OC PU Ze 24=24:=by decide +kernel
 rw[HB,TD O4 O0 Ze 24 _ Ol];rfl
def afT:Qu O4 O0 Ze=.ok acV:=by
 have h1:UJ lR1 (fns lR1 KK)=.ok acV 12:=by kernel_rfl
 have U:acV.count=9:=by decide +kernel
 unfold Qu;rw[if_neg Ol,aul];simp only;rw[h1];simp only;rw[U,if_neg Ol]
def auF (r:Er × St):Bool:=match r.1 with
 | .no=>decide (r.2.log=[⟨#[54]⟩])
 | _=>false
def avf:chk acV false false false=none:=by decide +kernel
def ave:auF (Qr acV)=true:=by decide +kernel
mutual
def Tr.YR:Tr->Bool
 | .mk kd tx _ ks=>!(kd==12||((kd==23||kd==36)&&decide (tx=RH)))&&Tr.afy ks
def Tr.afy:List Tr->Bool
 | []=>true
 | t::ap=>Tr.YR t&&Tr.afy ap
end
def ahQ:∀ {ap:List Tr},Tr.afy ap=true->∀ t ∈ ap,Tr.YR t=true
 | [],_,_,h=>by cases h
 | u::ap,h,t,aZ=>by
  rw[Tr.afy,Bool.and_eq_true] at h
  rcases List.mem_cons.1 aZ with rfl|aZ
  ·exact h.1
  ·exact ahQ h.2 t aZ
def acH {t:Tr}(h:Tr.YR t=true):t.kd≠12/\(t.kd=23\/t.kd=36->t.tx≠RH)/\∀ k ∈ t.kids,Tr.YR k=true:=by
 cases t with
 | mk kd tx n ks=>
  rw[Tr.YR,Bool.and_eq_true] at h;have h1:kd≠12/\((kd≠23/\kd≠36)\/tx≠RH):=by simpa using h.1
  refine⟨h1.1,fun e bi=>?_,ahQ h.2⟩
  rcases h1.2 with U|U
  ·rcases e with e|e
   ·exact U.1 e
   ·exact U.2 e
  ·exact U bi
def Qk {d:Nd}(h:Tr.YR d.2=true)(i:Nat):Tr.YR (Oa d i).2=true:=by
 rw[V3,List.getD_eq_getElem?_getD]
 cases E:d.2.kids[i]? with
 | none=>rfl
 | some k=>exact(acH h).2.2 k (List.mem_of_getElem? E)
def WG {d x:Nd}(h:Tr.YR d.2=true)(ac:x ∈ Px d):Tr.YR x.2=true:=(acH h).2.2 _ (Qh ac)
def Vg (v:Va):Prop:=¬ (v.k=5/\v.n=2)
def vg5 {v:Va}(h:v.k≠5):Vg v:=fun e=>h e.1
def vgU:Vg vU:=vg5 Ol
structure Ne (M:Mo):Prop where
 ln:3<=M.objs.length
 co:∀ (i:Nat) x,M.objs[i]? = some x->x.code=2->i=2
 pv:∀ x ∈ M.objs,∀ p ∈ x.ps,Vg p.v\/p.name=RH
 cv:∀ x ∈ M.Ov,∀ c ∈ x.cs,Vg c.v
section
variable {V:Va->Prop} {b9:Int} {M mq:Mo}
def Chg.ne (h:Chg V b9 M mq)(ax:Ne M)(fF:∀ v,V v->Vg v):Ne mq:=by
 have hl:=h.ol
 cases h with
 | same=>exact ax
 | ob i x ps ac al=>
  refine⟨by rw[hl];exact ax.ln,fun j y aS ai=>?_,fun y hy p wA=>?_,ax.cv⟩
  ·by_cases e:i=j
   ·subst e;have h1:some (⟨x.code,ps⟩:Ob)=some y:=(List.getElem?_set_self (List.getElem?_eq_some_iff.1 ac).1).symm.trans aS;cases h1;exact ax.co _ x ac ai
   ·exact ax.co j y ((List.getElem?_set_ne e).symm.trans aS) ai
  ·rcases List.mem_or_eq_of_mem_set hy with hy|rfl
   ·exact ax.pv y hy p wA
   ·rcases al p wA with h|h
    ·exact .inl (fF _ h)
    ·exact ax.pv x (List.mem_of_getElem? ac) p h
 | ro i x cs ac al E IY=>
  refine⟨ax.ln,ax.co,ax.pv,fun y hy c ai=>?_⟩
  rcases List.mem_or_eq_of_mem_set hy with hy|rfl
  ·exact ax.cv y hy c ai
  ·rcases al c ai with h|h
   ·exact fF _ h
   ·exact ax.cv x (List.mem_of_getElem? ac) c h
def Ne.OY {c:Int}(h:Ne M)(ai:c≠2):Ne (M.OY c):=by
 have hl:=h.ln;refine⟨by simp[Mo.OY];omega,fun i x ac U=>?_,fun x ac p al=>?_,h.cv⟩
 ·change (M.objs++[(⟨c,[]⟩:Ob)])[i]? = some x at ac
  rcases Nat.lt_or_ge i M.objs.length with az|az
  ·exact h.co i x ((List.getElem?_append_left az).symm.trans ac) U
  ·rw[List.getElem?_append_right az,List.getElem?_singleton] at ac
   split at ac
   ·
    cases ac;exact absurd U ai
   ·
    cases ac
 ·rcases List.mem_append.1 ac with ac|ac
  ·exact h.pv x ac p al
  ·rw[List.mem_singleton.1 ac] at al;cases al
def Ne.scope (h:Ne M)(u o:Int):Ne (M.scope u o):=⟨h.ln,h.co,h.pv,fun x ac c ai=>by
 rcases List.mem_append.1 ac with ac|ac
 ·exact h.cv x ac c ai
 ·rw[List.mem_singleton.1 ac] at ai;cases ai⟩
def ayG {a b:Ou}(h:YW a b=true):b=a:=by
 have h1:b.toList=a.toList:=by simpa[YW] using h
 rw[ByteArray.toList_eq,ByteArray.toList_eq] at h1;exact ByteArray.ext (Array.toList_inj.1 h1)
def ali {o:Int}{nm:Ou}{q:Pr}(h:Ne M)(ax:nm≠RH)(al:M.prop o nm=some q):Vg q.v:=by
 unfold Mo.prop at al;have⟨x,h1,U⟩:=Option.bind_eq_some_iff.1 al;have ac:x ∈ M.objs:=aD1
 rcases h.pv x ac q (List.mem_of_find?_eq_some U) with av|av
 ·exact av
 ·have aN:q.name=nm:=ayG (List.find?_some (p:=fun p:Pr=>YW nm p.name) U);exact absurd (aN.symm.trans av) ax
def auw (h:Ne M)(s:Int){nm:Ou}(ax:nm≠RH):Vg (M.read s nm).1:=by
 unfold Mo.read
 cases ai:M.YI s nm with
 | some c=>
  simp only
  split
  ·exact aDO
  ·exact vg5 Ol
 | none=>
  simp only
  cases al:M.prop (M.QX s) nm with
  | some q=>exact ali h ax al
  | none=>exact vg5 Ol
def auy {v:Va}(h:Ne M)(am:Vg v)(bx:v.k=5):M.codeOf v.n≠2:=by
 unfold Mo.codeOf
 rcases QG M v.n with ⟨h0,_⟩|⟨i,x,az,ac,h1⟩
 ·rw[h0];decide
 ·rw[h1];intro e;have:=h.co i x ac e;exact am ⟨bx,by omega⟩
def St.fu (σ:St)(gs:List Fu):St:={ σ with Qg:=gs }
def Pl.lo (p:Pl)(b:Bool):Pl:={ p with strict:=b }
structure Si (σ:St)(gs:List Fu):Prop where
 ln:gs.length=σ.Qg.length
 fr:∀ (i:Nat) f,σ.Qg[i]? = some f->∃ g,gs[i]? = some g/\g.d=f.d/\g.scope=f.scope/\(g.strict=true->f.strict=true)
 ok:∀ f ∈ σ.Qg,Tr.YR f.d.2=true
 ne:Ne σ.M
variable {σ σ1:St}{gs:List Fu}{p:Pl}{b st:Bool}{d:Nd}{v:Va}
section
variable (h:Si σ gs)
include h
def Si.of (aF:σ1.Qg=σ.Qg)(aJ:Ne σ1.M):Si σ1 gs:=⟨by rw[aF];exact h.ln,by rw[aF];exact h.fr,by rw[aF];exact h.ok,aJ⟩
def Si.dec (s:Int)(nm:Ou)(kd:Int)(am:Vg v):Si (σ.dec s nm kd v) gs:=h.of rfl ((UA _ _ _ _ _).ne h.ne fun _ e=>e ▸ am)
def Si.put (o:Int)(nm:Ou)(fx:Bool)(am:Vg v):Si (σ.Qx o nm v fx) gs:=h.of rfl ((Vl _ _ _ _ _).ne h.ne fun _ e=>e ▸ am)
def Si.opn (u o x:Int):Si (σ.opn u o x) gs:=h.of rfl (h.ne.scope _ _)
def Si.fun (hd:Tr.YR d.2=true)(A:b=true->p.strict=true):Vg (mkFun d p σ).1/\∃ cH,mkFun d (p.lo b) (σ.fu gs)=((mkFun d p σ).1,(mkFun d p σ).2.fu cH)/\Si (mkFun d p σ).2 cH:=by
 have hl:=h.ne.ln;refine⟨fun e=>?_,gs++[⟨d,p.scope,b||OU (Oa d 1).2⟩],?_,⟨?_,fun i f aF=>?_,fun f aF=>?_,?_⟩⟩
 ·have U:(σ.M.objs.length:Int)=2:=e.2;omega
 ·unfold mkFun;have e:=h.ln
  show (SQ σ.M.objs.length,({ σ with Qg:=gs++[⟨d,p.scope,b||OU (Oa d 1).2⟩],M:=σ.M.OY (3+gs.length) }:St))=_
  rw[e];rfl
 ·show (gs++[_]).length=(σ.Qg++[_]).length
  simp[h.ln]
 ·change (σ.Qg++[_])[i]? = some f at aF
  rcases Nat.lt_or_ge i σ.Qg.length with az|az
  ·have⟨g,h1,U⟩:=h.fr i f ((List.getElem?_append_left az).symm.trans aF);exact⟨g,(List.getElem?_append_left (by rw[h.ln];exact az)).trans h1,U⟩
  ·rw[List.getElem?_append_right az,List.getElem?_singleton] at aF
   split at aF
   ·rename_i h0
    cases aF;refine⟨⟨d,p.scope,b||OU (Oa d 1).2⟩,by rw[List.getElem?_append_right (by rw[h.ln];exact az),h.ln,h0];rfl,rfl,rfl,fun e=>?_⟩
    change (b||OU (Oa d 1).2)=true at e
    show (p.strict||OU (Oa d 1).2)=true
    rw[Bool.or_eq_true] at e ⊢;exact e.imp A id
   ·
    cases aF
 ·rcases List.mem_append.1 aF with aF|aF
  ·exact h.ok f aF
  ·rw[List.mem_singleton.1 aF];exact hd
 ·exact h.ne.OY Oe
end
def Wv {α:Type}{f g:St->α->St}:∀ (l:List α) {σ:St} {gs:List Fu},Si σ gs->(∀ a ∈ l,∀ σ gs,Si σ gs->∃ cH,g (σ.fu gs) a=(f σ a).fu cH/\Si (f σ a) cH)->∃ cH,l.foldl g (σ.fu gs)=(l.foldl f σ).fu cH/\Si (l.foldl f σ) cH
 | [],σ,gs,h,_=>⟨gs,rfl,h⟩
 | a::l,σ,gs,h,aF=>by
  have⟨cH,h1,U⟩:=aF a List.mem_cons_self σ gs h;obtain⟨kT,av,aN⟩:=Wv (f:=f) (g:=g) l U fun a ay=>aF a (List.mem_cons_of_mem _ ay);exact⟨kT,by rw[List.foldl_cons,h1,av];rfl,aN⟩
def Si.settle (h:Si σ gs)(s:Int)(nm:Ou)(am:Vg v):Hp.settle s nm v (σ.fu gs)=(Hp.settle s nm v σ).fu gs/\Si (Hp.settle s nm v σ) gs:=by
 unfold Hp.settle
 by_cases e:(σ.M.declare s nm 0 v).1=0
 ·rw[if_pos e,if_pos (show ((σ.fu gs).M.declare s nm 0 v).1=0 from e)];exact⟨rfl,h.dec s nm 0 am⟩
 ·rw[if_neg e,if_neg (show ¬ ((σ.fu gs).M.declare s nm 0 v).1=0 from e)];exact⟨rfl,h.of rfl ((Yx _ _ _ _).ne h.ne fun _ e=>e ▸ am)⟩
def Si.lets (ap:List Tr)(h:Si σ gs)(s:Int):∃ cH,PN ap s (σ.fu gs)=(PN ap s σ).fu cH/\Si (PN ap s σ) cH:=Wv ap h fun _ _ _ gs h=>⟨gs,rfl,h.dec _ _ _ vgU⟩
section
variable (h:Si σ gs) (hd:Tr.YR d.2=true) (A:b=true->p.strict=true)
include h hd A
def Si.funcs:∃ cH,Sj d (p.lo b) (σ.fu gs)=(Sj d p σ).fu cH/\Si (Sj d p σ) cH:=Wv _ h fun k E _ _ h=>by
 obtain⟨h1,cH,U,av⟩:=h.fun (d:=k) (p:=p) (b:=b) (WG hd (List.mem_filter.1 E).1) A;have⟨aN,bx⟩:=av.settle p.scope k.2.tx h1;exact⟨cH,by rw[U];exact aN,bx⟩
def Si.lam:Vg (Uz d p σ).1/\∃ cH,Uz d (p.lo b) (σ.fu gs)=((Uz d p σ).1,(Uz d p σ).2.fu cH)/\Si (Uz d p σ).2 cH:=by
 unfold Uz
 by_cases e:d.2.tx=Oh
 ·rw[if_pos e,if_pos e];exact h.fun hd A
 ·rw[if_neg e,if_neg e];obtain⟨h1,cH,U,av⟩:=(h.opn p.scope (-1) (own d)).fun (d:=d) (p:={ p with scope:=σ.top }) (b:=b) hd A;refine⟨h1,cH,?_,av.dec _ _ _ h1⟩;simp only;rw[show mkFun d { p.lo b with scope:=(σ.fu gs).top } ((σ.fu gs).opn (p.lo b).scope (-1) (own d))=_ from U];rfl
def Si.blk:∃ cH,Ph d (p.lo b) (σ.fu gs)=((Ph d p σ).1.lo b,(Ph d p σ).2.fu cH)/\Si (Ph d p σ).2 cH/\(b=true->(Ph d p σ).1.strict=true):=by
 unfold Ph
 by_cases e:(namesT d.2 false).length=0
 ·rw[if_pos e,if_pos e];exact⟨gs,rfl,h,A⟩
 ·rw[if_neg e,if_neg e];obtain⟨cH,h1,U⟩:=(h.opn p.scope (-1) (own d)).lets (OZ d.2) σ.top;have⟨kT,av,aN⟩:=U.funcs (d:=d) (p:={ p with scope:=σ.top }) hd A;refine⟨kT,?_,aN,A⟩;simp only;rw[show PN (OZ d.2) (σ.fu gs).top ((σ.fu gs).opn (p.lo b).scope (-1) (own d))=_ from h1];exact congrArg (Prod.mk _) av
end
def Si.args (args:List Va)(ay:∀ v ∈ args,Vg v)(h:Si σ gs):Vg (Qa args σ).1/\∃ cH,Qa args (σ.fu gs)=((Qa args σ).1,(Qa args σ).2.fu cH)/\Si (Qa args σ).2 cH:=by
 have hl:=h.ne.ln;refine⟨fun e=>?_,?_⟩
 ·have U:(σ.M.objs.length:Int)=2:=e.2;omega
 ·have h0:Si { σ with M:=σ.M.OY 0 } gs:=h.of rfl (h.ne.OY Ol);obtain⟨cH,h1,U⟩:=Wv (f:=fun(bM:St) (x:Va × Nat)=>bM.Qx σ.M.objs.length (Xo ⟨#[97]⟩ (YK x.2)) x.1 false) (g:=fun(bM:St) (x:Va × Nat)=>bM.Qx σ.M.objs.length (Xo ⟨#[97]⟩ (YK x.2)) x.1 false) args.zipIdx (h0.put σ.M.objs.length Xn false (v:=V7 args.length) (vg5 (show (3:Int)≠5 by decide))) fun x ac _ gs h=>⟨gs,rfl,h.put _ _ _ (ay x.1 (List.fst_mem_of_mem_zipIdx ac))⟩;exact⟨cH,congrArg (Prod.mk _) h1,U⟩
def Si.body (h:Si σ gs)(hd:Tr.YR d.2=true)(A:b=true->p.strict=true)(args:List Va)(ay:∀ v ∈ args,Vg v):∃ cH,QB d (p.lo b) args (σ.fu gs)=(QB d p args σ).fu cH/\Si (QB d p args σ) cH:=by
 have hg:∀ i,Vg (args.getD i vU):=fun i=>by
  rw[List.getD_eq_getElem?_getD]
  cases E:args[i]? with
  | none=>exact vgU
  | some v=>exact ay v (List.mem_of_getElem? E)
 obtain⟨cH,h1,U⟩:=Wv (f:=fun(σ:St) (x:Tr × Nat)=>Hp.settle p.scope x.1.tx (args.getD x.2 vU) σ) (g:=fun(σ:St) (x:Tr × Nat)=>Hp.settle p.scope x.1.tx (args.getD x.2 vU) σ) (Oa d 0).2.kids.zipIdx h fun x _ _ gs h=>⟨gs,h.settle p.scope x.1.tx (hg x.2)⟩;unfold QB;simp only;rw[show (Oa d 0).2.kids.zipIdx.foldl (fun(σ:St) (x:Tr × Nat)=>Hp.settle (p.lo b).scope x.1.tx (args.getD x.2 vU) σ) (σ.fu gs)=_ from h1]
 generalize (Oa d 0).2.kids.zipIdx.foldl (fun(σ:St) (x:Tr × Nat)=>Hp.settle p.scope x.1.tx (args.getD x.2 vU) σ) σ=σ1 at U
 obtain⟨kT,av,aN⟩:∃ kT,(if hasArgs (Oa d 0).2.kids (Oa d 1).2 then (Qa args (σ1.fu cH)).2.dec (p.lo b).scope tArgs 0 (Qa args (σ1.fu cH)).1 else σ1.fu cH)=(if hasArgs (Oa d 0).2.kids (Oa d 1).2 then (Qa args σ1).2.dec p.scope tArgs 0 (Qa args σ1).1 else σ1).fu kT/\Si (if hasArgs (Oa d 0).2.kids (Oa d 1).2 then (Qa args σ1).2.dec p.scope tArgs 0 (Qa args σ1).1 else σ1) kT:=by
  split
  ·have⟨av,kT,aN,bx⟩:=U.args args ay;exact⟨kT,by rw[aN];rfl,bx.dec _ _ _ av⟩
  ·exact⟨cH,rfl,U⟩
 rw[av]
 generalize (if hasArgs (Oa d 0).2.kids (Oa d 1).2 then (Qa args σ1).2.dec p.scope tArgs 0 (Qa args σ1).1 else σ1)=b6 at aN
 obtain⟨Db,bx,cf⟩:=Wv (f:=fun(σ:St) (nm:Ou)=>σ.dec p.scope nm 0 vU) (g:=fun(σ:St) (nm:Ou)=>σ.dec p.scope nm 0 vU) (Py (Oa d 1).2) aN fun _ _ _ gs h=>⟨gs,rfl,h.dec _ _ _ vgU⟩;rw[show (Py (Oa d 1).2).foldl (fun(σ:St) (nm:Ou)=>σ.dec (p.lo b).scope nm 0 vU) (b6.fu kT)=_ from bx];have⟨LF,g2,hb⟩:=cf.lets (OZ (Oa d 1).2) p.scope;rw[show PN (OZ (Oa d 1).2) (p.lo b).scope _=_ from g2];exact hb.funcs (Qk hd 1) A
def alj (d:Nd)(p:Pl)(b:Bool)(σ:St)(gs:List Fu):look d (p.lo b) (σ.fu gs)=((look d p σ).1,(look d p σ).2.fu gs)/\(look d p σ).2.M=σ.M/\(look d p σ).2.Qg=σ.Qg:=by
 unfold look;simp only[show (σ.fu gs).M=σ.M from rfl,show (p.lo b).scope=p.scope from rfl]
 cases d.1 with
 | none=>exact⟨rfl,rfl,rfl⟩
 | some k=>
  simp only
  split
  all_goals
   exact⟨rfl,rfl,rfl⟩
def aqK (h:Si σ gs)(A:b=true->st=true)(am:Vg v){s:Int}{nm:Ou}(ao:Zj s nm v st σ=(.no,σ1)):Zj s nm v b (σ.fu gs)=(.no,σ1.fu gs)/\Si σ1 gs:=by
 have hw:Si { σ with M:=(σ.M.write s nm v).2 } gs:=h.of rfl ((Yx _ _ _ _).ne h.ne fun _ e=>e ▸ am);unfold Zj at ao ⊢;simp only[show (σ.fu gs).M=σ.M from rfl] at ao ⊢
 by_cases g2:(σ.M.write s nm v).1=7
 ·rw[if_pos g2] at ao ⊢;unfold Wy at ao ⊢
  cases st with
  | true=>rw[if_pos rfl] at ao;cases ao
  | false=>
   cases b with
   | true=>cases A rfl
   | false=>
    rw[if_neg Bool.false_ne_true] at ao ⊢;have aw:=congrArg Prod.fst ao;have bi:=congrArg Prod.snd ao;simp only at aw bi;subst bi;refine⟨?_,hw.put _ _ _ am⟩;simp only;exact Prod.ext aw rfl
 ·rw[if_neg g2] at ao ⊢
  by_cases cf:(σ.M.write s nm v).1=6
  ·rw[if_pos cf] at ao;cases ao
  ·rw[if_neg cf] at ao ⊢
   by_cases h1:(σ.M.write s nm v).1=1
   ·rw[if_pos h1] at ao;cases ao
   ·rw[if_neg h1] at ao ⊢
    by_cases bx:(σ.M.write s nm v).1=5
    ·rw[if_pos bx] at ao ⊢
     cases st with
     | true=>cases ao
     | false=>
      cases b with
      | true=>cases A rfl
      | false=>cases ao;exact⟨rfl,hw⟩
    ·rw[if_neg bx] at ao ⊢
     cases ao;exact⟨rfl,hw⟩
end
end Hp
section
open Go.ChangeShapes Go.WideShapes Go.ChangeAt Go.WideMaps Go.WideElems Go.RowKit
def jk (a b:ByteArray):ByteArray:=⟨(a.data.toList++32::b.data.toList).toArray⟩
def ZG (a b:ByteArray):(jk a b).data.toList=a.data.toList++32::b.data.toList:=by simp[jk]
def Rn (a:ByteArray):a.data.toList.length=a.size:=by simp
section
variable (a b:ByteArray)
include a b
def ZH:(jk a b).size=a.size+1+b.size:=by
 rw[<-Rn,ZG];simp;omega
def ZI (i:Nat)(h:i<a.size):bt (jk a b) i=bt a i:=by
 unfold bt;rw[ZG,List.getD_eq_getElem?_getD,List.getD_eq_getElem?_getD,List.getElem?_append_left (by rw[Rn];exact h)]
def Y7 (k:Nat)(h:k<=a.size):(jk a b).data.toList.drop k=a.data.toList.drop k++32::b.data.toList:=by
 rw[ZG,List.drop_append_of_le_length (by rw[Rn];exact h)]
def aco (k:Nat):(jk a b).data.toList.drop (a.size+1+k)=b.data.toList.drop k:=by
 rw[ZG,List.drop_append,List.drop_of_length_le (by rw[Rn];omega),Rn,show a.size+1+k - a.size=k+1 by omega]
 rfl
end
section
variable (p:Int->Bool) (a b:ByteArray) (k:Nat) (h:k<=a.size)
include p a b k h
def ak1 (al:p 32=false):OC p (jk a b) k=OC p a k:=by
 unfold OC;rw[Y7 a b k h,List.takeWhile_append,List.takeWhile_cons];have:p (((32:UInt8).toNat:Nat):Int)=false:=al;rw[this];simp only[Bool.false_eq_true,if_false,List.append_nil]
 split
 ·rename_i h1
  rw[h1]
 ·rfl
def aaE (al:p 32=true) :
  OC p (jk a b) k=if OC p a k<a.size then OC p a k else a.size+1+OC p b 0:=by
 have gh:=QU p a k h;unfold OC at gh ⊢;rw[Y7 a b k h,List.takeWhile_append,List.takeWhile_cons];have:p (((32:UInt8).toNat:Nat):Int)=true:=al;rw[this];have hd:(a.data.toList.drop k).length=a.size - k:=by rw[List.length_drop,Rn]
 simp only[if_true,List.drop_zero]
 split
 ·rename_i h1
  rw[if_neg Oe];simp only[List.length_append,List.length_cons];omega
 ·rename_i h1
  rw[if_pos Oe]
end
def acp (a b:ByteArray)(k e:Nat)(h:e<=a.size):(jk a b).extract k e=a.extract k e:=by
 apply bytes_inj;rw[ByteArray.data_extract,ByteArray.data_extract,Array.toList_extract,Array.toList_extract,ZG];simp only[List.extract_eq_take_drop]
 by_cases E:k<=a.size
 ·rw[List.drop_append_of_le_length (by rw[Rn];exact E),List.take_append_of_le_length (by rw[List.length_drop,Rn];omega)]
 ·rw[show e - k=0 by omega];simp
def axD:Vt 32=false:=by decide
def axE:Qe 32=false:=by decide
def ap0:PU 32=true:=by decide
def atA (aY:List ByteArray)(a b:ByteArray)(k:Nat)(h:k<=a.size):SG aY (jk a b) k=SG aY a k:=by
 unfold SG;rw[ak1 Vt a b k h axD,acp a b k _ (QU Vt a k h)]
def axF (a b:ByteArray)(k:Nat)(h:k<a.size):rdNum (jk a b) k=rdNum a k:=by
 unfold rdNum;rw[ak1 Qe a b k Oe axE,acp a b k _ (QU Qe a k Oe)];have:=ZI a b k h;unfold bt at this;rw[this]
def axG (a b:ByteArray):∀ n i said l e,a.size - i=n->UE a i said=.ok l e->UE (jk a b) i said=.ok l e:=by
 intro n
 induction n using Nat.strongRecOn with
 | ind n bv=>
  intro i said l e ax h;have aS:=ZH a b
  by_cases aM:i<a.size
  ·have A:=ZI a b i aM
   by_cases c1:bt a i=39
   ·rw[Xt a i said aM c1] at h;rw[Xt (jk a b) i said Oe (by rw[A];exact c1)]
    exact h
   ·by_cases c2:bt a i=10
    ·rw[aff a i said aM c2] at h;cases h
    ·by_cases c3:bt a i=92
     ·by_cases h1:i+1<a.size
      ·
       cases aR:esc (bt a (i+1)) with
       | none=>rw[U9 a i said aM c3 (fun _=>aR)] at h;cases h
       | some m=>
        rw[ZJ a i said m aM c3 h1 aR] at h;rw[ZJ (jk a b) i said m Oe (by rw[A];exact c3) Oe (by rw[ZI a b _ h1];exact aR)]
        exact bv (a.size - (i+2)) Oe (i+2) _ l e rfl h
      ·rw[U9 a i said aM c3 (fun hh=>absurd hh h1)] at h;cases h
     ·rw[Xu a i said aM c1 c2 c3] at h;rw[Xu (jk a b) i said Oe (by rw[A];exact c1) (by rw[A];exact c2) (by rw[A];exact c3),A]
      exact bv (a.size - (i+1)) Oe (i+1) _ l e rfl h
  ·rw[acr a i said aM] at h;cases h
def ahg (x p:ByteArray):Yz x p=true↔p.data.toList <+: x.data.toList:=by
 unfold Yz;rw[Bool.and_eq_true,decide_eq_true_eq,beq_iff_eq];have aw:(x.extract 0 p.size).data.toList=x.data.toList.take p.size:=by
  rw[ByteArray.data_extract,Array.toList_extract];simp[List.extract_eq_take_drop]
 have bi:∀ y:ByteArray,y.toList=y.data.toList:=fun y=>ByteArray.toList_eq y;rw[bi,bi,aw,List.prefix_iff_eq_take,Rn];constructor
 ·exact fun h=>h.2.symm
 ·intro h;refine⟨?_,h.symm⟩;have:=congrArg List.length h;rw[List.length_take,Rn,Rn] at this;omega
def ajv (g bQ mN:List UInt8)(hg:(32:UInt8) ∉ g):g <+: bQ++32::mN↔g <+: bQ:=by
 constructor
 ·intro h
  induction bQ generalizing g with
  | nil=>
   cases g with
   | nil=>exact List.nil_prefix
   | cons x g=>
    rw[List.nil_append,List.cons_prefix_cons] at h;exact absurd (by simp[h.1]) hg
  | cons y bQ bv=>
   cases g with
   | nil=>exact List.nil_prefix
   | cons x g=>
    rw[List.cons_append,List.cons_prefix_cons] at h;rw[List.cons_prefix_cons];exact⟨h.1,bv g (fun hh=>hg (by simp[hh])) h.2⟩
 ·exact fun h=>h.trans (List.prefix_append _ _)
def acs (s:ByteArray)(k:Nat):(s.extract k s.size).data.toList=s.data.toList.drop k:=by
 rw[ByteArray.data_extract,Array.toList_extract,List.extract_eq_take_drop,List.take_of_length_le (by rw[List.length_drop,Rn];omega)]
def axH (a b g:ByteArray)(k:Nat)(h:k<=a.size)(hg:(32:UInt8) ∉ g.data.toList):Yz ((jk a b).extract k (jk a b).size) g=Yz (a.extract k a.size) g:=by
 have:Yz ((jk a b).extract k (jk a b).size) g=true↔Yz (a.extract k a.size) g=true:=by
  rw[ahg,ahg,acs,acs,Y7 a b k h,ajv _ _ _ hg]
 cases h1:Yz ((jk a b).extract k (jk a b).size) g <;> cases U:Yz (a.extract k a.size) g <;> simp_all
def ahh (gs:List ByteArray)(f fv:ByteArray->Bool)(h:∀ g ∈ gs,f g=fv g):gs.find? f=gs.find? fv:=by
 induction gs with
 | nil=>rfl
 | cons g gs bv=>
  rw[List.find?_cons,List.find?_cons,h g OW,bv (fun x ac=>h x (by simp[ac]))]
def atB (gs:List ByteArray)(a b:ByteArray)(k:Nat)(h:k<=a.size)(hg:∀ g ∈ gs,(32:UInt8) ∉ g.data.toList):TL gs (jk a b) k=TL gs a k:=by
 unfold TL;rw[ahh gs _ _ (fun g aR=>axH a b g k h (hg g aR))]
section
variable (aY gs:List ByteArray) (a b:ByteArray)
include aY gs a b
def axI (k:Nat)(kd n:Int)(tx:ByteArray)(e:Nat)(h:k<a.size)(hg:∀ g ∈ gs,(32:UInt8) ∉ g.data.toList)(aa:Tc aY gs a k=.tok kd tx n e):Tc aY gs (jk a b) k=.tok kd tx n e:=by
 rw[<-aa];unfold Tc at aa ⊢;rw[ZI a b k h,atA aY a b k Oe,axF a b k h,atB gs a b k Oe hg]
 split
 ·rfl
 ·split
  ·rfl
  ·split
   ·rename_i h1 U av
    rw[if_neg h1,if_neg U,if_pos av] at aa;unfold rdStr at aa ⊢
    cases ab:UE a (k+1) [] with
    | ok l ht=>rw[axG a b _ _ _ l ht rfl ab]
    | bad p=>rw[ab] at aa;cases aa
   ·rfl
def ap1 (j6:∀ g ∈ gs,1<=g.size)(hg:∀ g ∈ gs,(32:UInt8) ∉ g.data.toList):∀ m i aX l,a.size - i=m->i<=a.size->Q7 aY gs a i aX=.ok l ->
  ∃ l',l=l'++[⟨6,⟨#[]⟩,0,a.size⟩]/\Q7 aY gs (jk a b) (if i<a.size then i else a.size+1+OC PU b 0) aX=Q7 aY gs (jk a b) (a.size+1+OC PU b 0) l':=by
 intro m
 induction m using Nat.strongRecOn with
 | ind m bv=>
  intro i aX l aR az h;have aS:=ZH a b
  by_cases aM:i<a.size
  ·
   cases aa:Tc aY gs a i with
   | bad er p=>rw[WH aY gs a i aX er p aM aa] at h;cases h
   | tok kd tx n e=>
    have A:=VP aY gs a i kd n tx e aM j6 aa;rw[P5 aY gs a i aX kd n tx e aM aa A.1] at h;have pM:=TU PU a e;have gh:=QU PU a e A.2;obtain⟨l',h1,U⟩:=bv (a.size - OC PU a e) Oe (OC PU a e) _ l rfl gh h;refine⟨l',h1,?_⟩;rw[if_pos aM,P5 aY gs (jk a b) _ aX kd n tx e Oe (axI aY gs a b i kd n tx e aM hg aa) Oe,aaE PU a b e A.2 ap0];exact U
  ·rw[TD aY gs a i aX aM] at h;refine⟨aX,by cases h;rfl,?_⟩
   rw[if_neg aM]
end
end
def tyB (kd:Int)(tx:Ou):Bool:=kd==12||((kd==23||kd==36)&&decide (tx=RH))
def tyF (a:Bool)(t:Ad):Bool × Bool:=(a||tyB t.kd t.tx,true)
def aq6 {b:Nat}{a:Bool}{t:Ad}{I:Nat->Prop}{w:Og}(A:w.heap[b]? = some (OM #[Om a] 4))(aZ:Ri I w t) :
  Oq 37 #[N7 t.p,Oy b 0] w fun e w'=>e=OA (Om true)/\w'=w.setCell (N9 b 0) (Om (a||tyB t.kd t.tx)):=by
 obtain⟨_,eM,c0,c1,_⟩:=aZ.cells;have ai:w.cell? (N9 b 0)=some (Om a):=by rw[cell_of A];rfl
 have aF:w.frozen? (N9 b 0)=false:=by simp[World.frozen?,A]
 unfold tyB
 generalize t.kd=kd at c0
 generalize t.tx=tx at c1
 generalize t.p=p at eM c0 c1
 clear A
 cases a with
 | true=>
  exact ahj
 | false=>
  by_cases f4:kd=12
  ·subst f4;exact ahj
  ·have t1:(kd==12)=false:=beq_eq_false_iff_ne.2 f4
   by_cases h1:tx=RH
   ·have aw:=Vz (b:=RH) rfl h1;rw[decide_eq_true h1];clear h1
    by_cases ge:kd=23
    ·subst ge;clear f4 t1;exact ahj
    ·have vK:(kd==23)=false:=beq_eq_false_iff_ne.2 ge
     by_cases lS:kd=36
     ·subst lS;clear f4 t1 ge vK;exact ahj
     ·have zL:(kd==36)=false:=beq_eq_false_iff_ne.2 lS;rw[t1,vK,zL];exact ahj
   ·have aw:=U6 (b:=RH) rfl h1;rw[decide_eq_false h1,t1];clear h1
    by_cases ge:kd=23
    ·subst ge;clear f4 t1;exact ahj
    ·have vK:(kd==23)=false:=beq_eq_false_iff_ne.2 ge;rw[vK]
     by_cases lS:kd=36
     ·subst lS;clear f4 t1 ge vK;exact ahj
     ·have zL:(kd==36)=false:=beq_eq_false_iff_ne.2 lS;rw[zL];exact ahj
def aHt:VH 37:=fun _ _=>by kernel_rfl
def ajU {I:Nat->Prop}(t:Ad)(w:Og)(aZ:Ri I w t)(ai:t.cnt<=90000) :
  Oq 17 #[N7 t.p] w fun e w'=>e=OA (Om (wk tyF false t))/\Oo w w':=by
 have⟨w2,cM⟩:=xE (w.alloc (.cells #[Om false] 4));have aE:Oo w w2:=by rw[cM];exact PE
 have hN:w2.heap[w.heap.size]? = some (OM #[Om false] 4):=by rw[cM];exact Oi _ _
 have aj:=(au4 37 (Oy w.heap.size 0) (fun b=>b<w.heap.size) (Ap w.heap.size (w.heap.size+1)) (fun a W=>W.heap[w.heap.size]? = some (OM #[Om a] 4)) tyF (fun _ _=>True) aHt (fun W=>by kernel_rfl)
  (fun _ _ _ h k=>h.trans k) (fun w w' h=>⟨fun b A _=>h.block b Oe Oe,h.size⟩) (fun _ _ _ _=>trivial)
  (fun a t ap w' _ mx be=>by
   refine(aq6 mx be).mono ?_;rintro e aq ⟨rfl,rfl⟩;exact⟨rfl,heap_setCell_same w' w.heap.size 0 _ 4 _ mx,⟨rfl,rfl,rfl,by simp,fun k _ E=>heap_setCell_other _ _ _ _ E⟩⟩)
  t.cnt t Pg ai [] false w2 trivial hN (Ri.later (I:=fun b=>b<w.heap.size) (fun b A _=>aE.block b A) _ (Ri.mono (fun b _ hl=>hl) _ aZ)))
 have⟨p,al⟩:=xE t.p;rw[<-al] at aj ⊢
 generalize wk tyF false t=r at aj
 rw[cM] at aj;have bo:=hide cM;clear hN ai al cM;go_enter func17,ntmps17;go_wp2_with fail;refine cm aj ?_;rintro e aq ⟨rfl,mE,_,ha3⟩;have lp:aq.cell? (N9 w.heap.size 0)=some (Om r):=by rw[cell_of mE];rfl
 rw[<-bo.out] at ha3;have dG:Oo w aq:=aE.trans ((ha3.mono Oe).below Pg);clear mE;go_wp2;go_ret;exact⟨rfl,dG⟩
