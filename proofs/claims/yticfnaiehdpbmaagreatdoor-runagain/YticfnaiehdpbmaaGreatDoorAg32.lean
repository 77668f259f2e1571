import Derived.Test.YticfnaiehdpbmaaGreatDoorRows
import Derived.LaidMore
import Derived.Test.YticfnaiehdpbmaaGreatDoorAg29
import Derived.Test.YticfnaiehdpbmaaGreatDoorAg30
set_option maxRecDepth 100000
set_option maxHeartbeats 8000000
set_option linter.unusedVariables false
namespace Go.Proofs.YticfnaiehdpbmaaGreatDoor
open Go.RowKit Go.Proofs.Tryz
section
open Go.ChangeShapes Go.WideShapes Go.ChangeAt Go.WideMaps Go.WideElems Go.RowKit
theorem aDE:ownKnob Tryz.prog.godebug=none:=by kernel_rfl
theorem anB : Tryz.prog.globalNamed "sloppyscope/lex.words" = some 6 := by kernel_rfl
theorem anC : Tryz.prog.globalNamed "sloppyscope/lex.signs" = some 2 := by kernel_rfl
theorem avb:(Tryz.prog.globals[6]?).map (·.type)=some 272:=by kernel_rfl
theorem avc:(Tryz.prog.globals[2]?).map (·.type)=some 272:=by kernel_rfl
theorem cells9:Tryz.prog.cellsOf 9=1:=by kernel_rfl
theorem cells53:Tryz.prog.cellsOf 272=19:=by kernel_rfl
theorem XT {W:World}{fuel:Nat}{cs:List Value}{p:List MemPlace}(L:List (List UInt8))(dz:L.length=19)
  (h:DataW.trod (fun _=>()) Tryz.prog W 0 (fun _=>true) false fuel 272 cs=some (.agg (L.map fun l=>.lit (.string l)),p)):cs=(L.map ofBytes).map Value.string:=by
 obtain⟨xs,m,rfl,ac,hlen,aA,e3⟩:=DataW.trod_array Tryz.underlying272 h;simp only[Prod.mk.injEq,DataW.agg.injEq] at ac;rw[cells53] at hlen;refine List.ext_getElem (by simp[dz,hlen]) fun i h1 O=>?_;have ay:i<19:=by omega
 have au:=e3 i ay;rw[cells9,Nat.mul_one,List.getElem?_eq_getElem (by omega)] at au;obtain⟨s,av,bC,_⟩:=DataW.trod_string Tryz.underlying9 au;have ey:(xs.map (·.1))[i]'(by simp[aA];omega)=.lit (.string (L[i]'(by omega))):=by
  have hE:(xs.map (·.1))[i]? =(L.map fun l=>(DataW.lit (.string l):DataW Unit))[i]?:=by rw[ac.1]
  rw[List.getElem?_eq_getElem (by simp[aA];omega),List.getElem?_eq_getElem (by simp;omega)] at hE
  simpa using hE
 rw[List.getElem_map,bC] at ey;have kc:s.data.toList=L[i]'(by omega):=by simpa using ey
 have vi:(cs.drop i)[0]? = some (.string s):=by
  have:((cs.drop i).take 1)[0]? = some (.string s):=by rw[av];rfl
  simpa using this
 rw[List.getElem?_drop,Nat.add_zero,List.getElem?_eq_getElem h1] at vi;rw[Option.some.inj vi];simp[abm kc]
theorem Vm {W:World}{n:String}{g:Nat}{cs:Array Value}(hg:Tryz.prog.globalNamed n=some g)(h:W.var? Tryz.prog n=some cs):∃ t fr,W.heap[g]? = some (.cells cs t fr):=by
 simp only[World.var?,hg,Option.bind_some] at h
 split at h
 ·rename_i KJ t fr hh
  cases h;exact⟨t,fr,hh⟩
 ·
  cases h
end
section
open Go.ChangeShapes Go.WideShapes Go.ChangeAt Go.WideMaps Go.WideElems Go.RowKit
theorem aiZ : Tryz.prog.globalNamed "sloppyscope/tree.signs" = some 3 := by kernel_rfl
theorem ai0 : Tryz.prog.globalNamed "sloppyscope/tree.heads" = some 4 := by kernel_rfl
theorem aqI:(Tryz.prog.globals[3]?).map (·.type)=some 276:=by kernel_rfl
theorem aqJ:(Tryz.prog.globals[4]?).map (·.type)=some 285:=by kernel_rfl
theorem afP:Tryz.prog.cellsOf 275=4:=by kernel_rfl
theorem ai1:Tryz.prog.cellsOf 3=1:=by kernel_rfl
theorem anI:Tryz.prog.cellsOf 276=56:=by kernel_rfl
theorem ai2:Tryz.prog.cellsOf 284=2:=by kernel_rfl
theorem anJ:Tryz.prog.cellsOf 285=16:=by kernel_rfl
theorem Zm (k:Nat)(E:0<k):∀ (L:List (List Value)) (cs:List Value),(∀ l ∈ L,l.length=k)->cs.length=L.length * k->(∀ i (ay:i<L.length),(cs.drop (i * k)).take k=L[i])->cs=L.flatten
 | [],cs,_,hl,_=>by
  have:cs.length=0:=by simpa using hl
  simpa using this
 | l::L,cs,h,hl,al=>by
  have h0:=al 0 (by simp);simp only[Nat.zero_mul,List.drop_zero,List.getElem_cons_zero] at h0;have h1:=Zm k E L (cs.drop k) (fun x ac=>h x (List.mem_cons_of_mem _ ac)) (by rw[List.length_drop,hl,List.length_cons,Nat.add_mul];omega) (fun i ay=>by
   have:=al (i+1) (by simpa using ay);rw[List.getElem_cons_succ] at this;rw[List.drop_drop,show k+i * k=(i+1) * k by rw[Nat.add_mul];omega]
   exact this)
  rw[List.flatten_cons,<-h0,<-h1,List.take_append_drop]
section
variable {W:World} {fuel:Nat} {cs:List Value}
include W fuel cs
theorem adY {bE:Int}{q:List MemPlace}(h:DataW.trod (fun _=>()) Tryz.prog W 0 (fun _=>true) false fuel 3 cs=some (.lit (.int .i64 bE),q)):cs=[.int .i64 bE]:=by
 obtain⟨k,e,f,_⟩:=DataW.trod_int Tryz.underlying3 h;simp only[Prod.mk.injEq,DataW.lit.injEq,Lit.int.injEq,true_and] at f;rw[e,<-f.1]
theorem text_of {l:List UInt8}{q:List MemPlace}(h:DataW.trod (fun _=>()) Tryz.prog W 0 (fun _=>true) false fuel 9 cs=some (.lit (.string l),q)):cs=[.string (ofBytes l)]:=by
 obtain⟨s,av,bC,_⟩:=DataW.trod_string Tryz.underlying9 h;simp only[Prod.mk.injEq,DataW.lit.injEq,Lit.string.injEq] at bC;rw[av,abm bC.1.symm]
end
theorem aqK {cs:List Value}(hl:cs.length=4){a b c d:Value}(h0:(cs.drop 0).take 1=[a])(h1:(cs.drop 1).take 1=[b])(O:(cs.drop 2).take 1=[c])(ax:(cs.drop 3).take 1=[d]):cs=[a,b,c,d]:=by
 match cs,hl with
 | [x,y,bE,u],_=>simp at h0 h1 O ax;rw[h0,h1,O,ax]
theorem fields2 {cs:List Value}(hl:cs.length=2){a b:Value}(h0:(cs.drop 0).take 1=[a])(h1:(cs.drop 1).take 1=[b]):cs=[a,b]:=by
 match cs,hl with
 | [x,y],_=>simp at h0 h1;rw[h0,h1]
def sgD (l:List UInt8)(a b c:Int):DataW Unit:=.agg [.lit (.string l),.lit (.int .i64 a),.lit (.int .i64 b),.lit (.int .i64 c)]
def hdD (l:List UInt8)(a:Int):DataW Unit:=.agg [.lit (.string l),.lit (.int .i64 a)]
theorem Xk {H:Type}{xs:List (DataW H × List MemPlace)}{a1:List (DataW H)}(h:a1=xs.map (·.1))(i:Nat)(d:DataW H)(hd:a1[i]? = some d):∃ q,xs[i]? = some (d,q):=by
 subst h;rw[List.getElem?_map] at hd
 cases ac:xs[i]? with
 | none=>rw[ac] at hd;cases hd
 | some x=>
  rw[ac] at hd;exact⟨x.2,by rw[<-Option.some.inj hd]⟩
section
variable {W:World} {fuel:Nat} {cs:List Value} {l:List UInt8}
include W fuel cs l
theorem aAU {a b c:Int}{q:List MemPlace}(h:DataW.trod (fun _=>()) Tryz.prog W 0 (fun _=>true) false fuel 275 cs=some (sgD l a b c,q)) :
  cs=[.string (ofBytes l),.int .i64 a,.int .i64 b,.int .i64 c]:=by
 obtain⟨xs,n,_,ac,hl,aA,e3⟩:=DataW.trod_struct Tryz.underlying275 h;simp only[Prod.mk.injEq,sgD,DataW.agg.injEq] at ac;rw[afP] at hl;obtain⟨bi,e'⟩:=Xk ac.1 0 _ rfl;obtain⟨aY,cj⟩:=Xk ac.1 1 _ rfl;obtain⟨aX,dD⟩:=Xk ac.1 2 _ rfl;obtain⟨cu,jg⟩:=Xk ac.1 3 _ rfl;have q4:=e3 0 _ rfl;have dZ:=e3 1 _ rfl;have dW:=e3 2 _ rfl;have fO:=e3 3 _ rfl;rw[e'] at q4;rw[cj] at dZ;rw[dD] at dW;rw[jg] at fO;have cC:(cs.drop 0).take (Tryz.prog.cellsOf 9)=_:=text_of q4
 have b0:(cs.drop 1).take (Tryz.prog.cellsOf 3)=_:=adY dZ;have d4:(cs.drop 2).take (Tryz.prog.cellsOf 3)=_:=adY dW;have d1:(cs.drop 3).take (Tryz.prog.cellsOf 3)=_:=adY fO;rw[cells9] at cC;rw[ai1] at b0 d4 d1;exact aqK hl cC b0 d4 d1
theorem aAV {a:Int}{q:List MemPlace}(h:DataW.trod (fun _=>()) Tryz.prog W 0 (fun _=>true) false fuel 284 cs=some (hdD l a,q)) :
  cs=[.string (ofBytes l),.int .i64 a]:=by
 obtain⟨xs,n,_,ac,hl,aA,e3⟩:=DataW.trod_struct Tryz.underlying284 h;simp only[Prod.mk.injEq,hdD,DataW.agg.injEq] at ac;rw[ai2] at hl;obtain⟨bi,e'⟩:=Xk ac.1 0 _ rfl;obtain⟨aY,cj⟩:=Xk ac.1 1 _ rfl;have q4:=e3 0 _ rfl;have dZ:=e3 1 _ rfl;rw[e'] at q4;rw[cj] at dZ;have cC:(cs.drop 0).take (Tryz.prog.cellsOf 9)=_:=text_of q4;have b0:(cs.drop 1).take (Tryz.prog.cellsOf 3)=_:=adY dZ;rw[cells9] at cC;rw[ai1] at b0;exact fields2 hl cC b0
end
def aAW:List (List UInt8 × Int × Int × Int):=sgs.map fun e=>(e.tx.data.toList,e.kd,e.parts,e.str)
def aAX:List (List UInt8 × Int):=hds.map fun e=>(e.1.data.toList,e.2)
section
variable {W:World} {fuel:Nat} {cs:List Value} {p:List MemPlace}
include W fuel cs p
theorem akH (h:DataW.trod (fun _=>()) Tryz.prog W 0 (fun _=>true) false fuel 276 cs=some (.agg (aAW.map fun e=>sgD e.1 e.2.1 e.2.2.1 e.2.2.2),p)):cs=Vo.toList:=by
 obtain⟨xs,m,_,ac,hlen,aA,e3⟩:=DataW.trod_array Tryz.underlying276 h;simp only[Prod.mk.injEq,DataW.agg.injEq] at ac;rw[anI] at hlen;have key:cs=(aAW.map fun e=>[Value.string (ofBytes e.1),.int .i64 e.2.1,.int .i64 e.2.2.1,.int .i64 e.2.2.2]).flatten:=by
  refine Zm 4 (by decide) _ cs ?_ (by rw[hlen];rfl) ?_
  ·intro l hl;obtain⟨e,_,rfl⟩:=List.mem_map.1 hl;rfl
  ·intro i ay;rw[List.length_map] at ay;have AC:i<14:=ay;have au:=e3 i AC;rw[afP] at au;obtain⟨q,ag⟩:=Xk ac.1 i _ (by rw[List.getElem?_map,List.getElem?_eq_getElem ay];rfl)
   rw[ag] at au;rw[aAU au,List.getElem_map]
 rw[key];rfl
theorem akI (h:DataW.trod (fun _=>()) Tryz.prog W 0 (fun _=>true) false fuel 285 cs=some (.agg (aAX.map fun e=>hdD e.1 e.2),p)):cs=UD.toList:=by
 obtain⟨xs,m,_,ac,hlen,aA,e3⟩:=DataW.trod_array Tryz.underlying285 h;simp only[Prod.mk.injEq,DataW.agg.injEq] at ac;rw[anJ] at hlen;have key:cs=(aAX.map fun e=>[Value.string (ofBytes e.1),.int .i64 e.2]).flatten:=by
  refine Zm 2 (by decide) _ cs ?_ (by rw[hlen];rfl) ?_
  ·intro l hl;obtain⟨e,_,rfl⟩:=List.mem_map.1 hl;rfl
  ·intro i ay;rw[List.length_map] at ay;have AC:i<8:=ay;have au:=e3 i AC;rw[ai2] at au;obtain⟨q,ag⟩:=Xk ac.1 i _ (by rw[List.getElem?_map,List.getElem?_eq_getElem ay];rfl)
   rw[ag] at au;rw[aAV au,List.getElem_map]
 rw[key];rfl
end
end
namespace Hp
section
open Go.RowKit Go.Extern.Stop Go.Stop Go.Extern
theorem aoN {w:Ny}{T:Nat}{t:TypeId}{n v0:NP}(bG iU:Obj)(D:w.heap[T]? = some (Og #[v0] t))(dA:w.cell? (Nv T 0)=some v0)(jH:T<w.heap.size) :
  (((w.setCell (Nv T 0) n).alloc bG).alloc iU).heap[T]? = some (Og #[n] t)/\Below T w (((w.setCell (Nv T 0) n).alloc bG).alloc iU):=
 ⟨alloc_old (alloc_old (heap_setCell_same w T 0 _ t n D)),(ali bG iU dA jH).2⟩
theorem aoO (bc:Nat)(T a:Nat)(w:Ny)(xw:w.heap[T]? = some (Og #[Qb] 122))(dA:w.cell? (Nv T 0)=some Qb)(ak:w.frozen? (Nv T 0)=false)(aw:w.cell? (Nv a 0)=some (NM T 0))(jH:T<w.heap.size)(mY:a<w.heap.size) :
  NK 65 #[.iface 122 (NM bc 0),.iface 123 (NM T 0),.agg #[NM 13 123,NM a 0,.int .u64 150],.iface 215 (.agg #[NM 13 122])] w fun e w'=>
   e=NU (NI true)/\w'.heap[T]? = some (Og #[NM bc 0] 122)/\Below T w w':=by
 have z:=kk (∀{G}(h:G:=by
 have z:=kk (∀{G}(h:G:=by
 refine wp_loop_rounds 1 ?_;rw[rounds_succ]
 go_wp2
 go_ret;exact⟨rfl,aoN _ _ xw dA jH⟩),G);exact awL),G);exact zss
theorem aio (bc:Nat)(T:Nat)(w:Ny)(xw:w.heap[T]? = some (Og #[Qb] 122))(dA:w.cell? (Nv T 0)=some Qb)(ak:w.frozen? (Nv T 0)=false)(jH:T<w.heap.size)(hg:w.cell? (Nv 0 0)=some (.iface 215 (.agg #[NM 13 31]))) :
  NK 32 #[.iface 122 (NM bc 0),.iface 123 (NM T 0)] w fun e w'=>e=NU (NI true)/\w'.heap[T]? = some (Og #[NM bc 0] 122)/\Below T w w':=by
 have z:=kk (∀{G}(h:G:=by
 have bP:=kk (∀{G}(h:G:=by
 have DF:fb.heap[T]? = some (Og #[Qb] 122):=by rw[f6];exact alloc_old (alloc_old xw)
 have mX:fb.cell? (Nv T 0)=some Qb:=by rw[f6,World.cell?_alloc_past _ _ _ Qa,World.cell?_alloc_past _ _ _ jH];exact dA
 have z:=kk (∀{G}(h:G:=by
 have n0:=R9.aeC (Nv w.heap.size 0) (Nv T 0) fb aw;rw[f6] at n0;have ah:Hid _:=aoO bc T w.heap.size fb DF mX oA aw Nw Nw;rw[f6] at ah jq;clear b6 oA mX DF xw aw f6 fb;exact aoJ),G);exact asV),G);exact zta),G);exact zsm
end
section
variable {w0:Ny} {mb af:Nat} {aa:List Nat} {es aS aB az aL:NP} {w w':Ny} {σ:St} {N:Nat} {F:Fx}
section
variable {p:Pl} {o:Int} {d:Nd} {a1:List Nd} {v:Va}
include p o d a1 v
theorem apY {σ1:St}(h:F.v (Nz d 0) p σ=((v,.no),σ1)):Y9 F p o (d::a1) σ=Y9 F p o a1 (σ1.Qo o d.2.tx v false):=by rw[Y9,h]
theorem apZ {e:Er}{σ1:St}(h:F.v (Nz d 0) p σ=((v,e),σ1))(au:e≠.no):Y9 F p o (d::a1) σ=((vU,e),σ1):=by
 rw[Y9,h];exact aui
end
theorem akl (ae:Yh es)(aK:Ms w0 mb af aa w σ)(aJ:Sz N σ)(hN:N<1000000000){a:Ad}{d:Nd}(hd:Oa aa w a d)(hlen:d.2.kids.length<=1000000)(h1:∀ k ∈ O3 d,k.2.kids.length=1)(p:Pl)(aC:Option Addr)
  (P:St->Prop) (hP:P { σ with M:=σ.M.Oy 0 }) (bq:∀ k ∈ O3 d,∀ bO,P bO->RF w0 mb af aa es bO (Nz k 0) p (F.v (Nz k 0) p bO)/\∀ v σ1,F.v (Nz k 0) p bO=((v,.no),σ1)->Sz N σ1/\P (σ1.Qo σ.M.objs.length k.2.tx v false)) :
  NK 266 #[Nu mb,Nu a.p,OQ p aC] w (Oh w0 mb af aa es w (Y9 F p σ.M.objs.length (O3 d) { σ with M:=σ.M.Oy 0 })):=by
 have z:=kk (∀{G}(h:G:=by
 obtain⟨q,bo⟩:=xH a.p;obtain⟨ob,f9⟩:=xE ((σ.M.objs.length:Int):Int);obtain⟨qK,qD⟩:=xE ({ σ with M:=σ.M.Oy 0 }:St);obtain⟨a1,uB⟩:=xH (O3 d);obtain⟨cW,n5⟩:=xH a.ks;have il:cW.length=a1.length:=by rw[n5.out,uB.out,hd.ks,QI]
 rw[<-f9,<-qD,<-uB.out];rw[<-f9,<-uB.out] at bq;rw[<-qD] at hP;rw[<-uB.out] at h1;obtain⟨rs,fE⟩:=xH (Y9 F ⟨aq,aF,st⟩ ob a1 qK);rw[<-fE.out];have lE:NK 49 #[Nu mb,Nr 0] w2 fun e w'=>e=NU (Nr ob)/\Ms w0 mb af aa w' qK/\OB Th mb w2 w':=by
  obtain⟨_,_,_,_,ac⟩:=dj;refine(Zc ac aJ hN 0).mono ?_;rintro e w' ⟨rfl,O,ax⟩;rw[f9,qD];exact⟨rfl,⟨_,_,_,_,O⟩,ax⟩
 have od:=hide hP;have ah:=hide bq;have ut:=hide h1;have oa:=hide il;have DP:cW.length<=1000000:=by rw[n5.out,hd.ks];exact hlen
 rw[<-bo.out] at dL ⊢;clear bK hr2 ds cH d5 hP bq h1 f9 qD il;go_enter func266,ntmps266;go_wp2_with fail;rw[<-bu.out,<-b1,<-bU];clear bU b1;refine cm lE ?_;rintro e ao ⟨rfl,eV,f4⟩;have gh:=eV.lt;have sE:Om none mb w2 ao:=Om.ofT f4;have c8:=hide (sE.keep bj.out NH);have fi:=hide (sE.keep dF.out NH);have cV:=(da.trans sE);have xC:=cS.kp sE.SX;obtain⟨BI,c3,hrow,sK⟩:=QD.row xC.at_;obtain⟨cT,dO,aO⟩:=hrow.form;subst aO;rw[<-bo.out] at c3 sK;rw[<-n5.out] at c3 hrow;have fm:=xC.ndl
 rw[<-n5.out,<-uB.out] at fm;go_wp2_with fail;clear c3
 go_loopw [22] (fun i wr=>∃ (k:Nat) (dy:St),k<=cW.length/\i=Nr k/\Ms w0 mb af aa wr dy/\P dy/\Om none mb ao wr/\rs=Y9 F ⟨aq,aF,st⟩ ob (a1.drop k) dy) (fun i _=>cW.length - (intOf i).toNat)
 case atStart=>exact⟨0,qK,Nat.zero_le _,rfl,eV,od.out,Om.of P8 (Oi gh),fE.out⟩
 case round=>
  obtain⟨k,dy,E,rfl,aK,ld,ak,iJ⟩:=hrel;have hU:=aK;have l2:=hide ld;have iN:=hide iJ;have dc:=aK.lt;have qQ:=(cV.trans ak);have FH:=ak;have bj:=hide (ak.keep c8.out NH);have dF:=hide (ak.keep fi.out NH);have ga:=hide (cells4 dF.out);have hpl2:=lt_of_heap dF.out;clear ld iJ
  by_cases aQ:k<cW.length
  ·have bn:k<a1.length:=by rw[<-oa.out];exact aQ
   obtain⟨g,cap,ap,hg,ai,aA⟩:=(hrow.kp ak.SX).cell k aQ;have z:=kk (∀{G}(h:G:=by
   have jd:=(RV.get _ _ fm k aQ bn).kp ak.SX;obtain⟨ch,ij⟩:=Ns ah a1[k] (List.getElem_mem _) dy l2.out;have iQ:=Ns ut a1[k] (List.getElem_mem _);obtain⟨ce,cC,cap0,fS,dJ,fQ,_⟩:=jd.Xe (i:=0) Nw;rw[iQ] at fS;have bA:=hide (fun X (aj:NJ wr X)=>ch X ce aC (hU.later aj) (fQ.kp (Kp.of aj)));obtain⟨he,m'⟩:=xE ((cW[k]).p);obtain⟨kp,dd⟩:=xE ce.p;obtain⟨tx,lF⟩:=xH ((a1[k]).2.tx);have IX:=jd.cells.1;have gd:=jd.cells.2.2.1;have hblk:=jd.blk;rw[<-m'] at ai fS IX gd hblk;rw[<-lF.out] at gd
   rw[<-dd] at dJ bA
   rcases dh:F.v (Nz a1[k] 0) ⟨aq,aF,st⟩ dy with ⟨⟨v1,av⟩,σ1⟩
   rw[dh] at bA;have lA:=hide ij;have cZ:=hide dh;have lX:=hide (List.drop_eq_getElem_cons bn);have eB:=hide fS;have lz:=hide dJ;have mJ:=hide gd;have ly:=hide hblk;have dx:=cell_lt dJ;have cH:w.heap.size<=aR:=Ns cI;clear ij m' dd dh fS dJ gd hblk;go_wp2_with fail;clear ai;refine UC (H:=fun wz vb ev=>VB w0 mb af aa es wr v1 av σ1 wz vb ev) (G:=?GG) (fun dI=>?ways) ?rest
   case ways=>
    refine Rj 8 fun ab=>?_;refine up 0 mb 0 ab ?_;refine up 1 he 0 ab ?_;refine up 2 he 0 ab ?_;refine up 3 he 3 ab ?_;have z:=kk (∀{G}(h:G:=by
    refine uk4 7 ga.out ab ?_;refine uq2 8 12 (fun K A=>?_) fun K A=>?_
    ·have z:=kk (∀{G}(h:G:=by
     refine uz 14 ev ?_;exact ay9),G);exact ap0
    ·have z:=kk (∀{G}(h:G:=by
     have fe:aD.heap[wr.heap.size]? = some (Og #[Nr 0,Nr 0,OG] 65):=ak.keep (NG _ _) NH;have z:=kk (∀{G}(h:G:=by
     have z:=kk (∀{G}(h:G:=by
     have ch:=VB.early (v:=v1) fe OH (Oi dc) aI aK ((Om.of (OM.drew) (Oi dc)).trans ak);exact aza),G);exact ahf),G);exact ap1),G);exact ap2),G);exact amO
   rintro wz vb ev aN;have cR:=aN.fr.keep bj.out NH;have dU:=hide cR;obtain⟨cy,bQ,b5,dn,dp,dq,rl⟩:=Ot (cR);have ee:=aN.ms.lt;have ci:vb≠aR:=fun e=>by
    have h1:=aN.vb;have O:=lt_of_heap bj.out;omega
   have di:Om none mb w wz:=qQ.trans aN.fr;have eG:=hide (aN.fr.keep dF.out NH);clear cR
   by_cases au:av=.no
   ·subst au;have br:ev=Pe:=aN.er;subst br;obtain⟨b6,vx⟩:=Ns lA v1 σ1 cZ.out;rw[<-lF.out] at vx;have gz:=hide vx;have jl:=aN.ms;have gc:=hide (cells3 aN.v);have h7:=lt_of_heap aN.v;have n4:=hide (aN.fr.SX.Wx mJ.out ly.out);have g':=cell_lt n4.out;have FJ:=(FH.trans aN.fr);have pe:Hid (∀ X,NJ wz X->NK 56 #[Nu mb,Nr ob,ND tx,vA v1,NI false] X fun e w'=>(∃ c,e=NU (RY c))/\Ms w0 mb af aa w' (σ1.Qo ob tx v1 false)/\OB Th mb X w'):=fun X aj=>by
     obtain⟨_,_,_,_,ac⟩:=jl.later aj;refine(XP ac b6 hN ob tx v1 false).mono ?_;rintro e w' ⟨rfl,O,ax⟩;exact⟨⟨_,rfl⟩,⟨_,_,_,_,O⟩,ax⟩
    clear vx cy bQ b5 dn dp dq rl;go_wp2_with fail;refine Rj 9 fun ab=>?_;have z:=kk (∀{G}(h:G:=by
    refine uh 3 (Nr ob) (ab) ?_;refine up 4 he 0 ab ?_;refine up 5 he 0 ab ?_;refine up 6 he 1 ab ?_;refine uk 7 n4.out ab ?_;refine uk3 8 gc.out ab ?_;refine O0 9 fun K A=>?_;go_simp;refine cm (Ns pe _ ab) ?_;rintro e b' ⟨⟨c5,rfl⟩,tK,qg⟩;refine ko A ?_;clear A K;have gq:=(FJ.trans ((Om.of (L:=none) ab (Oi ee)).trans (Om.ofT qg)));refine QX ?_ _;go_simp;go_wp2_with fail
    go_roundw
    case rel=>
     refine⟨k+1,σ1.Qo ob tx v1 false,by omega,by go_num,tK,gz.out,gq,?_⟩;rw[iN.out,lX.out,apY cZ.out,<-lF.out]
    case measure=>simp[intOf];omega),G);exact RU
   ·obtain⟨et,ex,br⟩:=aN.er.Vs au ae;subst br;have aH:rs=((vU,av),σ1):=by rw[iN.out,lX.out];exact apZ cZ.out au
    have bD:=hide aH;clear au aH;have z:=kk (∀{G}(h:G:=by
    refine bodyPost_ret (v:=.tuple #[vA vU,.iface et ex]) (by simp[results,results266,go_sem,bi,aY,aX,vU]) rfl ?_;exact apO),G);exact apP),G);exact auj
  ·have cM:k=cW.length:=Nw;have aH:rs=((Rz ob,.no),dy):=by rw[iN.out,cM,oa.out,List.drop_length];rfl
   have cz:=hide aH;have hL:¬ (k:Int)<(cW.length:Int):=Nw;obtain⟨bL,dh⟩:=xE (Rz ob);have h3:=Yz ob wr;rw[<-dh] at h3;clear aH cM;go_wp2_with fail;refine cm h3 ?_;rintro e fq ⟨rfl,cp⟩;have d8:=hide (stays cp bj.out);have k6:=(hU.later cp);have jW:=(qQ.trans (Om.of (L:=none) cp (Oi dc)));have cZ:=hide dh;obtain⟨dm,bT,cY,my,mz,mA,nl⟩:=Ot d8.out;clear dh;have z:=kk (∀{G}(h:G:=by
   refine bodyPost_ret (v:=.tuple #[vA bL,Pe]) (by simp[results,results266,go_sem,bi,aY,aX]) rfl ?_;rw[cz.out,<-cZ.out];exact⟨⟨_,rfl,rfl⟩,bv,bx⟩),G);exact afi),G);exact VT
def aaU (F:Fx)(k:Nd)(p:Pl)(σ:St):(Va × Er) × St:=match Tc F (Nz k 0) p σ with
 | ((o,.no),σ1)=>let r:=σ1.M.cut o k.2.tx;if !r.1&&p.strict then ((vU,bad tType),{ σ1 with M:=r.2 }) else ((Pg r.1,.no),{ σ1 with M:=r.2 })
 | ((_,e),σ1)=>((vU,e),σ1)
section
variable (ae:Yh es) (aK:Ms w0 mb af aa w σ) {a:Ad} {d:Nd} (hd:Oa aa w a d) (E:d.2.kids.length=1) (p:Pl) (aC:Option Addr) (h1:RF w0 mb af aa es σ (Nz d 0) p (F.v (Nz d 0) p σ)) (aJ:∀ o σ1,Tc F (Nz d 0) p σ=((o,.no),σ1)->Sz N σ1) (hN:N<1000000000)
include ae aK a d hd E p aC h1 aJ hN
theorem amI :
  NK 264 #[Nu mb,Nu a.p,OQ p aC] w (Oh w0 mb af aa es w (akc F d p σ)):=by
 have z:=kk (∀{G}(h:G:=by
 have z:=kk (∀{G}(h:G:=by
 have z:=kk (∀{G}(h:G:=by
 obtain⟨rs,bD⟩:=xH (akc F d ⟨aq,aF,st⟩ σ);have z:=kk (∀{G}(h:G:=by
 rcases U:Tc F (Nz d 0) ⟨aq,aF,st⟩ σ with ⟨⟨bG,av⟩,σ1⟩
 have z:=kk (∀{G}(h:G:=by
 have bY:=hide U;have dN:=hide aJ;clear bK hr2 U h1 ds cH d5 fS dJ dd aJ;go_enter func264,ntmps264;have z:=kk (∀{G}(h:G:=by
 have z:=kk (∀{G}(h:G:=by
 have z:=kk (∀{G}(h:G:=by
 have pV:=(cS.kp oG.SX);have ee:=g6.lt;obtain⟨cy,bQ,b5,dn,dp,dq,rl⟩:=Ot dU.out
 by_cases au:av=.no
 ·have z:=kk (∀{G}(h:G:=by
  obtain⟨v2,eT⟩:=xE (((σ1.M.prop bG tx).map Pr.v).getD vU);have xW:al9 (σ1.M.prop bG tx)=vA v2:=by
   rw[eT]
   cases σ1.M.prop bG tx <;> rfl
  obtain⟨jo,py⟩:=xE ((σ1.M.prop bG tx).isSome);have gU:Hid (∀ X,NJ wz X->NK 124 #[Nu mb,Nr bG,ND tx] X fun e w'=>e=NU (.tuple #[vA v2,NI jo])/\NJ X w'):=fun X aj=>by
   obtain⟨_,_,_,_,ac⟩:=g6.later aj;have h:=ays ac.hh b6.go.sm (Oi hN) bG tx;rw[xW,<-py] at h;exact h
  have aH:rs=((v2,.no),σ1):=by rw[bD.out];unfold akc;rw[bY.out,eT,cD]
  have cz:=hide aH;clear c1 cD eT xW py aH;go_simp;go_wp2_with fail;refine UC (H:=fun fy vb ev=>VB w0 mb af aa es wz v2 .no σ1 fy vb Pe/\ev=NI jo) (G:=?GG) (fun dI=>?ways) ?rest
  case ways=>
   refine Rj 8 fun ab=>?_;have z:=kk (∀{G}(h:G:=by
   refine uh 3 (Nr bG) (ab) ?_;have z:=kk (∀{G}(h:G:=by
   refine uq2 8 12 (fun K A=>?_) fun K A=>?_
   ·go_simp;refine cm (Ns gU _ ab) ?_;rintro e aD ⟨rfl,i'⟩;refine ko A ?_;clear A K;have aI:U4 es aD Pe .no:=rfl;have aK:=(g6.later (ab)).later i';have ak:=Om.of (L:=none) (B:=mb) i' (Oi (Ms.lt (g6.later (ab))));refine uz 9 (.tuple #[(vA v2),NI jo]) ?_;refine uz 10 (vA v2) ?_;refine uz 11 (NI jo) ?_;refine O0 12 fun K A=>?_;go_simp;refine ko A ?_;clear A K;refine O0 13 fun K A=>?_;go_simp;refine ko A ?_;clear A K;refine uz 14 (NI jo) ?_;refine QX ?_ _;go_simp
    have ch:=VB.late (v:=v2) aI aK ((Om.of ab (Oi ee)).trans ak)
    generalize aD.alloc (.cells #[Nr v2.k,Nr v2.n,ND v2.s] 65)=fy at ch ⊢
    generalize aD.heap.size=vb at ch ⊢
    generalize br:Value.bool jo=ev
    exact dI fy vb ev ⟨ch,br.symm⟩
   ·have bP:=kk (∀{G}(h:G:=by
    refine cm (Ns gU _ (OM.drew)) ?_;rintro e aD ⟨rfl,i'⟩;refine ko A ?_;clear A K;have aI:U4 es aD Pe .no:=rfl;have aK:=(g6.later (OM.drew)).later i';have ak:=Om.of (L:=none) (B:=mb) i' (Oi (Ms.lt (g6.later (OM.drew))));have fe:aD.heap[wz.heap.size]? = some (Og #[Nr 0,Nr 0,OG] 65):=ak.keep (NG _ _) NH;obtain⟨z0,mC,z2,mD,mE,mF,zl⟩:=Ot fe;refine uz 9 (.tuple #[(vA v2),NI jo]) ?_;refine uz 10 (vA v2) ?_;refine uz 11 (NI jo) ?_;refine O0 13 fun K A=>?_;go_simp;refine ko A ?_;clear A K
    refine uz 14 (NI jo) ?_;refine QX ?_ _;go_simp;have ch:=VB.early (v:=v2) fe OH (Oi ee) aI aK ((Om.of (OM.drew) (Oi ee)).trans ak)
    generalize ((aD.setCell (Nv wz.heap.size 0) (Nr v2.k)).setCell (Nv wz.heap.size 1) (Nr v2.n)).setCell (Nv wz.heap.size 2) (ND v2.s)=fy at ch ⊢
    generalize wz.heap.size=vb at ch ⊢
    generalize br:Value.bool jo=ev
    exact dI fy vb ev ⟨ch,br.symm⟩),G);exact ztt),G);exact apR),G);exact RU
  rintro fy vb ev ⟨aN,rfl⟩;have Cs:=hide (aN.fr.keep dU.out NH);have FK:=(di.trans aN.fr);have F7:=aN.ms;have L3:=aN.ms.lt;obtain⟨hk,gn,gp,ib,ic,id,hm⟩:=Ot Cs.out;obtain⟨e',cj,dD,hf,hi,hj,g5⟩:=Ot (aN.v);clear cy bQ b5 dn dp dq rl;go_wp2_with fail;obtain⟨b3,bz,bb,bx,bv,bi,aY,aX⟩:=rt3 Cs.out cI.out bI FK F7 (Nr v2.k) (Nr v2.n) (ND v2.s);rw[<-bz];refine bodyPost_ret (v:=.tuple #[vA v2,Pe]) (by simp[results,results264,go_sem,bi,aY,aX]) rfl ?_;rw[cz.out];exact⟨⟨_,rfl,rfl⟩,bv,bx⟩),G);exact ayU
 ·obtain⟨et,ex,br⟩:=aI.Vs au ae;subst br;have aH:rs=((vU,av),σ1):=by
   rw[bD.out];unfold akc;rw[bY.out];exact XJ
  have bJ:=hide aH;clear au aH;go_simp;have z:=kk (∀{G}(h:G:=by
  refine bodyPost_ret (v:=.tuple #[vA vU,.iface et ex]) (by simp[results,results264,go_sem,bi,aY,aX,vU]) rfl ?_;rw[bJ.out];exact⟨⟨_,rfl,rQ.O6 bb NH⟩,bv,bx⟩),G);exact apS),G);exact aub),G);exact U5),G);exact apT),G);exact amJ),G);exact amK),G);exact auc),G);exact abW),G);exact VT
theorem aaV :
  NK 298 #[Nu mb,Nu a.p,OQ p aC] w (Oh w0 mb af aa es w (aaU F d p σ)):=by
 have z:=kk (∀{G}(h:G:=by
 have z:=kk (∀{G}(h:G:=by
 have z:=kk (∀{G}(h:G:=by
 obtain⟨rs,bD⟩:=xH (aaU F d ⟨aq,aF,st⟩ σ);have z:=kk (∀{G}(h:G:=by
 rcases U:Tc F (Nz d 0) ⟨aq,aF,st⟩ σ with ⟨⟨bG,av⟩,σ1⟩
 have z:=kk (∀{G}(h:G:=by
 have bY:=hide U;have dN:=hide aJ;clear bK hr2 U h1 ds cH d5 fS dJ dd aJ;go_enter func298,ntmps298;have z:=kk (∀{G}(h:G:=by
 have z:=kk (∀{G}(h:G:=by
 have z:=kk (∀{G}(h:G:=by
 have pV:=(cS.kp oG.SX);have ee:=g6.lt;obtain⟨cy,bQ,b5,dn,dp,dq,rl⟩:=Ot dU.out
 by_cases au:av=.no
 ·have z:=kk (∀{G}(h:G:=by
  obtain⟨jo,py⟩:=xE ((σ1.M.cut bG tx).1);obtain⟨ck,f'⟩:=xE ({ σ1 with M:=(σ1.M.cut bG tx).2 }:St);have gU:Hid (∀ X,NJ wz X->NK 315 #[Nu mb,Nr bG,ND tx] X fun e w'=>e=NU (NI jo)/\Ms w0 mb af aa w' ck/\OB Th mb X w'):=fun X aj=>by
   obtain⟨_,_,_,_,ac⟩:=g6.later aj;refine(arQ ac.hh b6.go.ok b6.go.sm (Oi hN) bG tx).mono ?_;rintro e w' ⟨rfl,O,ax⟩;rw[f',py];exact⟨rfl,⟨_,_,_,_,ac.heap O ax⟩,ax⟩
  have aH:rs=if !jo&&st then ((vU,bad tType),ck) else ((Pg jo,.no),ck):=by rw[bD.out];unfold aaU;rw[bY.out,f',py,cD]
  have cz:=hide aH;clear c1 cD f' py aH;go_simp;go_wp2_with fail;refine Rj 8 fun ab=>?_;have z:=kk (∀{G}(h:G:=by
  refine uh 3 (Nr bG) (ab) ?_;have z:=kk (∀{G}(h:G:=by
  refine O0 8 fun K A=>?_;go_simp;refine cm (Ns gU _ ab) ?_;rintro e bB ⟨rfl,zT,zR⟩;refine ko A ?_;clear A K;have h2:=(Om.of (L:=none) ab (Oi ee)).trans (Om.ofT zR);have gA:=hide (h2.keep dU.out NH);have fI:=(di.trans h2);obtain⟨aW,p1,cr,cL,_,dY⟩:=cells4 (h2.keep eG.out NH);have gx:=zT.lt;obtain⟨hk,gn,gp,ib,ic,id,hm⟩:=Ot gA.out;clear cy bQ b5 dn dp dq rl;refine uz 9 (NI jo) ?_;refine QX ?_ _;go_simp
  cases jo with
  | true=>
   go_wp2_with fail;obtain⟨bL,dh⟩:=xE (Pg true);have h3:=UA true bB;exact ayV
  | false=>
   cases st with
   | true=>
    go_wp2_with fail;refine cm (TA (es:=es) gx tType) ?_;rintro e gS ⟨⟨ev,rfl,aI⟩,g0⟩;have nB:=hide (stays g0 gA.out);have oc:=(zT.later g0);have n7:=(fI.trans (Om.of (L:=none) g0 (Oi gx)));obtain⟨dm,bT,cY,my,mz,mA,nl⟩:=Ot nB.out;clear hk gn gp ib ic id hm aW p1 cr cL dY;have z:=kk (∀{G}(h:G:=by
    refine bodyPost_ret (v:=.tuple #[vA vU,ev]) (by simp[results,results298,go_sem,bi,aY,aX,vU]) rfl ?_;have aH:rs=((vU,bad tType),ck):=by rw[cz.out];rfl
    rw[aH];exact⟨⟨_,rfl,aI.O6 bb NH⟩,bv,bx⟩),G);exact apM
   | false=>
    go_wp2_with fail;obtain⟨bL,dh⟩:=xE (Pg false);have h3:=UA false bB;exact ayV),G);exact apR),G);exact RU),G);exact ayU
 ·obtain⟨et,ex,br⟩:=aI.Vs au ae;subst br;have aH:rs=((vU,av),σ1):=by
   rw[bD.out];unfold aaU;rw[bY.out];exact XJ
  have bJ:=hide aH;clear au aH;go_simp;have z:=kk (∀{G}(h:G:=by
  refine bodyPost_ret (v:=.tuple #[vA vU,.iface et ex]) (by simp[results,results298,go_sem,bi,aY,aX,vU]) rfl ?_;rw[bJ.out];exact⟨⟨_,rfl,rQ.O6 bb NH⟩,bv,bx⟩),G);exact apS),G);exact aub),G);exact U5),G);exact apT),G);exact amJ),G);exact amK),G);exact auc),G);exact abW),G);exact VT
end
theorem ahc (aK:Ms w0 mb af aa w σ)(v:Va):NK 296 #[Nu mb,vA v] w fun e w'=>e=NU (ND (Ul σ.M v))/\NJ w w':=by
 obtain⟨_,_,_,_,ac⟩:=aK;have bI:=ac.lt;have aE:=(Below.refl w.heap.size w).alloc OH (.cells #[Nr v.k,Nr v.n,ND v.s] 65);obtain⟨k,n,t⟩:=v
 by_cases ce:k=0
 ·subst ce;have av:Ul σ.M ⟨0,n,t⟩=Qx:=rfl;exact amL
 by_cases dB:k=2
 ·subst dB;have av:Ul σ.M ⟨2,n,t⟩=afe:=rfl;exact amL
 by_cases ir:k=3
 ·subst ir;have av:Ul σ.M ⟨3,n,t⟩=aiJ:=rfl;exact amL
 by_cases k4:k=4
 ·subst k4;have av:Ul σ.M ⟨4,n,t⟩=aiK:=rfl;exact amL
 by_cases mx:k=5
 ·subst mx;obtain⟨c,ai⟩:=xE (σ.M.codeOf n);obtain⟨w2,bu⟩:=xH (w.alloc (.cells #[Nr 5,Nr n,ND t] 65));have bm:NJ w w2:=by rw[bu.out];exact aE
  obtain⟨vb,aN⟩:=xE w.heap.size;have eT:w2.heap[vb]? = some (Og #[Nr 5,Nr n,ND t] 65):=by rw[bu.out,aN];exact NG _ _
  have gc:=hide (cells3 eT);have h7:=lt_of_heap eT;have n3:=hide (fun X (aj:NJ w2 X)=>ag8 ((ac.later bm).later aj).hh n);rw[<-ai] at n3;have dc:=(ac.later bm).lt
  by_cases c0:c=0
  ·have av:Ul σ.M ⟨5,n,t⟩=XB:=by unfold Ul;rw[<-ai,c0];rfl
   rw[av];rw[c0] at n3;clear av ai c0 ce dB ir k4 eT;go_enter func296,ntmps296;go_wp2_with fail;rw[<-bu.out,<-aN];clear aN;refine Rj 5 fun ab=>?_;have z:=kk (∀{G}(h:G:=by
   have z:=kk (∀{G}(h:G:=by
   refine uz 6 (NI false) ?_;refine QX ?_ _;have jU:=(bm.trans (ab.mono bm.size));go_simp;go_wp2_with fail;go_ret;exact⟨rfl,jU⟩),G);exact ayW),G);exact RU
  ·have av:Ul σ.M ⟨5,n,t⟩=Ol:=by unfold Ul;rw[<-ai];simp[c0]
   rw[av];clear av ai ce dB ir k4 eT;go_enter func296,ntmps296;go_wp2_with fail;rw[<-bu.out,<-aN];clear aN;refine Rj 5 fun ab=>?_;have z:=kk (∀{G}(h:G:=by
   have z:=kk (∀{G}(h:G:=by
   refine uz 6 (NI true) ?_;refine QX ?_ _;have jU:=(bm.trans (ab.mono bm.size));go_simp;go_wp2_with fail;go_ret;exact⟨rfl,jU⟩),G);exact ayW),G);exact RU
 have av:Ul σ.M ⟨k,n,t⟩=XB:=by unfold Ul;simp[ce,dB,ir,k4,mx]
 exact amL
def adu (F:Fx)(d:Nd)(p:Pl)(σ:St):(Va × Er) × St:=
 if (Nz d 0).2.kd=23/\σ.M.find p.scope (Nz d 0).2.tx = -1 then ((U1 Qx,.no),σ)
 else match F.v (Nz d 0) p σ with
  | ((v,.no),σ1)=>((U1 (Ul σ1.M v),.no),σ1)
  | ((_,e),σ1)=>((vU,e),σ1)
def afj (r:(Va × Er) × St):(Va × Er) × St:=match r with
  | ((v,.no),σ1)=>((U1 (Ul σ1.M v),.no),σ1)
  | ((_,e),σ1)=>((vU,e),σ1)
def apU (r:(Va × Er) × St):(Va × Er) × St:=match r with
  | ((_,.no),σ1)=>((Pg true,.no),σ1)
  | ((_,e),σ1)=>((vU,e),σ1)
theorem ahd (_:Yh es)(aK:Ms w0 mb af aa w σ){a:Ad}{d:Nd}(hd:Oa aa w a d)(E:d.2.kids.length=1)(p:Pl)(aC:Option Addr)(h1:RF w0 mb af aa es σ (Nz d 0) p (F.v (Nz d 0) p σ))(bn:(Nz d 0).2.kd=23)(aG:σ.M.find p.scope (Nz d 0).2.tx = -1)(aJ:Sz N σ)(hN:N<1000000000) :
  NK 261 #[Nu mb,Nu a.p,OQ p aC] w (Oh w0 mb af aa es w (((U1 Qx,.no),σ))):=by
 have z:=kk (∀{G}(h:G:=by
 have z:=kk (∀{G}(h:G:=by
 have z:=kk (∀{G}(h:G:=by
 have gf:σ.M.find aq tx = -1:=by rw[cD];exact aG
 rw[gf] at ho;obtain⟨rs,bD⟩:=xH (((U1 Qx,Er.no),σ));rw[<-bD.out];have z:=kk (∀{G}(h:G:=by
 refine uz 16 (NI true) ?_;refine uz 17 (NI true) ?_;refine QX ?_ _;go_simp;have jD:=(dj.later cn);have jm:=hide (stays cn bj.out);have lY:=(da.trans (Om.of (L:=none) cn (Oi dc)));have oM:=jD.lt;go_wp2_with fail;obtain⟨bL,cZ⟩:=xH (U1 Qx);have h3:=YA Qx ea;rw[<-cZ.out] at h3;refine cm h3 ?_;rintro e fq ⟨rfl,cp⟩;have d8:=hide (stays cp jm.out);have k6:=(jD.later cp);have jW:=(lY.trans (Om.of (L:=none) cp (Oi oM)));obtain⟨dm,bT,cY,my,mz,mA,nl⟩:=Ot d8.out
 have z:=kk (∀{G}(h:G:=by
 refine bodyPost_ret (v:=.tuple #[vA bL,Pe]) (by simp[results,results261,go_sem,bi,aY,aX]) rfl ?_;have aH:rs=((bL,.no),σ):=by rw[bD.out,cZ.out]
 rw[aH];exact⟨⟨_,rfl,rfl⟩,bv,bx⟩),G);exact afi),G);exact ayX),G);exact ayY),G);exact akg),G);exact VT
section
variable (ae:Yh es) (aK:Ms w0 mb af aa w σ) {a:Ad} {d:Nd} (hd:Oa aa w a d) (E:d.2.kids.length=1) (p:Pl) (aC:Option Addr) (h1:RF w0 mb af aa es σ (Nz d 0) p (F.v (Nz d 0) p σ))
include ae aK a d hd E p aC h1
theorem akh (bn:(Nz d 0).2.kd=23)(aG:¬ σ.M.find p.scope (Nz d 0).2.tx = -1)(aJ:Sz N σ)(hN:N<1000000000) :
  NK 261 #[Nu mb,Nu a.p,OQ p aC] w (Oh w0 mb af aa es w (afj (F.v (Nz d 0) p σ))):=by
 have z:=kk (∀{G}(h:G:=by
 have z:=kk (∀{G}(h:G:=by
 have z:=kk (∀{G}(h:G:=by
 have gf:¬ σ.M.find aq tx = -1:=by rw[cD];exact aG
 obtain⟨kM,mj⟩:=xE (σ.M.find aq tx);rw[<-mj] at ho gf;clear mj;have z:=kk (∀{G}(h:G:=by
 have z:=kk (∀{G}(h:G:=by
 refine uz 16 (NI false) ?_;refine uz 17 (NI false) ?_;refine QX ?_ _;go_simp;exact ayZ),G);exact ayX),G);exact ay0),G);exact ayY),G);exact akg),G);exact VT
theorem adv (bn:¬ (Nz d 0).2.kd=23) :
  NK 261 #[Nu mb,Nu a.p,OQ p aC] w (Oh w0 mb af aa es w (afj (F.v (Nz d 0) p σ))):=by
 have z:=kk (∀{G}(h:G:=by
 have z:=kk (∀{G}(h:G:=by
 obtain⟨kd,ri⟩:=xE ((Nz d 0).2.kd);rw[<-ri] at oK ma bn;clear ri;obtain⟨tx,cD⟩:=xE ((Nz d 0).2.tx);rw[<-cD] at gd;have z:=kk (∀{G}(h:G:=by
 have z:=kk (∀{G}(h:G:=by
 clear bK hr2 ds cH d5 dd cD ma gd;go_enter func261,ntmps261;go_wp2_with fail;rw[<-bu.out,<-b1,<-bU];clear bU b1;refine Rj 17 fun ab=>?_;refine up 0 kp 0 ab ?_;refine up 1 kp 0 ab ?_;refine up 2 kp 0 ab ?_;refine uk 3 yC.out ab ?_;refine uh 4 (NI false) (ab) ?_;refine uh 5 (NI false) (ab) ?_;have z:=kk (∀{G}(h:G:=by
 refine uh 11 undef (ab) ?_ (hy:=Or.inr ⟨by kernel_rfl,rfl⟩);refine uh 12 undef (ab) ?_ (hy:=Or.inr ⟨by kernel_rfl,rfl⟩);refine uh 13 undef (ab) ?_ (hy:=Or.inr ⟨by kernel_rfl,rfl⟩);refine uh 14 undef (ab) ?_ (hy:=Or.inr ⟨by kernel_rfl,rfl⟩);refine uh 15 undef (ab) ?_ (hy:=Or.inr ⟨by kernel_rfl,rfl⟩);refine uh 16 undef (ab) ?_ (hy:=Or.inr ⟨by kernel_rfl,rfl⟩);refine O0 17 fun K A=>?_;go_simp;refine ko A ?_;clear A K;refine QX ?_ _;obtain⟨ea,h8⟩:=xE w2.drew;have cn:NJ w2 ea:=by rw[h8];exact ab
 go_simp;rw[<-h8];clear h8;exact ayZ),G);exact aud),G);exact apV),G);exact ay0),G);exact akg),G);exact VT
end
theorem afk (aK:Ms w0 mb af aa w σ){a:Ad}{d:Nd}(hd:Oa aa w a d)(E:d.2.kids.length=1)(p:Pl)(aC:Option Addr)(bn:(Nz d 0).2.kd=23)(aJ:Sz N σ)(hN:N<1000000000) :
  NK 262 #[Nu mb,Nu a.p,OQ p aC] w (Oh w0 mb af aa es w (((Pg (σ.M.drop (σ.M.find p.scope (Nz d 0).2.tx) (Nz d 0).2.tx).1,.no),{ σ with M:=(σ.M.drop (σ.M.find p.scope (Nz d 0).2.tx) (Nz d 0).2.tx).2 }))):=by
 have z:=kk (∀{G}(h:G:=by
 have z:=kk (∀{G}(h:G:=by
 rw[bn] at oK ma;obtain⟨tx,cD⟩:=xE ((Nz d 0).2.tx);rw[<-cD] at gd;obtain⟨kM,mj⟩:=xE (σ.M.find aq tx);have ho:Hid (∀ X,NJ w2 X->NK 195 #[Nu mb,Nr aq,ND tx] X fun e w'=>e=NU (Nr kM)/\NJ X w'):=fun X aj=>by
  obtain⟨_,_,_,_,ac⟩:=dj.later aj;rw[mj];exact adl ac.hh aJ.go.ok aJ.go.sm (Oi hN) aq tx
 obtain⟨jo,py⟩:=xE ((σ.M.drop kM tx).1);obtain⟨σ1,h9⟩:=xE ({ σ with M:=(σ.M.drop kM tx).2 }:St);have lX:Hid (∀ X,NJ w2 X->NK 297 #[Nu mb,Nr kM,ND tx] X fun e w'=>e=NU (NI jo)/\Ms w0 mb af aa w' σ1/\OB Th mb X w'):=fun X aj=>by
  obtain⟨_,_,_,_,ac⟩:=dj.later aj;refine(atK ac.hh aJ.go.ok aJ.go.sm (Oi hN) kM tx).mono ?_;rintro e w' ⟨rfl,O,ax⟩;rw[h9,py];exact⟨rfl,⟨_,_,_,_,ac.heap O ax⟩,ax⟩
 obtain⟨rs,bD⟩:=xH (((Pg jo,Er.no),σ1));have kU:((Pg (σ.M.drop (σ.M.find (Pl.mk aq aF st).scope (Nz d 0).2.tx) (Nz d 0).2.tx).1,Er.no),({ σ with M:=(σ.M.drop (σ.M.find (Pl.mk aq aF st).scope (Nz d 0).2.tx) (Nz d 0).2.tx).2 }:St))=rs:=by rw[bD.out,py,h9,mj,cD]
 rw[kU];clear kU py h9 mj;have z:=kk (∀{G}(h:G:=by
 obtain⟨aW,p1,cr,cL,_,dY⟩:=cells4 bK;clear bK hr2 ds cH d5 dd cD ma gd bn;go_enter func262,ntmps262;go_wp2_with fail;rw[<-bu.out,<-b1,<-bU];clear bU b1;clear aW p1 cr cL dY;refine Rj 17 fun ab=>?_;have z:=kk (∀{G}(h:G:=by
 refine up 3 mb 0 ab ?_;refine up 4 mb 0 ab ?_;refine up 5 mb 0 ab ?_;refine up 6 bc 0 ab ?_;refine uk 7 (ga.out.1) ab ?_;refine up 8 kp 0 ab ?_;refine up 9 kp 0 ab ?_;refine up 10 kp 1 ab ?_;refine uk 11 mJ.out ab ?_;refine up 13 kp 0 ab ?_;refine up 14 kp 0 ab ?_;refine up 15 kp 1 ab ?_;refine uk 16 mJ.out ab ?_;refine O0 12 fun K A=>?_;go_simp;refine cm (Ns ho _ ab) ?_;rintro e ea ⟨rfl,bm⟩;have cn:NJ w2 ea:=ab.trans bm;refine A.out _ _ (fun _=>cn) ?_;clear A K;refine O0 17 fun K A=>?_;go_simp
 refine cm (Ns lX _ cn) ?_;rintro e aD ⟨rfl,gY,gu⟩;refine ko A ?_;clear A K;have jJ:=(Om.of (L:=none) cn (Oi dc)).trans (Om.ofT gu);have dG:=hide (jJ.keep bj.out NH);have fc:=(da.trans jJ);have ht:=gY.lt;refine O0 18 fun K A=>?_;go_simp;refine cm (UA jo aD) ?_;rintro e fq ⟨rfl,cp⟩;refine ko A ?_;clear A K;obtain⟨bL,cZ⟩:=xH (Pg jo);rw[<-cZ.out];have d8:=hide (stays cp dG.out);have k6:=(gY.later cp);have jW:=(fc.trans (Om.of (L:=none) cp (Oi ht)))
 obtain⟨dm,bT,cY,my,mz,mA,nl⟩:=Ot d8.out;refine O0 19 fun K A=>?_;go_simp;refine ko A ?_;clear A K;refine uz 20 Pe ?_;refine QX ?_ _;go_simp;have z:=kk (∀{G}(h:G:=by
 refine bodyPost_ret (v:=.tuple #[vA bL,Pe]) (by simp[results,results262,go_sem,bi,aY,aX]) rfl ?_;have aH:rs=((bL,.no),σ1):=by rw[bD.out,cZ.out]
 rw[aH];exact⟨⟨_,rfl,rfl⟩,bv,bx⟩),G);exact afi),G);exact RU),G);exact apV),G);exact akg),G);exact VT
section
variable (ae:Yh es) (aK:Ms w0 mb af aa w σ) {a:Ad} {d:Nd} (hd:Oa aa w a d) (E:d.2.kids.length=1) (p:Pl) (aC:Option Addr)
include ae aK a d hd E p aC
theorem afl (bn:(Nz d 0).2.kd=36)(iP:(Nz d 0).2.kids.length=1)(O:RF w0 mb af aa es σ (Nz (Nz d 0) 0) p (F.v (Nz (Nz d 0) 0) p σ))(aJ:∀ o σ1,Tc F (Nz (Nz d 0) 0) p σ=((o,.no),σ1)->Sz N σ1)(hN:N<1000000000) :
  NK 262 #[Nu mb,Nu a.p,OQ p aC] w (Oh w0 mb af aa es w (aaU F (Nz d 0) p σ)):=by
 have z:=kk (∀{G}(h:G:=by
 have z:=kk (∀{G}(h:G:=by
 rw[bn] at oK ma;obtain⟨tx,cD⟩:=xE ((Nz d 0).2.tx);rw[<-cD] at gd;have bA:=(aaV ae dj m0 iP ⟨aq,aF,st⟩ aC O aJ hN);obtain⟨rs,d6⟩:=xE (aaU F (Nz d 0) ⟨aq,aF,st⟩ σ);rw[<-d6,<-dd] at bA;rw[<-d6];clear d6;have z:=kk (∀{G}(h:G:=by
 obtain⟨aW,p1,cr,cL,_,dY⟩:=cells4 bK;clear bK hr2 ds cH d5 dd cD ma gd bn aJ iP;have z:=kk (∀{G}(h:G:=by
 obtain⟨v9,jn⟩:=xH rs.1.1;rw[<-jn.out];obtain⟨cy,bQ,b5,dn,dp,dq,rl⟩:=Ot dG.out;clear aW p1 cr cL dY;go_wp2_with fail;obtain⟨b3,bz,bb,bx,bv,bi,aY,aX⟩:=rt3 dG.out cI.out bI fc gY (Nr v9.k) (Nr v9.n) (ND v9.s);rw[<-bz];refine bodyPost_ret (v:=.tuple #[vA v9,ev]) (by simp[results,results262,go_sem,bi,aY,aX]) rfl ?_;exact⟨⟨_,by rw[jn.out],aI.O6 bb NH⟩,bv,bx⟩),G);exact ay1),G);exact apV),G);exact akg),G);exact VT
theorem adw (h1:RF w0 mb af aa es σ (Nz d 0) p (F.v (Nz d 0) p σ))(bn:¬ (Nz d 0).2.kd=23)(rj:¬ (Nz d 0).2.kd=36) :
  NK 262 #[Nu mb,Nu a.p,OQ p aC] w (Oh w0 mb af aa es w (apU (F.v (Nz d 0) p σ))):=by
 have z:=kk (∀{G}(h:G:=by
 have z:=kk (∀{G}(h:G:=by
 obtain⟨kd,ri⟩:=xE ((Nz d 0).2.kd);rw[<-ri] at oK ma bn rj;clear ri;obtain⟨tx,cD⟩:=xE ((Nz d 0).2.tx);rw[<-cD] at gd
 rcases U:F.v (Nz d 0) ⟨aq,aF,st⟩ σ with ⟨⟨v1,av⟩,σ1⟩
 have bA:=(h1 w2 ce aC dj m0);rw[U] at bA;rw[<-dd] at bA;obtain⟨rs,bD⟩:=xH (apU ((v1,av),σ1));rw[<-bD.out];clear U;have z:=kk (∀{G}(h:G:=by
 obtain⟨aW,p1,cr,cL,_,dY⟩:=cells4 bK;clear bK hr2 ds cH d5 dd cD ma gd;have z:=kk (∀{G}(h:G:=by
 have ht:=gY.lt;clear aW p1 cr cL dY
 by_cases au:av=.no
 ·subst au;have br:ev=Pe:=aI;subst br;go_wp2_with fail;obtain⟨wd,e7⟩:=xE (aD.alloc (.cells #[Nr v1.k,Nr v1.n,ND v1.s] 65));have z:=kk (∀{G}(h:G:=by
  try rw[<-e7]
  clear e7;obtain⟨bL,cZ⟩:=xH (Pg true);have h3:=UA true wd;rw[<-cZ.out] at h3;refine cm h3 ?_;rintro e fq ⟨rfl,cp⟩;have d8:=hide (stays cp hW.out);have k6:=(l0.later cp);have jW:=(uE.trans (Om.of (L:=none) cp (Oi tV)));obtain⟨dm,bT,cY,my,mz,mA,nl⟩:=Ot d8.out;have z:=kk (∀{G}(h:G:=by
  refine bodyPost_ret (v:=.tuple #[vA bL,Pe]) (by simp[results,results262,go_sem,bi,aY,aX]) rfl ?_;have aH:rs=((bL,.no),σ1):=by rw[bD.out,cZ.out];rfl
  rw[aH];exact⟨⟨_,rfl,rfl⟩,bv,bx⟩),G);exact afi),G);exact aue
 ·obtain⟨et,ex,br⟩:=aI.Vs au ae;subst br;have aH:rs=((vU,av),σ1):=by
   rw[bD.out];unfold apU;exact XJ
  have z:=kk (∀{G}(h:G:=by
  refine bodyPost_ret (v:=.tuple #[vA vU,.iface et ex]) (by simp[results,results262,go_sem,bi,aY,aX,vU]) rfl ?_;rw[bJ.out];exact⟨⟨_,rfl,mW⟩,bv,bx⟩),G);exact ay2),G);exact ay1),G);exact apV),G);exact akg),G);exact VT
theorem amM (h1:RF w0 mb af aa es σ (Nz d 0) p (F.v (Nz d 0) p σ))(iP:(Nz d 0).2.kd=36->(Nz d 0).2.kids.length=1)(O:(Nz d 0).2.kd=36->RF w0 mb af aa es σ (Nz (Nz d 0) 0) p (F.v (Nz (Nz d 0) 0) p σ))(aJ:Sz N σ)(cq:(Nz d 0).2.kd=36->∀ o σ1,Tc F (Nz (Nz d 0) 0) p σ=((o,.no),σ1)->Sz N σ1)(hN:N<1000000000) :
  NK 262 #[Nu mb,Nu a.p,OQ p aC] w (Oh w0 mb af aa es w (aaR F d p σ)):=by
 by_cases c1:(Nz d 0).2.kd=23
 ·have av:aaR F d p σ=((Pg (σ.M.drop (σ.M.find p.scope (Nz d 0).2.tx) (Nz d 0).2.tx).1,.no),{ σ with M:=(σ.M.drop (σ.M.find p.scope (Nz d 0).2.tx) (Nz d 0).2.tx).2 }):=by
   unfold aaR
   dsimp only
   rw[if_pos c1]
  rw[av];exact afk aK hd E p aC c1 aJ hN
 ·by_cases c2:(Nz d 0).2.kd=36
  ·have av:aaR F d p σ=aaU F (Nz d 0) p σ:=by
    unfold aaR
    dsimp only
    rw[if_neg c1,if_pos c2];rfl
   rw[av];exact afl ae aK hd E p aC c2 (iP c2) (O c2) (cq c2) hN
  ·have av:aaR F d p σ=apU (F.v (Nz d 0) p σ):=by
    unfold aaR
    dsimp only
    rw[if_neg c1,if_neg c2];rfl
   rw[av];exact adw ae aK hd E p aC h1 c1 c2
theorem amN (h1:RF w0 mb af aa es σ (Nz d 0) p (F.v (Nz d 0) p σ))(aJ:Sz N σ)(hN:N<1000000000) :
  NK 261 #[Nu mb,Nu a.p,OQ p aC] w (Oh w0 mb af aa es w (adu F d p σ)):=by
 by_cases c1:(Nz d 0).2.kd=23
 ·by_cases c2:σ.M.find p.scope (Nz d 0).2.tx = -1
  ·have av:adu F d p σ=((U1 Qx,.no),σ):=by unfold adu;rw[if_pos ⟨c1,c2⟩]
   rw[av];exact ahd ae aK hd E p aC h1 c1 c2 aJ hN
  ·have av:adu F d p σ=afj (F.v (Nz d 0) p σ):=by unfold adu afj;rw[if_neg (fun h=>c2 h.2)]
   rw[av];exact akh ae aK hd E p aC h1 c1 c2 aJ hN
 ·have av:adu F d p σ=afj (F.v (Nz d 0) p σ):=by unfold adu afj;rw[if_neg (fun h=>c1 h.1)]
  rw[av];exact adv ae aK hd E p aC h1 c1
end
section
variable (ae:Yh es) (aK:Ms w0 mb af aa w σ) {a:Ad} {d:Nd} (hd:Oa aa w a d) (E:d.2.kids.length=2)
include ae aK a d hd E
theorem ake (bn:d.2.kd=25)(p:Pl)(aC:Option Addr)(h1:RF w0 mb af aa es σ (Nz d 0) p (F.v (Nz d 0) p σ))(O:∀ v1 σ1,F.v (Nz d 0) p σ=((v1,.no),σ1)->RF w0 mb af aa es σ1 (Nz d 1) p (F.v (Nz d 1) p σ1)) :
  NK 258 #[Nu mb,Nu a.p,OQ p aC] w (Oh w0 mb af aa es w (aaT F d p σ)):=by
 have z:=kk (∀{G}(h:G:=by
 have z:=kk (∀{G}(h:G:=by
 have z:=kk (∀{G}(h:G:=by
 obtain⟨rs,d6⟩:=xE (aaT F d ⟨aq,aF,st⟩ σ);rw[<-d6,<-bo.out];have z:=kk (∀{G}(h:G:=by
 have z:=kk (∀{G}(h:G:=by
 refine UC (H:=fun wz vb ev=>VB w0 mb af aa es w2 v1 av σ1 wz vb ev) (G:=?GG) (fun dI=>?ways) ?rest
 case ways=>
  exact adt
 rintro wz vb ev aN;have cR:=aN.fr.keep bj.out NH;have dU:=hide cR;obtain⟨cy,bQ,b5,dn,dp,dq,rl⟩:=Ot (cR);have ee:=aN.ms.lt;have ci:vb≠aR:=fun e=>by
  have h1:=aN.vb;have O:=lt_of_heap bj.out;omega
 have di:Om none mb w wz:=da.trans aN.fr;have eG:=hide (aN.fr.keep dF.out NH);clear cR;obtain⟨e',cj,dD,hf,hi,hj,g5⟩:=Ot (aN.v);have g8:=cS.kp aN.fr.SX
 by_cases au:av=.no
 ·have z:=kk (∀{G}(h:G:=by
  cases eX:v1.tru with
  | true=>
   have z:=kk (∀{G}(h:G:=by
   refine uh 9 (NI true) (ab) ?_;exact ayP),G);exact apQ
  | false=>
   have z:=kk (∀{G}(h:G:=by
   refine uh 9 (NI true) (ab) ?_;exact ayQ),G);exact apQ),G);exact ayR
 ·exact ayS),G);exact ayT),G);exact akd),G);exact ahb),G);exact abW),G);exact VT
theorem akf (bn:d.2.kd=26)(p:Pl)(aC:Option Addr)(h1:RF w0 mb af aa es σ (Nz d 0) p (F.v (Nz d 0) p σ))(O:∀ v1 σ1,F.v (Nz d 0) p σ=((v1,.no),σ1)->RF w0 mb af aa es σ1 (Nz d 1) p (F.v (Nz d 1) p σ1)) :
  NK 258 #[Nu mb,Nu a.p,OQ p aC] w (Oh w0 mb af aa es w (aaT F d p σ)):=by
 have z:=kk (∀{G}(h:G:=by
 have z:=kk (∀{G}(h:G:=by
 have z:=kk (∀{G}(h:G:=by
 obtain⟨rs,d6⟩:=xE (aaT F d ⟨aq,aF,st⟩ σ);rw[<-d6,<-bo.out];have z:=kk (∀{G}(h:G:=by
 have z:=kk (∀{G}(h:G:=by
 refine UC (H:=fun wz vb ev=>VB w0 mb af aa es w2 v1 av σ1 wz vb ev) (G:=?GG) (fun dI=>?ways) ?rest
 case ways=>
  exact adt
 rintro wz vb ev aN;have cR:=aN.fr.keep bj.out NH;have dU:=hide cR;obtain⟨cy,bQ,b5,dn,dp,dq,rl⟩:=Ot (cR);have ee:=aN.ms.lt;have ci:vb≠aR:=fun e=>by
  have h1:=aN.vb;have O:=lt_of_heap bj.out;omega
 have di:Om none mb w wz:=da.trans aN.fr;have eG:=hide (aN.fr.keep dF.out NH);clear cR;obtain⟨e',cj,dD,hf,hi,hj,g5⟩:=Ot (aN.v);have g8:=cS.kp aN.fr.SX
 by_cases au:av=.no
 ·have z:=kk (∀{G}(h:G:=by
  cases eX:v1.tru with
  | true=>
   have z:=kk (∀{G}(h:G:=by
   refine uh 9 (NI false) (ab) ?_;exact ayQ),G);exact apQ
  | false=>
   have z:=kk (∀{G}(h:G:=by
   refine uh 9 (NI false) (ab) ?_;exact ayP),G);exact apQ),G);exact ayR
 ·exact ayS),G);exact ayT),G);exact akd),G);exact ahb),G);exact abW),G);exact VT
end
abbrev aal (aS aB:NP)(c n:Int)(x:NR):NP:=.agg #[aS,Nr c,ND x,Nr n,aB]
theorem cells5 {b:Nat}{x y bE u v:NP}{t:TypeId}(h:w.heap[b]? = some (Og #[x,y,bE,u,v] t)):w.cell? (Nv b 0)=some x/\w.cell? (Nv b 1)=some y/\w.cell? (Nv b 2)=some bE/\w.cell? (Nv b 3)=some u/\w.cell? (Nv b 4)=some v/\(∀ j,w.frozen? (Nv b j)=false)/\b<w.heap.size:=by
 refine⟨?_,?_,?_,?_,?_,fun j=>?_,lt_of_heap h⟩
 ·rw[cell_of h];rfl
 ·rw[cell_of h];rfl
 ·rw[cell_of h];rfl
 ·rw[cell_of h];rfl
 ·rw[cell_of h];rfl
 ·simp[World.frozen?,h]
theorem ail {B C:Nat}(l:List NR)(u v:NP)(w:Ny)(h1:Qu B w u l)(O:Qu C w v l)(hl:l.length<=1000000000) :
  NK 16 #[u,v] w fun e w'=>e=NU (NI true)/\NJ w w':=by
 obtain⟨cT,uc,rfl⟩:=N8 h1;obtain⟨va,dv,rfl⟩:=N8 O;go_enter func16,ntmps16;go_wp2_with fail
 go_loopw [5] (fun j wr=>∃ k:Nat,k<=l.length/\j=Nr k/\NJ w wr) (fun j _=>l.length - (intOf j).toNat)
 case atStart=>exact⟨0,Nat.zero_le _,rfl,P8⟩
 case round=>
  obtain⟨k,E,rfl,D⟩:=hrel
  by_cases aQ:k<l.length
  ·obtain⟨b0,p1,ap,iE,_,f7⟩:=S9 (Qu.later h1 D) k aQ;simp only[Value.slice.injEq] at ap;obtain⟨rfl,_,rfl⟩:=ap;obtain⟨d4,cr,ap,mm,_,eH⟩:=S9 (Qu.later O D) k aQ;have z:=kk (∀{G}(h:G:=by
   generalize l[k]=x at f7 eH
   go_wp2_with fail;refine wp_region_held (S:=fun X=>X=wr.drew) OJ ?_;change wpAnyH _ _ _ _ _ _ _ _ (World.drew _);refine wh 0 (.slice (some (Nv b0 0)) l.length uc) rfl ?_;refine wh 1 (Nr k) rfl ?_;refine wh 2 (NM b0 k) rfl ?_;refine wh 3 (ND x) rfl ?_ (hy:=Or.inl ⟨by kernel_rfl,fun X aj=>by cases aj;go_simp⟩)
   refine wh 4 (.slice (some (Nv d4 0)) l.length dv) rfl ?_;refine wh 5 (Nr k) rfl ?_;refine wh 6 (NM d4 k) rfl ?_;refine wh 7 (ND x) rfl ?_ (hy:=Or.inl ⟨by kernel_rfl,fun X aj=>by cases aj;go_simp⟩)
   refine wh 8 (NI false) rfl ?_;exact aA1),G);exact ajQ
  ·have cM:k=l.length:=Nw;subst cM;go_wp2_with fail;go_ret;exact⟨rfl,D⟩
theorem acN {B:Nat}{w:Ny}{v:NP}{l:List (Int × Int)}(h:w.ownsRow B 54 2 v l.length (l.flatMap sn2))(k:Nat)(E:k<l.length) :
  ∃ g cap,v=.slice (some (Nv g 0)) l.length cap/\g<w.heap.size/\w.cell? (Nv g (2 * k))=some (Nr l[k].1)/\w.cell? (Nv g (2 * k+1))=some (Nr l[k].2):=by
 obtain⟨g,cap,rfl,_,_⟩:=h.form Nw;have ac:∀ (l:List (Int × Int)) (k:Nat) (E:k<l.length),(l.flatMap sn2)[2 * k]? = some (Nr l[k].1)/\(l.flatMap sn2)[2 * k+1]? = some (Nr l[k].2):=by
  intro l
  induction l with
  | nil=>intro k E;simp at E
  | cons a l bR=>
   intro k E
   cases k with
   | zero=>exact⟨rfl,rfl⟩
   | succ k=>
    have:=bR k (by simpa using E);rw[List.flatMap_cons,show 2 * (k+1)=2 * k+2 by omega];exact this
 refine⟨g,cap,rfl,(h.lt g rfl).2,?_,?_⟩
 ·rw[h.cellAt (2 * k) Nw];exact(ac l k E).1
 ·rw[h.cellAt (2 * k+1) Nw];exact(ac l k E).2
theorem aEg (a b:Int)(w:Ny):(Op.equalIn 10000 54 (.agg #[Nr a,Nr b]) (.agg #[Nr a,Nr b])).run prog w=.ok true w:=by
 have j7:=underlying3;have a3:=Tryz.isAgg3;have z3:=Tryz.sizeOf3;rw[show (10000:Nat)=9999+1 from rfl,Op.equalIn];simp only[Sem.run_bind,run_underlying underlying54,Result.andThen_ok];simp only[Std.Legacy.Range.forIn_eq_forIn_range',Std.Legacy.Range.size,Nat.sub_zero,Nat.add_sub_cancel,Nat.div_one,List.range'_succ,List.range'_zero,List.forIn_cons,List.forIn_nil];go_simp
theorem asP {B:Nat}(l:List NR)(s:List (Int × Int))(u v fR v':NP)(c n:Int)(x:NR)(w:Ny)(h1:Qu B w u l)(O:Qu B w fR l)(ax:w.ownsRow B 54 2 v s.length (s.flatMap sn2))(aU:w.ownsRow B 54 2 v' s.length (s.flatMap sn2))(hl:l.length<=1000000000)(ae:s.length<=1000000000) :
  NK 13 #[aal u v c n x,aal fR v' c n x] w fun e w'=>e=NU (NI true)/\NJ w w':=by
 obtain⟨w2,bu⟩:=xH ((w.alloc (.cells #[u,Nr c,ND x,Nr n,v] 29)).alloc (.cells #[fR,Nr c,ND x,Nr n,v'] 29));have z:=kk (∀{G}(h:G:=by
 have bK:w2.heap[bc]? = some (Og #[u,Nr c,ND x,Nr n,v] 29):=by rw[bu.out,bU];exact alloc_old (NG _ _)
 have hr2:w2.heap[aR]? = some (Og #[fR,Nr c,ND x,Nr n,v'] 29):=by
  rw[bu.out,b1,show w.heap.size+1=(w.alloc (.cells #[u,Nr c,ND x,Nr n,v] 29)).heap.size by simp];exact NG _ _
 have hB:=(ail l u fR w2 (N9 h1 aE) (N9 O aE) hl);have dF:=hide bK;have bj:=hide hr2;have bA:=(N9 ax aE);have CF:=(N9 aU aE);obtain⟨va,dv,rfl⟩:=N8 ax;obtain⟨Nh,Kl,rfl⟩:=N8 aU;obtain⟨aW,p1,cr,cL,kt,_,pl⟩:=cells5 bK;obtain⟨cy,bQ,b5,d',je,_,rl⟩:=cells5 hr2;clear bK hr2;go_enter func13,ntmps13;go_wp2_with fail;rw[<-bu.out,<-b1,<-bU];clear b1 bU;refine cm hB ?_;rintro e ao ⟨rfl,bm⟩;have fi:=hide (stays bm dF.out);have c8:=hide (stays bm bj.out)
 have lG:=(N9 bA bm);have p':=(N9 CF bm);have ef:=(aE.trans (bm.mono aE.size));clear aW p1 cr cL kt pl cy bQ b5 d' je rl bm hB dF bj bA CF aE;obtain⟨aW,p1,cr,cL,kt,_,pl⟩:=cells5 fi.out;obtain⟨cy,bQ,b5,d',je,_,rl⟩:=cells5 c8.out;go_wp2_with fail
 go_loopw [5] (fun j wr=>∃ k:Nat,k<=s.length/\j=Nr k/\NJ ao wr) (fun j _=>s.length - (intOf j).toNat)
 case atStart=>exact⟨0,Nat.zero_le _,rfl,P8⟩
 case round=>
  obtain⟨k,E,rfl,D⟩:=hrel;clear aW p1 cr cL kt pl cy bQ b5 d' je rl;obtain⟨aW,p1,cr,cL,kt,_,pl⟩:=cells5 (stays D fi.out);obtain⟨cy,bQ,b5,d',je,_,rl⟩:=cells5 (stays D c8.out)
  by_cases aQ:k<s.length
  ·obtain⟨b0,p1,ap,iE,f7,tO⟩:=acN (N9 lG D) k aQ;simp only[Value.slice.injEq] at ap;obtain⟨rfl,_,rfl⟩:=ap;obtain⟨d4,cr,ap,mm,eH,cS⟩:=acN (N9 p' D) k aQ;simp only[Value.slice.injEq] at ap;obtain⟨rfl,_,rfl⟩:=ap;have hL:(k:Int)<(s.length:Int):=Nw
   generalize s[k]=y at f7 eH tO cS
   obtain⟨gn,gp⟩:=y;go_wp2_with fail;refine wp_region_held (S:=fun X=>X=wr.drew) OJ ?_;change wpAnyH _ _ _ _ _ _ _ _ (World.drew _);refine wh 0 (NM bc 4) rfl ?_;refine wh 1 (.slice (some (Nv b0 0)) s.length dv) rfl ?_ (hy:=Or.inl ⟨by kernel_rfl,fun X aj=>by cases aj;go_simp⟩)
   refine wh 2 (Nr k) rfl ?_;refine wh 3 (NM b0 (2 * k)) rfl ?_;refine wh 4 (.agg #[Nr gn,Nr gp]) rfl ?_ (hy:=Or.inl ⟨by kernel_rfl,fun X aj=>by cases aj;go_simp⟩)
   refine wh 5 (NM aR 4) rfl ?_;refine wh 6 (.slice (some (Nv d4 0)) s.length Kl) rfl ?_ (hy:=Or.inl ⟨by kernel_rfl,fun X aj=>by cases aj;go_simp⟩)
   refine wh 7 (Nr k) rfl ?_;refine wh 8 (NM d4 (2 * k)) rfl ?_;refine wh 9 (.agg #[Nr gn,Nr gp]) rfl ?_ (hy:=Or.inl ⟨by kernel_rfl,fun X aj=>by cases aj;go_simp⟩)
   have qo:=aEg gn gp;refine wh 10 (NI false) rfl ?_ (hy:=Or.inl ⟨by kernel_rfl,fun X aj=>by have hq:=qo X;go_simp⟩)
   clear qo;exact aA1
  ·have cM:k=s.length:=Nw;subst cM;go_wp2_with fail;go_ret;exact⟨rfl,ef.trans (D.mono ef.size)⟩),G);exact zse
end
end Hp
abbrev sW1:NR:=⟨#[119,105,116,104,32,40,97,41,32,98,59]⟩
abbrev tLa:NR:=⟨#[97]⟩
abbrev tLb:NR:=⟨#[98]⟩
def lW1:List Tk:=[⟨2,WJ,0,0⟩,⟨5,Qi,0,5⟩,⟨1,tLa,0,6⟩,⟨5,RJ,0,7⟩,⟨1,tLb,0,9⟩,⟨5,O5,0,10⟩,⟨6,NC,0,11⟩]
def aFr:Tr:=.mk 1 NC 0 [.mk 9 NC 0 [.mk 23 tLa 0 [],.mk 15 NC 0 [.mk 23 tLb 0 []]]]
namespace Hp
abbrev Yf:NR:=⟨#[118,97,114,32,97,32,61,32,50,59,32,112,114,105,110,116,40,97,32,42,32,51,41,59]⟩
def lR1:List Tk:=[⟨2,TI,0,0⟩,⟨1,tLa,0,4⟩,⟨5,tEq,0,6⟩,⟨3,NC,2,8⟩,⟨5,O5,0,9⟩,⟨1,Tv,0,11⟩,⟨5,Qi,0,16⟩,⟨1,tLa,0,17⟩,⟨5,ato,0,19⟩,⟨3,NC,3,21⟩,⟨5,RJ,0,22⟩,⟨5,O5,0,23⟩,⟨6,NC,0,24⟩]
def abM:Tr:=.mk 1 NC 0 [.mk 2 tLa 0 [.mk 17 NC 2 []],.mk 15 NC 0 [.mk 35 NC 0 [.mk 23 Tv 0 [],.mk 31 NC 0 [.mk 23 tLa 0 [],.mk 17 NC 3 []]]]]
theorem arn:Tf PI Pq Yf (Oo QN Yf 0) []=.ok lR1:=by
 have aH:Oo QN Yf 0=0:=by decide +kernel
 rw[aH,QJ PI Pq Yf 0 [] 2 0 TI 3 NH OJ NH];have av:Oo QN Yf 3=4:=by decide +kernel
 rw[av,QJ PI Pq Yf 4 _ 1 0 tLa 5 NH OJ NH];have bC:Oo QN Yf 5=6:=by decide +kernel
 rw[bC,QJ PI Pq Yf 6 _ 5 0 tEq 7 NH OJ NH];have ey:Oo QN Yf 7=8:=by decide +kernel
 rw[ey,QJ PI Pq Yf 8 _ 3 2 NC 9 NH OJ NH];have hE:Oo QN Yf 9=9:=by decide +kernel
 rw[hE,QJ PI Pq Yf 9 _ 5 0 O5 10 NH OJ NH];have kc:Oo QN Yf 10=11:=by decide +kernel
 rw[kc,QJ PI Pq Yf 11 _ 1 0 Tv 16 NH OJ NH];have vi:Oo QN Yf 16=16:=by decide +kernel
 rw[vi,QJ PI Pq Yf 16 _ 5 0 Qi 17 NH OJ NH];have Ht:Oo QN Yf 17=17:=by decide +kernel
 rw[Ht,QJ PI Pq Yf 17 _ 1 0 tLa 18 NH OJ NH];have Hv:Oo QN Yf 18=19:=by decide +kernel
 rw[Hv,QJ PI Pq Yf 19 _ 5 0 ato 20 NH OJ NH];have zy:Oo QN Yf 20=21:=by decide +kernel
 rw[zy,QJ PI Pq Yf 21 _ 3 3 NC 22 NH OJ NH];have Hr:Oo QN Yf 22=22:=by decide +kernel
 rw[Hr,QJ PI Pq Yf 22 _ 5 0 RJ 23 NH OJ NH];have Hs:Oo QN Yf 23=23:=by decide +kernel
 rw[Hs,QJ PI Pq Yf 23 _ 5 0 O5 24 NH OJ NH];have Hw:Oo QN Yf 24=24:=by decide +kernel
 rw[Hw,Xu PI Pq Yf 24 _ NH];rfl
theorem aey:QK PI Pq Yf=.ok abM:=by
 have h1:Ui lR1 (fns lR1 KK)=.ok abM 12:=by kernel_rfl
 have O:abM.count=9:=by decide +kernel
 unfold QK;rw[if_neg NH,arn];simp only;rw[h1];simp only;rw[O,if_neg NH]
def arF (r:Er × St):Bool:=match r.1 with
 | .no=>decide (r.2.log=[⟨#[54]⟩])
 | _=>false
theorem asN:chk abM false false false=none:=by decide +kernel
theorem asM:arF (PY abM)=true:=by decide +kernel
end Hp
end Go.Proofs.YticfnaiehdpbmaaGreatDoor
