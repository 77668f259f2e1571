import Derived.Test.YticfnaiehdpbmaaGreatDoorOn4
import Derived.MapKept
import Derived.Deep.MidRow
import Derived.Laws.AppendOwnNone
import Derived.Recover
import Derived.Defers
set_option maxRecDepth 100000
set_option maxHeartbeats 8000000
set_option linter.all false
namespace Go.Proofs.YticfnaiehdpbmaaGreatDoor
open Go.RowKit Go.Proofs.Tryz
def ajK (l:List (OH × OG))(k:OH)(v:OG):(mapOf l).push { key:=OB k,val:=v,born:=l.length }=mapOf (l++[(k,v)]):=by
 unfold mapOf;rw[List.zipIdx_append,List.map_append];simp[mkE,List.zipIdx]
def QJ (W:Ov)(m:Nat)(o:Obj):Ov:={ W with heap:=W.heap.setIfInBounds m o }
def VH (W:Ov)(m:Nat)(o:Obj):(QJ W m o).heap.size=W.heap.size:=by simp[QJ]
def Xt {W:Ov}{m:Nat}{o:Obj}(h:m<W.heap.size):(QJ W m o).heap[m]? = some o:=by simp[QJ,h]
def QB {W:Ov}{m k:Nat}{o:Obj}(h:k≠m):(QJ W m o).heap[k]? = W.heap[k]?:=by simp[QJ,Ne.symm h]
def XK {B:Nat}{w W:Ov}{m:Nat}{o:Obj}(h:Below B w W)(aS:B<=m):Below B w (QJ W m o):=
 ⟨h.os,h.tape,h.output,by rw[VH];exact h.size,fun k E=>by rw[QB Ou];exact h.block k E⟩
def Zi (T kD:TypeId)(m:Nat)(l:List (OH × OG))(s:OH)(v:OG)(W:Ov)(dY:prog.underlying T=some (.map 9 kD))(aS:W.heap[m]? = some (.map (mapOf l) l.length))(az:l.find? (fun e=>decide (s=e.1))=none) :
  (Instr.mapUpdate T (.map (some m)) (OB s) v).run prog W=.ok () (QJ W m (.map (mapOf (l++[(s,v)])) (l.length+1))):=by
 obtain⟨o,h1,U⟩:=aaF s l 0 0;have hL:=underlying9;have aR:o=none:=by
  rw[az] at U
  cases o with
  | none=>rfl
  | some y=>simp at U
 subst aR;have aw:(Instr.findKey 9 (OB s) (mapOf l).toList).run prog W=.ok none W:=by
  unfold Instr.findKey;rw[Sem.run_bind,run_underlying hL W];simp only[Result.andThen_ok,mapOf];rw[h1];rfl
 have ej:∀ b,(Instr.checkKey b 10000 9 (OB s)).run prog W=.ok () W:=by
  intro b;rw[Instr.checkKey,Sem.run_bind,run_underlying hL W];rfl
 have hg:(getObj m).run prog W=.ok (.map (mapOf l) l.length) W:=by simp[getObj,Sem.run,aS]
 unfold Instr.mapUpdate;rw[Sem.run_bind,run_underlying dY W];simp only[Result.andThen_ok,Sem.run_bind,hg,ej,aw];rw[ajK];simp[setObj,Sem.run,aS,QJ]
def mkMap (T:TypeId)(W:Ov):(Instr.makeMap T none).run prog W=.ok (.map (some W.heap.size)) (W.alloc (.map #[] 0)):=rfl
def WM:Array OG:=(sgs.flatMap fun e=>[OB e.tx,Ol e.kd,Ol e.parts,Ol e.str]).toArray
def ayr:WM.size=56:=by decide +kernel
def aFr (k:Nat)(E:k<14)(W:Ov):(Instr.index 276 (.agg WM) (Ol (k:Int))).run prog W=.ok (sgV (sgs.getD k ⟨Ox,0,0,0⟩)) W:=by
 have h:k=0\/k=1\/k=2\/k=3\/k=4\/k=5\/k=6\/k=7\/k=8\/k=9\/k=10\/k=11\/k=12\/k=13:=Ou
 rcases h with rfl|rfl|rfl|rfl|rfl|rfl|rfl|rfl|rfl|rfl|rfl|rfl|rfl|rfl <;> (show _=_;kernel_rfl)
def sgL (j:Nat):List (OH × OG):=(sgs.take j).map fun e=>(e.tx,sgV e)
def akQ {j:Nat}(aN:j<=14):(sgL j).length=j:=by
 unfold sgL;rw[List.length_map,List.length_take];have:sgs.length=14:=rfl;omega
def aqn {j:Nat}(aN:j<14):sgL (j+1)=sgL j++[((sgs.getD j ⟨Ox,0,0,0⟩).tx,sgV (sgs.getD j ⟨Ox,0,0,0⟩))]:=by
 have h:j=0\/j=1\/j=2\/j=3\/j=4\/j=5\/j=6\/j=7\/j=8\/j=9\/j=10\/j=11\/j=12\/j=13:=Ou
 rcases h with rfl|rfl|rfl|rfl|rfl|rfl|rfl|rfl|rfl|rfl|rfl|rfl|rfl|rfl <;> rfl
def atQ {j:Nat}(aN:j<14):(sgL j).find? (fun e=>decide ((sgs.getD j ⟨Ox,0,0,0⟩).tx=e.1))=none:=by
 have key:∀ j,j<14->((sgs.take j).map (·.tx)).find? (fun e=>decide ((sgs.getD j ⟨Ox,0,0,0⟩).tx=e))=none:=by decide +kernel
 have:=key j aN;unfold sgL;rw[List.find?_map] at this ⊢;simpa[Function.comp_def] using this
def abf (w:Ov)(t:TypeId)(fr:Nat × Nat)(hg:w.heap[3]? = some (.cells WM t fr)) :
  OE 146 #[] w fun e w'=>e=OQ (.map (some w.heap.size))/\w'.heap[w.heap.size]? = some (.map akc 14)/\OD w w':=by
 have gZ:Hid ((w.alloc (.map #[] 0)).heap[3]? = some (.cells WM t fr)):=(Below.heap_alloc w _ 3 (lt_of_heap hg)).trans hg;obtain⟨cs,fH⟩:=xE WM;have oT:∀ k:Nat,k<14->∀ W,(Instr.index 276 (.agg cs) (Ol (k:Int))).run prog W=.ok (sgV (sgs.getD k ⟨Ox,0,0,0⟩)) W:=by rw[fH];exact aFr
 have dd:cs.size=56:=by rw[fH];exact ayr
 rw[<-fH] at gZ;have r1:=hide oT;have sl:=hide dd;have ui:=mkMap 229;clear hg oT fH dd;go_enter func146,ntmps146
 go_wp2_with (refine wpList_load_row rfl 276 _ rfl 3 rfl t cs fr _ gZ.out underlying276 rfl (by rw[sl.out];kernel_rfl) ?_)
 go_loopw [6] (fun i wr=>∃ j:Nat,j<=14/\i=Ol j/\wr.heap[w.heap.size]? = some (.map (mapOf (sgL j)) j)/\OD w wr) (fun i _=>14 - (intOf i).toNat)
 case atStart=>exact⟨0,Nat.zero_le _,rfl,OA _ _,PO⟩
 case round=>
  obtain⟨j,aN,rfl,aS,D⟩:=hrel;have hW:=hide aS;clear aS
  by_cases aQ:j<14
  ·have ej:=Om r1 j aQ;obtain⟨x,dQ⟩:=xH (sgs.getD j ⟨Ox,0,0,0⟩);have di:(wr.alloc (.cells #[OB x.tx,Ol x.kd,Ol x.parts,Ol x.str] 275)).heap[w.heap.size]? = some (.map (mapOf (sgL j)) (sgL j).length):=by
    rw[akQ Ou];exact(Below.heap_alloc _ _ _ (lt_of_heap hW.out)).trans hW.out
   have JP:=Zi 229 275 w.heap.size (sgL j) x.tx (sgV x) _ underlying229 di (by rw[dQ.out];exact atQ aQ)
   rw[<-dQ.out] at ej;simp only[sgV] at ej JP;clear di;go_wp2
   go_roundw
   case rel=>
    refine⟨j+1,by omega,by go_num,?_,XK (D.alloc D.size _) O6⟩;rw[Xt (by simp;have:=D.size;omega),aqn aQ,<-dQ.out,akQ Ou]
    rfl
   case measure=>simp[intOf];omega
  ·have I6:j=14:=Ou;subst I6;go_wp2;go_ret;exact⟨rfl,hW.out,D⟩
def afu (W:Ov)(m:Nat)(a b:Obj):QJ (QJ W m a) m b=QJ W m b:=by simp[QJ]
def upd (T kD:TypeId)(m:Nat)(W:Ov)(l:List (OH × OG))(s:OH)(v:OG)(dY:prog.underlying T=some (.map 9 kD))(aS:m<W.heap.size)(az:l.find? (fun e=>decide (s=e.1))=none) :
  (Instr.mapUpdate T (.map (some m)) (OB s) v).run prog (QJ W m (.map (mapOf l) l.length))=.ok () (QJ W m (.map (mapOf (l++[(s,v)])) (l.length+1))):=by
 rw[Zi T kD m l s v _ dY (Xt aS) az,afu]
def aHm (T kD:TypeId)(m:Nat)(W:Ov)(s:OH)(v:OG)(dY:prog.underlying T=some (.map 9 kD))(aS:W.heap[m]? = some (.map #[] 0)) :
  (Instr.mapUpdate T (.map (some m)) (OB s) v).run prog W=.ok () (QJ W m (.map (mapOf [(s,v)]) 1)):=
 Zi T kD m [] s v W dY aS rfl
def aaH {X W:Ov}{m:Nat}{l:List (OH × OG)}(ak:X=QJ W m (.map (mapOf l) l.length))(aS:m<W.heap.size)(s:OH)(b k:Nat)(az:l.find? (fun e=>decide (s=e.1))=none:=by rfl) :
  ∃ Y,Y=QJ W m (.map (mapOf (l++[(s,.func (.func k) #[OM b 0] #[])])) (l++[(s,Value.func (.func k) #[OM b 0] #[])]).length)/\(Instr.mapUpdate 231 (.map (some m)) (OB s) (.func (.func k) #[OM b 0] #[])).run prog X=.ok () Y:=⟨_,rfl,by rw[ak,upd 231 281 m W l s _ underlying231 aS az,List.length_append];rfl⟩
def avf {W:Ov}{m:Nat}(aS:W.heap[m]? = some (.map #[] 0))(s:OH)(b k:Nat) :
  ∃ Y,Y=QJ W m (.map (mapOf [(s,.func (.func k) #[OM b 0] #[])]) [(s,Value.func (.func k) #[OM b 0] #[])].length)/\(Instr.mapUpdate 231 (.map (some m)) (OB s) (.func (.func k) #[OM b 0] #[])).run prog W=.ok () Y:=⟨_,rfl,aHm 231 281 m W s _ underlying231 aS⟩
def aFs (w:Ov)(o:Obj):((w.alloc o).alloc (.map #[] 0)).heap[w.heap.size+1]? = some (.map #[] 0):=by
 have:=OA (w.alloc o) (.map #[] 0);simpa using this
def aFt (W:Ov)(k:Nat)(h:W.heap.size=k):(W.alloc (.map #[] 0)).heap[k]? = some (.map #[] 0):=by rw[<-h];exact OA _ _
def ahA {w w1 X Y Z V:Ov}{l:List Tk}{tb cap R mS:Nat}{cj:Array OG}(aD:Ends l)(h0:0<l.length)(hl:l.length<=3001)(bc:w.heap[tb]? = some (O1 cj 144))(hcap:l.length<=cap/\cap<=maxLen/\cj.size=cap * 4/\cj.toList.take (l.length * 4)=Rj l)
  (hh:∃ t fr,w.heap[4]? = some (.cells VQ t fr)) (eC:w1.heap[mS]? = some (.map akc 14)) (Mp:mS=w.heap.size) (D:OD w w1) (cE:R=w1.heap.size)
  (ak:X=QJ ((w1.alloc (.cells #[.slice (some (Ot tb 0)) l.length cap,Ol 0,Ol 0,.map (some mS),.map none,.map none] 233)).alloc (.map #[] 0)) (R+1) (.map (af0 R) 12))
  (cw:Y=X.setCell (Ot R 4) (.map (some (R+1)))) (ip:Z=QJ (Y.alloc (.map #[] 0)) (R+2) (.map (akd R) 3)) (fZ:V=Z.setCell (Ot R 5) (.map (some (R+2)))) :
  PW ⟨R,l,tb,cap,mS,R+1,R+2,R+3⟩ V 0 0/\OD w V:=by
 have dd:=D.size;have Ki:=lt_of_heap bc;obtain⟨t4,H6,hh⟩:=hh;have Kg:=lt_of_heap hh;have NC:=lt_of_heap eC;have KT:X.heap.size=R+2:=by rw[ak,VH,cE];simp
 have KU:Y.heap.size=R+2:=by rw[cw,World.size_setCell,KT]
 have KW:Z.heap.size=R+3:=by rw[ip,VH];simp[KU]
 have N3:V.heap.size=R+3:=by rw[fZ,World.size_setCell,KW]
 have g9:∀ b,b<R->X.heap[b]? = w1.heap[b]?:=fun b D=>by
  rw[ak,QB Ou,Below.heap_alloc _ _ b Rh,Below.heap_alloc _ _ b Ou]
 have uJ:X.heap[R]? = some (O1 #[.slice (some (Ot tb 0)) l.length cap,Ol 0,Ol 0,.map (some mS),.map none,.map none] 233):=by
  rw[ak,QB Ou,Below.heap_alloc _ _ R Rh,cE];exact OA _ _
 have iC:X.heap[R+1]? = some (.map (af0 R) 12):=by rw[ak,Xt Rh]
 have vl:∀ b,b<R->V.heap[b]? = w1.heap[b]?:=fun b D=>by
  rw[fZ,Below.heap_setCell Z (Ot R 5) _ b Rh,ip,QB Ou,Below.heap_alloc _ _ b Ou,cw,Below.heap_setCell X (Ot R 4) _ b Rh];exact g9 b D
 have xd:Z.heap[R]? = some (O1 #[.slice (some (Ot tb 0)) l.length cap,Ol 0,Ol 0,.map (some mS),.map (some (R+1)),.map none] 233):=by
  rw[ip,QB Ou,Below.heap_alloc _ _ R Ou,cw,heap_set uJ];rfl
 have K7:V.heap[R]? = some (O1 #[.slice (some (Ot tb 0)) l.length cap,Ol 0,Ol 0,.map (some mS),.map (some (R+1)),.map (some (R+2))] 233):=by
  rw[fZ,heap_set xd];rfl
 have K8:V.heap[R+1]? = some (.map (af0 R) 12):=by
  rw[fZ,Below.heap_setCell Z (Ot R 5) _ (R+1) O8,ip,QB Ou,Below.heap_alloc _ _ (R+1) Ou,cw,Below.heap_setCell X (Ot R 4) _ (R+1) O8];exact iC
 have K9:V.heap[R+2]? = some (.map (akd R) 3):=by
  rw[fZ,Below.heap_setCell Z (Ot R 5) _ (R+2) O8,ip,Xt Rh]
 have lw:∀ b,b<w.heap.size->V.heap[b]? = w.heap[b]?:=fun b h=>(vl b Ou).trans (D.block b h);refine⟨⟨⟨aD,⟨cj,(lw tb Ki).trans bc,hcap⟩,?_,(vl mS Ou).trans eC,?_,K8,?_,K9,?_,hl,⟨t4,H6,(lw 4 Kg).trans hh⟩,?_,?_,?_⟩,K7,h0,by decide⟩,?_⟩
 ·show tb≠R;omega
 ·show mS≠R;omega
 ·show R+1≠R;omega
 ·show R+2≠R;omega
 ·show 4≠R;omega
 ·show tb<R+3/\mS<R+3/\R+1<R+3/\R+2<R+3/\4<R+3/\R<R+3;omega
 ·show R+3<=V.heap.size;omega
 ·have HG:OD w X:=by rw[ak];exact XK ((D.alloc dd _).alloc Rh _) Ou
  have C6:OD w Y:=by rw[cw];exact HG.setCell (p:=(Ot R 4)) (by show w.heap.size<=R;omega) _
  have HH:OD w Z:=by rw[ip];exact XK (C6.alloc C6.size _) Ou
  rw[fZ];exact HH.setCell (p:=(Ot R 5)) (by show w.heap.size<=R;omega) _
def adr (w:Ov)(l:List Tk)(tb cap:Nat)(cj:Array OG)(aD:Ends l)(h0:0<l.length)(hl:l.length<=3001)(bc:w.heap[tb]? = some (O1 cj 144))(hcap:l.length<=cap/\cap<=maxLen/\cj.size=cap * 4/\cj.toList.take (l.length * 4)=Rj l)
  (hh:∃ t fr,w.heap[4]? = some (.cells VQ t fr)) (sT:∃ t fr,w.heap[3]? = some (.cells WM t fr)) :
  OE 70 #[.slice (some (Ot tb 0)) l.length cap] w fun e w'=>∃ c:Ctx,e=OQ (Pj c)/\c.l=l/\w.heap.size<=c.R/\PW c w' 0 0/\OD w w':=by
 obtain⟨t3,Ab,sT⟩:=sT;have ai:=(abf w t3 Ab sT);have Cu:=fun(w1 X Y Z V:Ov) (R:Nat)=>ahA (w:=w) (w1:=w1) (X:=X) (Y:=Y) (Z:=Z) (V:=V) (R:=R) (mS:=w.heap.size) aD h0 hl bc hcap hh;have Gu:=hide Cu;have ui:=mkMap 231;clear sT Cu h0 hl bc hcap hh;go_enter func70,ntmps70;go_wp2_with fail;refine cm ai ?_;rintro e w1 ⟨rfl,n1,b6⟩;have jF:=hide n1;clear n1;have BM:=aFs w1 (.cells #[.slice (some (Ot tb 0)) l.length cap,Ol 0,Ol 0,.map (some w.heap.size),.map none,.map none] 233);have ms:=lt_of_heap BM
 obtain⟨Lh,DK,gW⟩:=avf BM anL w1.heap.size 147;obtain⟨Lk,DN,gC⟩:=aaH DK ms avO w1.heap.size 147;obtain⟨Ll,DO,kC⟩:=aaH DN ms aik w1.heap.size 147;obtain⟨Ln,DP,uG⟩:=aaH DO ms Qm w1.heap.size 148;obtain⟨Lo,DQ,xa⟩:=aaH DP ms Ug w1.heap.size 149;obtain⟨Lp,DR,K1⟩:=aaH DQ ms Qv w1.heap.size 150;obtain⟨Lq,DS,Fi⟩:=aaH DR ms tIf w1.heap.size 151;obtain⟨Lr,DT,K2⟩:=aaH DS ms ail w1.heap.size 152;obtain⟨Ls,DU,K3⟩:=aaH DT ms anM w1.heap.size 152
 obtain⟨Li,DL,N7⟩:=aaH DU ms aen w1.heap.size 153;obtain⟨Lj,DM,N8⟩:=aaH DL ms ain w1.heap.size 153;obtain⟨tJ,xY,N9⟩:=aaH DM ms abJ w1.heap.size 154;have uJ:tJ.heap[w1.heap.size]? = some (.cells #[.slice (some (Ot tb 0)) l.length cap,Ol 0,Ol 0,.map (some w.heap.size),.map none,.map none] 233):=by rw[xY,QB Ou,Below.heap_alloc _ _ _ O8];exact OA _ _
 have Fd:tJ.heap.size=w1.heap.size+2:=by rw[xY,VH];simp
 have Fp:(tJ.setCell (Ot w1.heap.size 4) (.map (some (w1.heap.size+1)))).heap[w1.heap.size]? = some (.cells #[.slice (some (Ot tb 0)) l.length cap,Ol 0,Ol 0,.map (some w.heap.size),.map (some (w1.heap.size+1)),.map none] 233):=by rw[heap_set uJ];rfl
 have dn:=aFt (tJ.setCell (Ot w1.heap.size 4) (.map (some (w1.heap.size+1)))) (w1.heap.size+2) (by rw[World.size_setCell,Fd]);have uD:=lt_of_heap dn;obtain⟨Lt,DV,v1⟩:=avf dn Rk w1.heap.size 155;obtain⟨Lu,DW,v2⟩:=aaH DV uD Ug w1.heap.size 156;obtain⟨xA,Aq,v3⟩:=aaH DW uD Qm w1.heap.size 157
 have xd:xA.heap[w1.heap.size]? = some (.cells #[.slice (some (Ot tb 0)) l.length cap,Ol 0,Ol 0,.map (some w.heap.size),.map (some (w1.heap.size+1)),.map none] 233):=by rw[Aq,QB Ou,Below.heap_alloc _ _ _ (by rw[World.size_setCell,Fd];omega)];exact Fp
 have a4:tJ.cell? (Ot w1.heap.size 4)=some (.map none):=by rw[cell_of uJ];rfl
 have Lv:=Sv uJ 4;have a5:xA.cell? (Ot w1.heap.size 5)=some (.map none):=by rw[cell_of xd];rfl
 have Lw:=Sv xd 5;have FB:=hide (Gu.out w1 tJ _ xA (xA.setCell (Ot w1.heap.size 5) (.map (some (w1.heap.size+2)))) w1.heap.size jF.out (by first|rfl|trivial) b6 rfl (by rw[xY];rfl) rfl (by rw[Aq];rfl) rfl)
 have p8:Hid (w.heap.size<=w1.heap.size):=b6.size;clear DK DN DO DP DQ DR DS DT DU DL DM xY DV DW Aq uJ Fp xd BM dn ms uD;go_wp2;go_ret;obtain⟨cO,cP⟩:=Om FB;exact⟨_,rfl,rfl,p8.out,cO,cP⟩
def ahr {c:Ctx}{F:SX}(ah:FC c F)(hN:∃ k,FNx c.l k F)(A:FOk F)(w:Ov)(r:PR Tr)(ac:Uh c.l F=r)(aR:r≠.out)(h:PW c w 0 0):OE 71 #[Pj c] w (Qn c w 0 (NV w.heap.size) r):=by
 have jx:=RN c.R 160;have dH:=h.base.ends;have dU:=hide h.base.len;have z:=Oq (∀{G}(h:G:=by
 have e1:=(Ap.refl c.R w.heap.size w);have bS:=hide h.rlt;have nJ:=hide hN;unfold Uh at ac;have a':=hide ac;have dw:=hide aR;clear ac aR hN;go_enter func71,ntmps71;go_wp2_with fail
 go_loopw [3] (fun v wr=>∃ k aX j,(PL c.l F k aX j).bind (fun ao i=>PR.ok (Tv (.mk 1 Ox 0 ao)) i)=r/\PW c wr j 0/\Ap c.R w.heap.size w wr/\KV w.heap.size wr aX v/\aX.length<=j/\∀ t ∈ aX,t.kd=15->∃ v r,t.kids=v::r) (fun _ wr=>c.l.length - nxt c wr)
 case atStart=>exact⟨F.fuel,[],0,a'.out,h,e1,KV.nil _ _,Nat.zero_le _,fun _ aT=>absurd aT O8⟩
 case round=>
  obtain⟨k,aX,j,ag,ba,gA,nZ,gc,nX⟩:=hrel;have Cg:=hide nX;clear nX h
  cases k with
  | zero=>exact absurd ag.symm dw.out
  | succ k=>
   have dr:=Om dU;have nc:=ba.lt;have bj:=ba;have ov:=ba;have p8:=hide gc;have fI:=abt (O9 c.l j)
   by_cases ae:(O9 c.l j).kd=6
   ·have bm:Hid (PR.ok (Tv (.mk 1 Ox 0 aX)) j=r):=by
     unfold PL at ag;rw[if_pos ae,bind_ok] at ag;exact ag
    have HF:((O9 c.l j).kd != 6)=false:=by rw[ae];rfl
    have ai:=(RX c wr j 0 ba);unfold tkV at ai;obtain⟨va,dD,rfl⟩:=nZ.shape;clear ag gc ae;have z:=Oq (∀{G}(h:G:=by
    have jE:=(KV.later nZ (Ap.of br) bS.out);have ai:=(PV 1 Ox (.slice va aX.length dD) ap ⟨_,_,_,rfl⟩);go_wp2_with fail;refine cm ai ?_;rintro e fe ⟨rfl,rfl⟩;obtain⟨cO,cP,df⟩:=aaS dp jm jE 1 Ox _ rfl;have ai:=(Yf w.heap.size (.mk 1 Ox 0 aX) (Oo ap.heap.size) _ cO (fun bQ bU iO jf=>Om Cg bQ (by have eO:aX=bQ::bU:=iO;rw[eO];simp) jf))
    go_wp2_with fail;refine cm ai ?_;rintro e b7 ⟨rfl,bv,f'⟩;have fm:=(cP.ap f' iF.out);have mO:=(df.trans (Ap.of f'));go_wp2;go_ret;exact Ue bm.out.symm bv.nv fm mO),G);exact aqb
   ·have bm:Hid ((PD c.l F.st 0 j).bind (fun t a7=>(PL c.l F k (aX++[t]) a7).bind fun ao i=>PR.ok (Tv (.mk 1 Ox 0 ao)) i)=r):=by
     unfold PL at ag;rw[if_neg ae] at ag;rw[<-ag]
     cases PD c.l F.st 0 j <;> rfl
    have HF:((O9 c.l j).kd != 6)=true:=bne_iff_ne.2 ae;have ai:=(RX c wr j 0 ba);unfold tkV at ai;clear ag gc ae
    cases aa:PD c.l F.st 0 j with
    | out=>
     exact ax0
    | bad er p=>
     have bW:=hide aa;rw[aa] at bm;simp only[PG] at bm;clear aa;have z:=Oq (∀{G}(h:G:=by
     have ai:=(aaT ah ap 0 j dp (by rw[bW.out];nofun))
     exact aD3),G);exact aqb
    | ok t b'=>
     have bW:=hide aa;rw[aa] at bm;simp only[bind_ok] at bm;clear aa;have z:=Oq (∀{G}(h:G:=by
     have jE:=(KV.later nZ (Ap.of br) bS.out);have ai:=(aaT ah ap 0 j dp (by rw[bW.out];nofun))
     have z:=Oq (∀{G}(h:G:=by
     have km:j<b':=by
      obtain⟨j7,cT⟩:=Om nJ;exact((QT (l:=c.l) (d:=0) (cT.st (0+1) j nc)).2 t b' bW.out).1
     have z:=Oq (∀{G}(h:G:=by
     go_roundw
     case rel=>exact⟨k,aX++[t],b',bm.out,fm,mO,l7,by simp;omega,fun u aT=>by
       rcases List.mem_append.1 aT with aT|aT
       ·exact Om Cg u aT
       ·rw[List.mem_singleton] at aT;subst aT;exact A _ _ _ _ (ahB bW.out)⟩
     case measure=>rw[U9 fm,U9 ov];omega),G);exact aEm),G);exact aEz),G);exact aqb),G);exact amL
def catch_idle (p q:Addr)(w:Ov) :
  CallsD prog 69 #[.pointer (some p),.pointer (some q)] .returning w fun e g8 w'=>e=OQ (.tuple #[])/\g8=.returning/\w'=w:=by
 refine callsD_of_wpS func69 rfl fun c₀ cs aT=>?_;apply wpS_seq;apply wpS_region;simp[wpOpsS,go_sem,recoverD,aT,ntmps69,Exit.thenS];apply wpS_seq;apply wpS_seq;apply wpS_region;simp[wpOpsS,go_sem,Exit.thenS];refine wpS_cond (t:=true) (by simp[Act.eval,Array.replicate]) ?_;simp only[if_true];refine wpS_of_wp ?_;refine wp_ret ?_;cases c₀
 simp_all [bodyPostS,results,results69,Exit.thenS]
def ahC (p q:Nat)(er:Int)(pl:Nat)(w:Ov)(a b:OG)(al:w.cell? (Ot p 0)=some a)(M8:∀ o,w.frozen? (Ot p o)=false)(ag:w.cell? (Ot q 0)=some b)(Na:∀ o,w.frozen? (Ot q o)=false)(Ng:¬ q=p)(eP:p<w.heap.size)(dz:q<w.heap.size) :
  CallsD prog 69 #[OM p 0,OM q 0] (.panicking (Z9 er pl)) w fun e g8 w'=>
   e=OQ (.tuple #[])/\g8=.panicking [{ v:=.iface 148 (.agg #[Ol er,Ol (pl:Int)]),recovered:=true }]/\w'=((((w.setCell (Ot p 0) Ri).setCell (Ot q 0) (.iface 150 (OM (w.heap.size+1) 0))).alloc (.cells #[Ol er,Ol (pl:Int)] 148)).alloc (.cells #[Ol er,Ol (pl:Int)] 152)).drew:=by
 refine callsD_of_wpS func69 rfl fun c₀ cs aT=>?_;unfold Z9 at aT;have ta:∀ W:Ov,(Instr.typeAssert (.iface 148 (.agg #[Ol er,Ol (pl:Int)])) 20 148 true).run prog W=.ok (.tuple #[.agg #[Ol er,Ol (pl:Int)],OC true]) W:=fun W=>by kernel_rfl
 rw[ntmps69];rw[show (#[OM p 0,OM q 0]:Array OG)++Array.replicate (23 - (#[OM p 0,OM q 0]:Array OG).size) undef=#[OM p 0,OM q 0,undef,undef,undef,undef,undef,undef,undef,undef,undef,undef,undef,undef,undef,undef,undef,undef,undef,undef,undef,undef,undef] from by kernel_rfl];apply wpS_seq;apply wpS_region;simp[wpOpsS,go_sem,recoverD,aT,Exit.thenS];apply wpS_seq;apply wpS_seq;apply wpS_region;simp[wpOpsS,go_sem,Exit.thenS];refine wpS_cond (t:=false) (by simp[Act.eval]) ?_;simp only[Bool.false_eq_true,if_false]
 refine wpS_of_wp (wp_skip ?_);simp only[Exit.thenS];apply wpS_seq;apply wpS_region;simp[wpOpsS,go_sem,Exit.thenS,ta];apply wpS_seq;refine wpS_of_wp ?_;go_wp2_with fail;simp only[Exit.thenS];refine wpS_of_wp ?_
 go_region
 simp[bodyPostS,results,results69]
def acS (r:PR Tr)(w:Ov)(e:Ending)(w':Ov):Prop:=
 match r with
 | .ok t _=>∃ p,e=OQ (.tuple #[Oo p,.nilIface])/\Qb (From w.heap.size) w' t p/\OD w w'
 | .bad er pl=>∃ b,e=OQ (.tuple #[.pointer none,.iface 150 (OM b 0)])/\w'.heap[b]? = some (O1 #[Ol er,Ol (pl:Int)] 152)/\w.heap.size<=b/\OD w w'
 | .out=>True
abbrev RW (w:Ov):Ov:=(w.alloc (.cells #[.pointer none] 22)).alloc (.cells #[.nilIface] 31)
def atO (w:Ov)(l:List Tk)(tb cap:Nat)(t:Tr)(j:Nat)
  (dB:OE 70 #[.slice (some (Ot tb 0)) l.length cap] (RW w) fun e w'=>∃ c:Ctx,e=OQ (Pj c)/\c.l=l/\(RW w).heap.size<=c.R/\PW c w' 0 0/\Below (RW w).heap.size (RW w) w')
  (HP:∀ (c:Ctx) (W:Ov),c.l=l->PW c W 0 0->OE 71 #[Pj c] W (Qn c W 0 (NV W.heap.size) (.ok t j))) :
  OE 34 #[.slice (some (Ot tb 0)) l.length cap] w (acS (.ok t j) w):=by
 have z:=Oq (∀{G}(h:G:=by
 obtain⟨⟨v,rfl,p,rfl,az⟩,ba,ax⟩:=al;have z:=Oq (∀{G}(h:G:=by
 clear c0 c1 HP EM hsz2 cE;go_wp2_with fail;refine leaves_cons (f:=69) (args:=#[OM w.heap.size 0,OM (w.heap.size+1) 0]) O8 (by simp[go_sem]) ?_;refine(catch_idle (Ot w.heap.size 0) (Ot (w.heap.size+1) 0) _).mono ?_;rintro e g8 Lc ⟨rfl,rfl,rfl⟩
 show Leaves _ _ _ _ [] .returning _
 refine⟨.tuple #[Oo p,Qp],by simp[results,results34,go_sem,gH,eq],p,rfl,?_,?_⟩
 ·refine Qb.mono (J:=From w.heap.size) (fun b D _=>?_) _ _ (Qb.later (I:=fun b=>w2.heap.size<=b) (fun b D _=>?_) _ _ az)
  ·have U:=Om gY;have aw:w2.heap.size<=b:=D
   show w.heap.size<=b
   omega
  ·have U:=Om gY;have aw:w2.heap.size<=b:=D;rw[Below.heap_setCell _ (Ot (w.heap.size+1) 0) _ b (by show b≠w.heap.size+1;omega),Below.heap_setCell _ (Ot w.heap.size 0) _ b (by show b≠w.heap.size;omega)]
 ·exact(lF.setCell (p:=(Ot w.heap.size 0)) O6 _).setCell (p:=(Ot (w.heap.size+1) 0)) (Nat.le_succ _) _),G);exact aEp),G);exact aEw
def aql (w:Ov)(l:List Tk)(tb cap:Nat)(er:Int)(pl:Nat)
  (dB:OE 70 #[.slice (some (Ot tb 0)) l.length cap] (RW w) fun e w'=>∃ c:Ctx,e=OQ (Pj c)/\c.l=l/\(RW w).heap.size<=c.R/\PW c w' 0 0/\Below (RW w).heap.size (RW w) w')
  (HP:∀ (c:Ctx) (W:Ov),c.l=l->PW c W 0 0->OE 71 #[Pj c] W (Qn c W 0 (NV W.heap.size) (.bad er pl))) :
  OE 34 #[.slice (some (Ot tb 0)) l.length cap] w (acS (.bad er pl) w):=by
 have z:=Oq (∀{G}(h:G:=by
 obtain⟨rfl,ax⟩:=al;have z:=Oq (∀{G}(h:G:=by
 have Ir:w.heap.size+1<ap.heap.size:=lt_of_heap c1;have Fs:=hide c0;have Ft:=hide c1;clear c0 c1 HP EM hsz2 cE;refine leaves_cons (f:=69) (args:=#[OM w.heap.size 0,OM (w.heap.size+1) 0]) O8 (by simp[go_sem]) ?_;refine(ahC w.heap.size (w.heap.size+1) er pl ap _ _ gH HO eq HS Ou Ou Ir).mono ?_;rintro e g8 Lc ⟨rfl,rfl,rfl⟩
 show Leaves _ _ _ _ [] .returning _
 have cB:((((ap.setCell (Ot w.heap.size 0) Ri).setCell (Ot (w.heap.size+1) 0) (.iface 150 (OM (ap.heap.size+1) 0))).alloc (.cells #[Ol er,Ol (pl:Int)] 148)).alloc (.cells #[Ol er,Ol (pl:Int)] 152)).drew.heap[w.heap.size]? = some (O1 #[Ri] 22):=by
  show ((((ap.setCell (Ot w.heap.size 0) Ri).setCell (Ot (w.heap.size+1) 0) (.iface 150 (OM (ap.heap.size+1) 0))).alloc (.cells #[Ol er,Ol (pl:Int)] 148)).alloc (.cells #[Ol er,Ol (pl:Int)] 152)).heap[w.heap.size]? = _
  rw[Below.heap_alloc _ _ _ Rh,Below.heap_alloc _ _ _ Rh,Below.heap_setCell _ (Ot (w.heap.size+1) 0) _ _ (by show w.heap.size≠w.heap.size+1;omega),heap_set Fs.out]
  rfl
 have b5:((((ap.setCell (Ot w.heap.size 0) Ri).setCell (Ot (w.heap.size+1) 0) (.iface 150 (OM (ap.heap.size+1) 0))).alloc (.cells #[Ol er,Ol (pl:Int)] 148)).alloc (.cells #[Ol er,Ol (pl:Int)] 152)).drew.heap[w.heap.size+1]? = some (O1 #[.iface 150 (OM (ap.heap.size+1) 0)] 31):=by
  show ((((ap.setCell (Ot w.heap.size 0) Ri).setCell (Ot (w.heap.size+1) 0) (.iface 150 (OM (ap.heap.size+1) 0))).alloc (.cells #[Ol er,Ol (pl:Int)] 148)).alloc (.cells #[Ol er,Ol (pl:Int)] 152)).heap[w.heap.size+1]? = _
  have ac:(ap.setCell (Ot w.heap.size 0) Ri).heap[w.heap.size+1]? = some (O1 #[Qp] 31):=by
   rw[Below.heap_setCell _ (Ot w.heap.size 0) _ _ (by show w.heap.size+1≠w.heap.size;omega)];exact Om Ft
  rw[Below.heap_alloc _ _ _ Rh,Below.heap_alloc _ _ _ Rh,heap_set ac];rfl
 have aK:((((ap.setCell (Ot w.heap.size 0) Ri).setCell (Ot (w.heap.size+1) 0) (.iface 150 (OM (ap.heap.size+1) 0))).alloc (.cells #[Ol er,Ol (pl:Int)] 148)).alloc (.cells #[Ol er,Ol (pl:Int)] 152)).drew.cell? (Ot w.heap.size 0)=some Ri:=by rw[cell_of cB];rfl
 have ay:((((ap.setCell (Ot w.heap.size 0) Ri).setCell (Ot (w.heap.size+1) 0) (.iface 150 (OM (ap.heap.size+1) 0))).alloc (.cells #[Ol er,Ol (pl:Int)] 148)).alloc (.cells #[Ol er,Ol (pl:Int)] 152)).drew.cell? (Ot (w.heap.size+1) 0)=some (.iface 150 (OM (ap.heap.size+1) 0)):=by rw[cell_of b5];rfl
 obtain⟨Lf,Ao⟩:=xE (((((ap.setCell (Ot w.heap.size 0) Ri).setCell (Ot (w.heap.size+1) 0) (.iface 150 (OM (ap.heap.size+1) 0))).alloc (.cells #[Ol er,Ol (pl:Int)] 148)).alloc (.cells #[Ol er,Ol (pl:Int)] 152)).drew);rw[<-Ao] at aK ay;rw[<-Ao];refine⟨.tuple #[Ri,.iface 150 (OM (ap.heap.size+1) 0)],by simp[results,results34,go_sem,aK,ay],ap.heap.size+1,rfl,?_,by omega,?_⟩
 all_goals rw[Ao]
 ·have:=OA (((ap.setCell (Ot w.heap.size 0) Ri).setCell (Ot (w.heap.size+1) 0) (.iface 150 (OM (ap.heap.size+1) 0))).alloc (.cells #[Ol er,Ol (pl:Int)] 148)) (.cells #[Ol er,Ol (pl:Int)] 152);rw[show ((((ap.setCell (Ot w.heap.size 0) Ri).setCell (Ot (w.heap.size+1) 0) (.iface 150 (OM (ap.heap.size+1) 0))).alloc (.cells #[Ol er,Ol (pl:Int)] 148)).heap.size)=ap.heap.size+1 by simp] at this;exact this
 ·have ac:=lF.size;exact(((((lF.setCell (p:=(Ot w.heap.size 0)) O6 _).setCell (p:=(Ot (w.heap.size+1) 0)) (Nat.le_succ _) _).alloc (by simpa using ac) _).alloc Rh _).drew)),G);exact aEp),G);exact aEw
def WQ {c:Ctx}(f:Nat)(jv:VR f)(w:Ov)(d i:Nat)(r:PR Tr)(aR:r≠.out)(q:Nat)(ag:QG Uj (fx c.l i)=some q)(aH:avw q=f)(al:∀ W,PW c W i d->OE f #[Pj c] W (Qn c W d (NV W.heap.size) r))(h:PW c w i d) :
  OE 160 #[Pj c] w (Qn c w d (NV w.heap.size) r):=by
 have dU:Hid (∀ W:Ov,PW c W i d->(Instr.lookup 231 (.map (some c.mT)) (OB (fx c.l i)) true).run prog W=.ok (.tuple #[.func (.func f) #[OM c.R 0] #[],OC true]) W):=fun W a1=>by
  have:=ad9 c (fx c.l i) W a1.base.azl;rw[ag] at this;simp only[aFk,aH] at this;exact this
 have bB:=h;have e1:=(Ap.refl c.R w.heap.size w);have HP:=hide al;have dw:=hide aR;clear h aR ag aH al;go_enter func160,ntmps160;have z:=Oq (∀{G}(h:G:=by
 refine wh 0 (Pj c) bB.drew ?_;refine wh 1 (Pj c) bB.drew ?_;refine wh 2 (OM c.R 4) bB.drew ?_;refine wg 3 (.map (some c.mT)) rfl (Or.inl ⟨by kernel_rfl,fun W a1=>by have hh:=PW.c4 a1;go_simp⟩) bB.drew ?_
 exact aDy),G);exact abe
def aua {c:Ctx}{F:SX}(ah:FC c F)(w:Ov)(d i:Nat)(r:PR Tr)(ac:Wh c.l F d i=r)(aR:r≠.out)(ag:QG Uj (fx c.l i)=none)(h:PW c w i d):OE 160 #[Pj c] w (Qn c w d (NV w.heap.size) r):=by
 have jx:=RN c.R 224;have dU:Hid (∀ W:Ov,PW c W i d->(Instr.lookup 231 (.map (some c.mT)) (OB (fx c.l i)) true).run prog W=.ok (.tuple #[.nilFunc,OC false]) W):=fun W a1=>by
  have:=ad9 c (fx c.l i) W a1.base.azl;rw[ag] at this;exact this
 clear ag;have z:=Oq (∀{G}(h:G:=by
 unfold Wh at ac;have a':=hide ac;have dw:=hide aR;clear h ac aR;go_enter func160,ntmps160;have z:=Oq (∀{G}(h:G:=by
 refine wh 0 (Pj c) bB.drew ?_;refine wh 1 (Pj c) bB.drew ?_;refine wh 2 (OM c.R 4) bB.drew ?_;refine wg 3 (.map (some c.mT)) rfl (Or.inl ⟨by kernel_rfl,fun W a1=>by have hh:=PW.c4 a1;go_simp⟩) bB.drew ?_
 have z:=Oq (∀{G}(h:G:=by
 cases aa:PD c.l F.vl d i with
 | out=>
  exact RS
 | bad er p=>
  have ai:=(VG ah fA d i eW (by rw[aa];nofun))
  exact axY
 | ok cp bK=>
  have ai:=(VG ah fA d i eW (by rw[aa];nofun))
  have z:=Oq (∀{G}(h:G:=by
  intro e w1 al;obtain⟨⟨v1,rfl,p1,rfl,gL⟩,ba,ax⟩:=al;have ew:=(lD.next ax);have bM:=ba;have eh:=(TB gL lD.size)
  cases aa:Pm c.l Qv bK with
  | out=>
   exact RS
  | bad er p=>
   have ai:=(Pq c Qv w1 bK d bM Oz);exact ap4
  | ok dG b'=>
   have ai:=(Pq c Qv w1 bK d bM Oz);have z:=Oq (∀{G}(h:G:=by
   intro e w2 al;obtain⟨⟨v2,rfl,rfl⟩,ba,ax⟩:=al;have ee:=(ew.next ax);replace eh:=(SS eh ax bS.out);have ai:=(PV 15 Ox (.slice (some (Ot w2.heap.size 0)) 1 1) (w2.alloc (.cells #[Oo p1] 22)) ⟨_,_,_,rfl⟩);have z:=Oq (∀{G}(h:G:=by
   obtain⟨cO,cP,df⟩:=made ba ee (OL.cons eh OL.nil) (by simp[maxLen]) #[Oo p1] rfl 1 rfl 15 Ox (w2.heap.size+1) rfl;exact Ue a'.out.symm cO.nv cP df),G);exact aaD),G);exact XZ),G);exact XZ),G);exact zsu),G);exact abe),G);exact amJ
def aqH {c:Ctx}{F:SX}(ah:FC c F)(w:Ov)(d i:Nat)(r:PR Tr)(E:(O9 c.l i).kd≠6)(ac:WG c.l F d i=r)(aR:r≠.out)(h:PW c w i d):OE 147 #[Pj c] w (Qn c w d (NV w.heap.size) r):=by
 have jx:=RN c.R 224;have op:=hide E;have z:=Oq (∀{G}(h:G:=by
 clear E;have z:=Oq (∀{G}(h:G:=by
 unfold WG at ac;have a':=hide ac;have dw:=hide aR;clear h ac aR;go_enter func147,ntmps147;have z:=Oq (∀{G}(h:G:=by
 cases aa:nameP c.l (i+1) with
 | out=>
  exact RS
 | bad er p=>
  have ai:=(name_any c wk (i+1) d iY);exact aDY
 | ok cp bK=>
  have ai:=(name_any c wk (i+1) d iY);have z:=Oq (∀{G}(h:G:=by
  intro e w1 al;obtain⟨⟨v1,rfl,rfl⟩,ba,ax⟩:=al;have ew:=(td.next ax);have bM:=ba;have ai:=(PV hd cp QD w1 ⟨_,_,_,rfl⟩);go_wp2_with fail;refine cm ai ?_;rintro e BZ ⟨rfl,rfl⟩;obtain⟨cO,cP,df⟩:=aaS bM ew (KV.nil _ _) hd cp _ rfl;obtain⟨t0,jQ⟩:=xE (.mk hd cp 0 []:Tr);have z:=Oq (∀{G}(h:G:=by
  have iP:aZ=w1.heap.size:=by simpa[Oo] using gP.symm
  have z:=Oq (∀{G}(h:G:=by
  obtain⟨fe,iz⟩:=xE (w1.alloc (Px hd cp 0 QD));rw[<-iz] at eo jH kb iW uf;rw[<-iP] at eo iW uf;rw[<-iz,<-iP];clear iz iP
  by_cases aL:hd=4
  ·have oB:(hd==4)=true:=beq_iff_eq.2 aL;have ai:=(SN c fe bK d jH)
   by_cases ae:fx c.l bK=tEq
   ·rw[if_neg (fun hh=>hh.2 ae)] at a';have sr:((fx c.l bK).toList==[61])=true:=V8 (b:=tEq) rfl ae;clear aL;have z:=Oq (∀{G}(h:G:=by
    clear ae
    by_cases hy:fx c.l bK=tEq
    ·rw[if_pos hy] at a';have ai:=(SQ c tEq dM bK d j1 hy Oz);clear hy;go_wp2_with fail;refine cm ai ?_;rintro e gX ⟨rfl,Bl,vW⟩;have q2:=Bl;have ph:=(jC.next vW);replace ck:=(Open.later ck vW bS.out);have z:=Oq (∀{G}(h:G:=by
     cases aa:PD c.l F.vl d (bK+1) with
     | out=>
      exact RS
     | bad er p=>
      exact aDG
     | ok lB hm=>
      have ai:=(VG ah gX.drew d (bK+1) q2.drew (by rw[aa];nofun))
      rw[aa] at ai a';simp only[bind_ok] at a';clear aa;go_wp2_with fail;refine acC (H:=fun aE cA=>Ap c.R gX.heap.size gX aE/\PW c aE hm d/\Qb (From gX.heap.size) aE lB cA) (G:=?G1) (fun dJ=>?_) ?_;rotate_left
      ·exact aE8
      intro aE cA cw;obtain⟨dy,ba,jO⟩:=cw;have e7:=(ph.next dy);have fS:=ba;have eG:=(Open.later ck dy bS.out);have mZ:=(Open.apart ck ph.size dy bS.out (OL.cons jO OL.nil));obtain⟨gx,gy,hI⟩:=eG.cell;have hlen:=OL.length _ _ eG.kids;have hown:=eG.row;rw[hlen] at hown;have HOWN:=hown;have dd:=e7.size;have cM:t0.kids.length<=3:=by rw[jb.out];decide
      clear hlen;refine QV 10 fun K A=>?_;refine step_append_lies _ rfl _ _ 38 rfl w.heap.size 22 i0 Ri 1 8 underlying38 dR dA b9 cn rfl Oz _ _ _ rfl (HOWN.alloc _) (Ot aE.heap.size 0) 1 1 [Oo cA] rfl rfl (RY aE cA _ rfl) (one_one cA) Oz (by unfold maxLen;omega) Ou Rh (aE.heap.size+1) O8 ?_
      intro g cap ap hown3 eY db _;refine A _ _ ?_;clear A K;have gE:=hide (YX eG mZ fS e7 iF.out hown3 eY db);have gq:ap.cell? (Ot aZ 3)=aE.cell? (Ot aZ 3)/\ap.frozen? (Ot aZ 3)=aE.frozen? (Ot aZ 3):=ap2
      obtain⟨gN,gO⟩:=gq;rw[gx] at gN;rw[gy 3] at gO;clear db;refine wt 11 (Oo aZ) ?_;refine wt 12 (OM aZ 3) ?_;refine QV 13 fun K A=>?_;go_simp;refine A _ _ ?_;clear A K gN gO gx gy hI;refine wpAny_done PK ?_ _;go_simp;obtain⟨cO,cP,df⟩:=Om gE;have jF:=cO;have cZ:=cP;have jG:=df
      cases aa:Pm c.l Qv hm with
      | out=>
       exact RS
      | bad er p=>
       exact atq
      | ok dG b'=>
       exact aFd),G);exact ap9
    ·rw[if_neg hy] at a';have ai:=(Uf c tEq dM bK d j1 hy);clear hy;go_wp2_with fail;refine cm ai ?_;rintro e gX ⟨rfl,g5⟩;have q2:=(j1.later g5);have ph:=(jC.next (Ap.of g5));exact aFa),G);exact atB
   ·rw[if_pos ⟨aL,ae⟩] at a';have sr:((fx c.l bK).toList==[61])=false:=VJ (b:=tEq) rfl ae;clear aL ae;have z:=Oq (∀{G}(h:G:=by
    have ai:=(Vq c 3 dM bK d j1);go_wp2_with fail;refine cm ai ?_;rintro e jU ⟨rfl,j4⟩;exact⟨rfl,Qo a'.out.symm (jC.next (Ap.of j4))⟩),G);exact atB
  ·have oB:(hd==4)=false:=beq_eq_false_iff_ne.2 aL;rw[if_neg (fun hh=>aL hh.1)] at a';clear aL;have ck:=eo
   by_cases hy:fx c.l bK=tEq
   ·rw[if_pos hy] at a';have ai:=(SQ c tEq fe bK d jH hy Oz);clear hy;go_wp2_with fail;refine cm ai ?_;rintro e gX ⟨rfl,Bl,vW⟩;have q2:=Bl;have ph:=(kb.next vW);replace ck:=(Open.later ck vW bS.out);have z:=Oq (∀{G}(h:G:=by
    cases aa:PD c.l F.vl d (bK+1) with
    | out=>
     exact RS
    | bad er p=>
     exact aDG
    | ok lB hm=>
     have ai:=(VG ah gX.drew d (bK+1) q2.drew (by rw[aa];nofun))
     rw[aa] at ai a';simp only[bind_ok] at a';clear aa;go_wp2_with fail;refine acC (H:=fun aE cA=>Ap c.R gX.heap.size gX aE/\PW c aE hm d/\Qb (From gX.heap.size) aE lB cA) (G:=?G2) (fun dJ=>?_) ?_;rotate_left
     ·exact aE8
     intro aE cA cw;obtain⟨dy,ba,jO⟩:=cw;have e7:=(ph.next dy);have fS:=ba;have eG:=(Open.later ck dy bS.out);have mZ:=(Open.apart ck ph.size dy bS.out (OL.cons jO OL.nil));obtain⟨gx,gy,hI⟩:=eG.cell;have hlen:=OL.length _ _ eG.kids;have hown:=eG.row;rw[hlen] at hown;have HOWN:=hown;have dd:=e7.size;have cM:t0.kids.length<=3:=by rw[jb.out];decide
     clear hlen;refine QV 10 fun K A=>?_;refine step_append_lies _ rfl _ _ 38 rfl w.heap.size 22 i0 Ri 1 8 underlying38 dR dA b9 cn rfl Oz _ _ _ rfl (HOWN.alloc _) (Ot aE.heap.size 0) 1 1 [Oo cA] rfl rfl (RY aE cA _ rfl) (one_one cA) Oz (by unfold maxLen;omega) Ou Rh (aE.heap.size+1) O8 ?_
     intro g cap ap hown3 eY db _;refine A _ _ ?_;clear A K;have gE:=hide (YX eG mZ fS e7 iF.out hown3 eY db);have gq:ap.cell? (Ot aZ 3)=aE.cell? (Ot aZ 3)/\ap.frozen? (Ot aZ 3)=aE.frozen? (Ot aZ 3):=ap2
     obtain⟨gN,gO⟩:=gq;rw[gx] at gN;rw[gy 3] at gO;clear db;refine wt 11 (Oo aZ) ?_;refine wt 12 (OM aZ 3) ?_;refine QV 13 fun K A=>?_;go_simp;refine A _ _ ?_;clear A K gN gO gx gy hI;refine wpAny_done PK ?_ _;go_simp;obtain⟨cO,cP,df⟩:=Om gE;have jF:=cO;have cZ:=cP;have jG:=df
     cases aa:Pm c.l Qv hm with
     | out=>
      exact RS
     | bad er p=>
      exact atq
     | ok dG b'=>
      exact aFd),G);exact ap9
   ·rw[if_neg hy] at a';have ai:=(Uf c tEq fe bK d jH hy);clear hy;go_wp2_with fail;refine cm ai ?_;rintro e gX ⟨rfl,g5⟩;have q2:=(jH.later g5);have ph:=(kb.next (Ap.of g5));exact aFa),G);exact aE1),G);exact aEI),G);exact XZ),G);exact aEF),G);exact amJ),G);exact amL
def binds {α β:Type}{r:PR α}{f:α->Nat->PR β}{y:β}{j:Nat}(h:r.bind f=.ok y j):∃ x i,r=.ok x i/\f x i=.ok y j:=by
 cases r with
 | ok x i=>exact⟨x,i,rfl,h⟩
 | bad er p=>cases h
 | out=>cases h
def count_mk (kd:Int)(tx:OH)(n:Int)(ks:List Tr):(Tr.mk kd tx n ks).count=1+Tr.counts ks:=by rw[Tr.count]
def OZ:Tr.counts []=0:=by rw[Tr.counts]
def OU (t:Tr)(ao:List Tr):Tr.counts (t::ao)=t.count+Tr.counts ao:=by rw[Tr.counts]
def UJ:∀ (ao fE:List Tr),Tr.counts (ao++fE)=Tr.counts ao+Tr.counts fE
 | [],fE=>by rw[List.nil_append,OZ,Nat.zero_add]
 | t::ao,fE=>by rw[List.cons_append,OU,OU,UJ ao fE,Nat.add_assoc]
def abM (t:Tr):(Tv t).count=t.count:=by
 unfold Tv
 split
 ·rw[count_mk,count_mk]
 ·rfl
section
variable {l:List Tk}
def Sr {s:OH}{i j:Nat}{x:Unit}(h:Pm l s i=.ok x j):j=i+1:=by
 unfold Pm at h
 split at h
 ·
  cases h;rfl
 ·
  cases h
def Xy {s:OH}{i j:Nat}(h:nameP l i=.ok s j):j=i+1:=by
 unfold nameP at h
 split at h
 ·
  cases h;rfl
 ·
  cases h
def Cb (i:Nat)(r:PR Tr):Prop:=∀ t j,r=.ok t j->t.count+3 * i<=3 * j
def U1 {f:Nat->Nat->PR Tr}{d i:Nat}(h:Cb i (f (d+1) i)):Cb i (PD l f d i):=by
 unfold PD
 split
 ·intro t j e;cases e
 ·exact h
def af8 {shut:OH}{begins:Nat->Bool}{part:Nat->PR Tr}(al:∀ i,Cb i (part i)):∀ k aX i t j,QN l shut begins part k aX i=.ok t j->Tr.counts t+3 * i<=Tr.counts aX+3 * j:=by
 intro k
 induction k with
 | zero=>intro aX i t j h;cases h
 | succ k bn=>
  intro aX i t j h;unfold QN at h
  split at h
  ·
   cases h
  ·obtain⟨u,a7,h1,h⟩:=binds h;have:=al i u a7 h1
   split at h
   ·
    cases h;rw[UJ,OU,OZ];omega
   ·obtain⟨_,i2,U,h⟩:=binds h;have aw:=Sr U;have aL:=bn _ _ _ _ h;rw[UJ,OU,OZ] at aL;omega
def aer {opn shut:OH}{begins:Nat->Bool}{part:Nat->PR Tr}(al:∀ i,Cb i (part i)){k i j:Nat}{t:List Tr}(h:UQ l opn shut begins part k i=.ok t j):Tr.counts t+3 * i+3<=3 * j:=by
 unfold UQ at h;obtain⟨_,a7,h1,h⟩:=binds h;have U:=Sr h1
 split at h
 ·
  cases h;rw[OZ];omega
 ·have:=af8 al _ _ _ _ _ h;rw[OZ] at this;omega
structure FCb (F:SX):Prop where
 st:∀ d i,Cb i (F.st d i)
 vl:∀ d i,Cb i (F.vl d i)
 pr:∀ b d i,Cb i (F.pr b d i)
 sg:∀ d i,Cb i (F.sg d i)
variable {F:SX} (ah:FCb F)
include ah
theorem aes {d:Nat}:∀ k aX i t j,Qa l F d k aX i=.ok t j->Tr.counts t+3 * i+3<=Tr.counts aX+3 * j:=by
 intro k
 induction k with
 | zero=>intro aX i t j h;cases h
 | succ k bn=>
  intro aX i t j h;unfold Qa at h;exact azX
theorem X8 {d i j:Nat}{t:Tr}(h:PX l F d i=.ok t j):t.count+3 * i+5<=3 * j:=by
 unfold PX at h;obtain⟨_,a7,h1,h⟩:=binds h;obtain⟨ao,i2,U,h⟩:=binds h;cases h;have aw:=Sr h1;have aL:=aes ah _ _ _ _ _ U;rw[OZ] at aL;rw[count_mk];omega
omit ah in
theorem anN (i:Nat):Cb i (Td l i):=by
 intro t j h;unfold Td at h;obtain⟨_,a7,h1,h⟩:=binds h;cases h;have:=Xy h1;rw[count_mk,OZ];omega
omit ah in
theorem alq {i j:Nat}{t:Tr}(h:QY l F i=.ok t j):t.count+3 * i+2<=3 * j:=by
 unfold QY at h;obtain⟨ao,a7,h1,h⟩:=binds h;cases h;have:=aer anN h1;rw[count_mk];omega
section
variable (d i:Nat)
include d i
theorem avS:Cb i (aaZ l F d i):=U1 (ah.vl _ _)
theorem arL:Cb i (UZ l F d i):=by
 intro t j h;unfold UZ at h;obtain⟨_,a7,h1,h⟩:=binds h;obtain⟨_,i2,U,h⟩:=binds h;obtain⟨u,i3,aw,h⟩:=binds h;cases h;have ay:=Xy h1;have bz:=Sr U;have ez:=U1 (l:=l) (ah.vl _ _) u _ aw;rw[count_mk,OU,OZ];omega
theorem abN:Cb i (SC l F d i):=by
 intro t j h;unfold SC at h;obtain⟨_,a7,h1,h⟩:=binds h;obtain⟨u,i2,U,h⟩:=binds h;obtain⟨_,i3,aw,h⟩:=binds h;cases h;have ay:=Sr h1;have bz:=U1 (l:=l) (ah.vl _ _) _ _ U;have ez:=Sr aw;omega
theorem alr:Cb i (Tf l F d i):=by
 intro t j h;unfold Tf at h;obtain⟨ao,a7,h1,h⟩:=binds h;cases h;have:=aer (arL ah d) h1;rw[count_mk];omega
end
theorem aeu {kd:Int}{s:OH}{d i j:Nat}{t:Tr}(h:Qy l F kd s d i=.ok t j):t.count+3 * i<=3 * j:=by
 unfold Qy at h;obtain⟨ps,a7,h1,h⟩:=binds h;obtain⟨b,i2,U,h⟩:=binds h;cases h;have ay:=alq h1;have bz:=X8 ah U;rw[count_mk,OU,OU,OZ,abM];omega
theorem als (d i:Nat):Cb i (Ti l F d i):=by
 intro t j h;unfold Ti at h;obtain⟨_,a7,h1,h⟩:=binds h;have ay:=Sr h1
 split at h
 ·obtain⟨_,i2,U,h⟩:=binds h;have bz:=Xy U;have:=aeu ah h;omega
 ·have:=aeu ah h;omega
theorem arM (d i:Nat):Cb i (V9 l F d i):=by
 intro t j h;unfold V9 at h;obtain⟨_,a7,h1,h⟩:=binds h;obtain⟨_,i2,U,h⟩:=binds h;have ay:=Sr h1;have bz:=Xy U;have:=aeu ah h;omega
theorem anO (d i:Nat):Cb i (SE l F d i):=by
 unfold SE
 split
 ·exact abN ah d i
 ·exact alr ah d i
 ·exact als ah d i
 ·split
  ·intro t j h;cases h;rw[count_mk,OZ];omega
  ·split
   ·intro t j h;cases h;rw[count_mk,OZ];omega
   ·split
    ·intro t j h;cases h;rw[count_mk,OZ];omega
    ·split
     ·intro t j h;cases h;rw[count_mk,OZ];omega
     ·intro t j h;cases h
theorem aev {d:Nat}:∀ k u i t j,Qr l F d k u i=.ok t j->t.count+3 * i<=u.count+3 * j:=by
 intro k
 induction k with
 | zero=>intro u i t j h;cases h
 | succ k bn=>
  intro u i t j h;unfold Qr at h
  split at h
  ·obtain⟨s,a7,h1,h⟩:=binds h;have ay:=Xy h1;have bz:=bn _ _ _ _ h;rw[count_mk,OU,OZ] at bz;omega
  ·split at h
   ·obtain⟨ao,a7,h1,h⟩:=binds h;have ay:=aer (avS ah d) h1;have bz:=bn _ _ _ _ h;rw[count_mk,OU] at bz;omega
   ·
    cases h;omega
theorem anP (d i:Nat):Cb i (SG l F d i):=by
 intro t j h;unfold SG at h;obtain⟨u,a7,h1,h⟩:=binds h;have ay:=anO ah d i u a7 h1;have bz:=aev ah _ _ _ _ _ h;omega
theorem alu (d i:Nat):Cb i (Ry l F d i):=by
 unfold Ry
 split
 ·intro t j h;obtain⟨u,a7,h1,h⟩:=binds h;cases h;have:=U1 (l:=l) (ah.sg _ _) u _ h1;rw[count_mk,OU,OZ];omega
 ·exact anP ah d i
theorem af9 {b:Int}{d:Nat}:∀ k u i t j,QO l F b d k u i=.ok t j->t.count+3 * i<=u.count+3 * j:=by
 intro k
 induction k with
 | zero=>intro u i t j h;cases h
 | succ k bn=>
  intro u i t j h;unfold QO at h
  split at h
  ·
   cases h;omega
  ·split at h
   ·
    cases h;omega
   ·obtain⟨v,a7,h1,h⟩:=binds h;have ay:=ah.pr _ _ _ v a7 h1;have bz:=bn _ _ _ _ h;rw[count_mk,OU,OU,OZ] at bz;omega
theorem arN (b:Int)(d i:Nat):Cb i (U0 l F b d i):=by
 intro t j h;unfold U0 at h;obtain⟨u,a7,h1,h⟩:=binds h;have ay:=ah.sg _ _ u a7 h1;have bz:=af9 ah _ _ _ _ _ h;omega
theorem anQ (d i:Nat):Cb i (Tj l F d i):=by
 intro t j h;unfold Tj at h;obtain⟨u,a7,h1,h⟩:=binds h;have ay:=ah.pr _ _ _ u a7 h1
 split at h
 ·split at h
  ·obtain⟨v,i2,U,h⟩:=binds h;cases h;have bz:=U1 (l:=l) (ah.vl _ _) v _ U;rw[count_mk,OU,OU,OZ];omega
  ·
   cases h
 ·
  cases h;exact ay
theorem arO (d q i:Nat):Cb i (Wi l F d q i):=by
 intro t j h;unfold Wi at h
 split at h
 ·unfold WG at h;obtain⟨s,a7,h1,h⟩:=binds h;have ay:=Xy h1
  split at h
  ·
   cases h
  ·split at h
   ·obtain⟨v,i2,U,h⟩:=binds h;obtain⟨_,i3,aw,h⟩:=binds h;cases h;have bz:=U1 (l:=l) (ah.vl _ _) v _ U;have ez:=Sr aw;rw[count_mk,OU,OZ];omega
   ·obtain⟨_,i3,aw,h⟩:=binds h;cases h;have ez:=Sr aw;rw[count_mk,OZ];omega
 ·exact arM ah d i t j h
 ·have:=X8 ah h;omega
 ·obtain⟨_,i3,aw,h⟩:=binds h;cases h;have ez:=Sr aw;rw[count_mk,OZ];omega
 ·unfold Tn at h;obtain⟨v,a7,h1,h⟩:=binds h;obtain⟨s,i2,U,h⟩:=binds h;have ay:=abN ah d _ v a7 h1;have bz:=U1 (l:=l) (ah.st _ _) s _ U
  split at h
  ·obtain⟨s2,i3,aw,h⟩:=binds h;cases h;have ez:=U1 (l:=l) (ah.st _ _) s2 _ aw;rw[count_mk,OU,OU,OU,OZ];omega
  ·
   cases h;rw[count_mk,OU,OU,OZ];omega
 ·unfold Rz at h;obtain⟨v,a7,h1,h⟩:=binds h;obtain⟨s,i2,U,h⟩:=binds h;cases h;have ay:=abN ah d _ v a7 h1;have bz:=U1 (l:=l) (ah.st _ _) s _ U;rw[count_mk,OU,OU,OZ];omega
 ·unfold TJ at h
  split at h
  ·exact azY
  ·obtain⟨_,i2,U,h⟩:=binds h;cases h;have bz:=Sr U;rw[count_mk,OZ];omega
 ·have z:=Oq (∀{G}(h:G:=by
  have aK:=Sr h0;have ay:=X8 ah h1;have bz:Tr.counts c+3 * a7<=3 * i2:=by
   unfold VK at U
   split at U
   ·obtain⟨_,bQ,b5,U⟩:=binds U;obtain⟨_,ds,ef,U⟩:=binds U;obtain⟨_,iA,d7,U⟩:=binds U;obtain⟨j3,k4,m4,U⟩:=binds U;cases U;have:=Sr b5;have:=Xy ef;have:=Sr d7;have:=X8 ah m4;rw[OU,count_mk,OU,OZ];omega
   ·
    cases U;rw[OZ];omega
  have ez:Tr.counts f+3 * i2<=3 * i3:=by
   unfold SH at aw
   split at aw
   ·obtain⟨j3,k4,m4,aw⟩:=binds aw;cases aw;have:=X8 ah m4;rw[OU,count_mk,OU,OZ];omega
   ·
    cases aw;rw[OZ];omega
  split at h
  ·
   cases h
  ·
   cases h;rw[count_mk,OU,UJ];omega),G);exact azZ
theorem aew (d i:Nat):Cb i (PY l F d i):=by
 unfold PY
 split
 ·exact arO ah d _ i
 ·intro t j h;unfold Wh at h;exact azY
omit ah in
theorem avT:∀ k,FCb (fns l k):=by
 intro k
 induction k with
 | zero=>exact⟨fun _ _ _ _ h=>by (cases h),fun _ _ _ _ h=>by (cases h),fun _ _ _ _ _ h=>by (cases h),fun _ _ _ _ h=>by (cases h)⟩
 | succ k bn=>exact⟨aew bn,anQ bn,arN bn,alu bn⟩
theorem aga:∀ k aX i t j,PL l F k aX i=.ok t j->Tr.counts t+3 * i<=Tr.counts aX+3 * j:=by
 intro k
 induction k with
 | zero=>intro aX i t j h;cases h
 | succ k bn=>
  intro aX i t j h;unfold PL at h;exact azX
theorem arP {t:Tr}{j:Nat}(h:Uh l F=.ok t j):t.count<=1+3 * j:=by
 unfold Uh at h;obtain⟨ao,a7,h1,h⟩:=binds h;cases h;have:=aga ah _ _ _ _ _ h1;rw[OZ] at this;rw[abM,count_mk];omega
end
def OL.get {I:Nat->Prop}{w:Ov}:∀ (ao:List Tr) (ps:List Nat),OL I w ao ps->∀ k,(E:k<ao.length)->∃ al:k<ps.length,Qb I w ao[k] ps[k]
 | [],_,_,k,E=>absurd E O8
 | t::ao,ps,h,k,E=>by
  obtain⟨p,eQ,rfl,h1,U⟩:=h.parts
  cases k with
  | zero=>exact⟨by simp,h1⟩
  | succ k=>
   obtain⟨al,az⟩:=OL.get ao eQ U k (by simpa using E);exact⟨by simpa using al,by simpa using az⟩
def V5.get {I:Nat->Prop}{w:Ov}:∀ (ao:List Tr) (ps:List Nat),V5 I w ao ps->∀ k,(E:k<ao.length)->∃ al:k<ps.length,Qb I w ao[k] ps[k]
 | [],_,_,k,E=>absurd E O8
 | t::ao,ps,h,k,E=>by
  obtain⟨p,eQ,rfl,h1,U⟩:=h
  cases k with
  | zero=>exact⟨by simp,h1⟩
  | succ k=>
   obtain⟨al,az⟩:=V5.get ao eQ U k (by simpa using E);exact⟨by simpa using al,by simpa using az⟩
def Vy:∀ (ao:List Tr) (k:Nat) (E:k<ao.length),Tr.counts (ao.take (k+1))=Tr.counts (ao.take k)+(ao[k]).count
 | [],k,E=>absurd E O8
 | t::ao,0,_=>by simp[OU,OZ]
 | t::ao,k+1,E=>by
  have:=Vy ao k (by simpa using E);simp only[List.take_succ_cons,OU,List.getElem_cons_succ];omega
def UO (ao:List Tr)(k:Nat)(E:k<ao.length):(ao[k]).count<=Tr.counts ao:=by
 have h1:=Vy ao k E;have U:Tr.counts ao=Tr.counts (ao.take (k+1))+Tr.counts (ao.drop (k+1)):=by rw[<-UJ,List.take_append_drop]
 omega
def ane (t:Tr):1<=t.count:=by cases t with|mk kd tx n ks=>rw[count_mk];omega
def S9:∀ (ao:List Tr),ao.length<=Tr.counts ao
 | []=>by simp
 | t::ao=>by
  have h1:=ane t;have U:=S9 ao;rw[OU,List.length_cons];omega
abbrev aFS (b:Nat):OG:=.func (.func 72) #[] #[OM b 0]
def aj1 (v:OG)(b:Nat)(n:Int)(w:Ov)(aj:w.cell? (Ot b 0)=some (Ol n))(aH:∀ o,w.frozen? (Ot b o)=false)(az:0<=n)(kr:n<=100000) :
  OE 72 #[v,OM b 0] w fun e w'=>e=OQ (OC true)/\w'=w.setCell (Ot b 0) (Ol (n+1)):=by
 go_enter func72,ntmps72;go_wp2;go_ret;exact⟨rfl,rfl⟩
def Qb.abT {I:Nat->Prop}{w:Ov}{t:Tr}{p:Nat}(h:Qb I w t p):∃ u ps,w.heap[p]? = some (Px t.kd t.tx t.n u)/\w.ownsRow 0 22 1 u ps.length (ps.map Oo)/\(∀ g,u.ownBlock=some g->I g)/\OL I w t.kids ps:=by
 cases t with
 | mk kd tx n ks=>
  rw[Qb] at h;obtain⟨_,u,ps,h1,U,aw⟩:=h;exact⟨u,ps,h1,U.1,U.2,OL.mono (fun b D _=>D.1) _ _ aw⟩
structure Cnt (b:Nat)(n:Nat)(w:Ov):Prop where
 blk:w.heap[b]? = some (O1 #[Ol (n:Int)] 3)
def Cnt.set {b n:Nat}{w:Ov}(h:Cnt b n w)(m:Nat){v:Int}(av:v=(m:Int)):Cnt b m (w.setCell (Ot b 0) (Ol v)):=⟨by rw[heap_set h.blk,av];rfl⟩
def aHx:VR 72:=fun _ _=>by kernel_rfl
def walk_any (b:Nat):∀ (m:Nat) (t:Tr),t.count<=m->∀ (p n:Nat) (w:Ov),Qb (fun x=>x≠b) w t p->Cnt b n w->n+t.count<=100000 ->
  OE 36 #[Oo p,aFS b] w fun e w'=>e=OQ (.tuple #[])/\Cnt b (n+t.count) w'/\Ap b w.heap.size w w':=by
 intro m
 induction m with
 | zero=>
  exact avN
 | succ m bn=>
  intro t bc p n w fo m6 dZ;obtain⟨u,ps,hblk,hrow,pQ,eT⟩:=fo.abT;have hlen:=OL.length _ _ eT;have bV:p≠b:=by
   cases t with
   | mk kd tx gt ks=>rw[Qb] at fo;exact fo.1
  have z:=Oq (∀{G}(h:G:=by
  have c0:w.cell? (Ot b 0)=some (Ol (n:Int)):=by rw[cell_of m6.blk];rfl
  have oD:=Sv m6.blk;have jv:=aHx;have hA:∀ W:Ov,(binOp .eql 47 (aFS b) .nilFunc).run prog W=.ok (OC false) W:=fun W=>by kernel_rfl
  have ai:=(aj1 (Oo p) b (n:Int) w c0 oD Ou Ou);have xj:=m6;have vj:=hide pQ;have nB:=hide bn;have qe:=hide gQ;have uZ:=hide bc;have rP:=hide dZ;have n7:¬ b=p:=fun e=>bV e.symm;have d7:(w.setCell (Ot b 0) (Ol ((n:Int)+1))).cell? (Ot p 3)=some (.slice cV ps.length uc):=by
   rw[World.cell?_of_block (w:=w) (Below.heap_setCell w (Ot b 0) _ p bV)];exact fU
  rw[hlen] at d7;have nA:=hide d7;clear c0 oD pQ bn gQ bc dZ hblk fU bV n7 d7;have db:=Om nA;go_enter func36,ntmps36;go_wp2_with fail;refine cm ai ?_;rintro e w1 ⟨rfl,rfl⟩;go_wp2_with fail
  go_loopw [23] (fun i wr=>∃ k:Nat,k<=t.kids.length/\i=Ol k/\Cnt b (n+1+Tr.counts (t.kids.take k)) wr/\Ap b w.heap.size w wr) (fun i _=>t.kids.length - (intOf i).toNat)
  case atStart=>exact⟨0,Nat.zero_le _,rfl,by simpa[OZ] using xj.set (n+1) Ou,Ap.setCell (R:=b) (Ap.refl _ _ _) (p:=(Ot b 0)) (Or.inr rfl) _⟩
  case round=>
   obtain⟨k,E,rfl,m6,gA⟩:=hrel
   by_cases aQ:k<t.kids.length
   ·obtain⟨g,cap,av,hcell⟩:=Xf hrow Ou;simp only[Value.slice.injEq] at av;obtain⟨rfl,_,rfl⟩:=av;obtain⟨dc,mA⟩:=OL.get _ _ eT k aQ;have ub:g≠b:=Om vj g rfl;have dI:g<w.heap.size:=(Qj hrow g rfl).1;have ej:wr.cell? (Ot g k)=some (Oo ps[k]):=by
     rw[gA.cell (p:=(Ot g k)) dI ub];exact hcell k dc
    have wo:Qb (fun x=>x≠b) wr t.kids[k] ps[k]:=Qb.later (fun x ae hl=>gA.block x hl ae) _ _ mA;have gc:=UO t.kids k aQ;have uo:=Vy t.kids k aQ;have h1:=Om qe;have U:=Om uZ;have aw:=Om rP;have htot:Tr.counts (t.kids.take k)+(t.kids[k]).count<=Tr.counts t.kids:=avY
    have ai:=(nB.out t.kids[k] Ou ps[k] (n+1+Tr.counts (t.kids.take k)) wr wo m6 Ou);have iI:=hide uo;have z:=Oq (∀{G}(h:G:=by
    have rk:t.kids.length<=100000:=by have:=S9 t.kids;omega
    clear hcell gc uo h1 U aw htot ag;go_wp2_with fail;refine cm ai ?_;rintro e w2 ⟨rfl,eS,ha2⟩;have ee:=(gA.next ha2);clear ej;go_wp2
    go_roundw
    case rel=>exact⟨k+1,by omega,by go_num,by rw[iI.out];have:=eS;rw[Nat.add_assoc] at this;exact this,ee⟩
    case measure=>simp[intOf];omega),G);exact avZ
   ·have eO:k=t.kids.length:=Ou;subst eO;go_wp2
    go_end0
    refine⟨rfl,?_,gA⟩;have:=m6;rw[List.take_length] at this;rw[qe.out,<-Nat.add_assoc];exact this),G);exact aAd
abbrev Rx (B:Nat)(w:Ov)(v:OG)(l:List OH):Prop:=w.ownsRow B 9 1 v l.length (l.map Value.string)
def info9:(prog.info? 9).map (fun i=>(i.zero,i.size,i.bytes))=some (some (OB ByteArray.empty),1,16):=by kernel_rfl
def OX {w:Ov}{B e sz n:Nat}{v:OG}{xs:List OG}(h:w.ownsRow B e sz v n xs):∃ a cap,v=.slice a n cap:=by
 rcases h.2 with ⟨rfl,rfl⟩|⟨g,cap,cj,rfl,_⟩
 ·exact⟨none,0,rfl⟩
 ·exact⟨_,cap,rfl⟩
def Yc (B:Nat)(w:Ov):Rx B w QD []:=⟨rfl,Or.inl ⟨rfl,rfl⟩⟩
def UR {B:Nat}{w:Ov}{v:OG}{l:List OH}(h:Rx B w v l)(k:Nat)(E:k<l.length):∃ g cap,v=.slice (some (Ot g 0)) l.length cap/\g<w.heap.size/\B<=g/\w.cell? (Ot g k)=some (OB l[k]):=by
 obtain⟨g,cap,rfl,_,_⟩:=h.form Ou;have h1:=Qj h g rfl;refine⟨g,cap,rfl,h1.1,h1.2,?_⟩;rw[h.cellAt k Ou];simp[E]
def adL (l:List OH):∀ u ∈ l.map Value.string,u.oneCell'=true:=by
 intro u aT;obtain⟨p,_,rfl⟩:=List.mem_map.1 aT;rfl
def Yd (w:Ov)(s:OH)(H:Nat)(h:w.heap.size=H):∀ j u,[Value.string s][j]? = some u->(w.alloc (.cells #[OB s] 9)).cell? (((Ot H 0):Addr).add j)=some u:=by
 subst h;intro j u aN
 match j with
 | 0=>
  simp only[List.getElem?_cons_zero,Option.some.injEq] at aN;subst aN
  show (w.alloc (.cells #[OB s] 9)).cell? (Ot w.heap.size (0+0))=_
  rw[cell_of (OA w (.cells #[OB s] 9))];rfl
 | n+1=>simp at aN
def abS (s:OH):∀ u ∈ [Value.string s],u.oneCell'=true:=by
 intro u aT;rw[List.mem_singleton.1 aT];rfl
def hasB (l:List OH)(s:OH):Bool:=l.any (fun x=>decide (s=x))
def agt {l:List OH}{s:OH}:hasB l s=true↔s ∈ l:=by simp[hasB]
def arT {l:List OH}{s:OH}:hasB l s=false↔s ∉ l:=by rw[<-agt];simp
def aak (l:List OH)(s:OH):List OH:=if hasB l s then l else l++[s]
def WH (l:List OH):List OH:=l.foldl aak []
section
variable {B:Nat} (l:List OH) (s:OH) (v:OG) (w:Ov) (h:Rx B w v l) (hl:l.length<=100000)
include B l s v w h hl
theorem alJ :
  OE 179 #[v,OB s] w fun e w'=>(∃ k:Int,e=OQ (Ol k)/\decide (0<=k)=hasB l s)/\w'=w:=by
 obtain⟨va,dD,rfl⟩:=OX h;have dj:=h;clear h;go_enter func179,ntmps179;go_wp2_with fail
 go_loopw [8] (fun i wr=>∃ k:Nat,k<=l.length/\i=Ol k/\s ∉ l.take k/\wr=w) (fun i _=>l.length - (intOf i).toNat)
 case atStart=>exact⟨0,Nat.zero_le _,rfl,by simp,rfl⟩
 case round=>
  obtain⟨k,E,rfl,fv,rfl⟩:=hrel;have fL:=hide fv;clear fv
  by_cases aQ:k<l.length
  ·obtain⟨g,cap,av,hg,_,aj⟩:=UR dj k aQ;have z:=Oq (∀{G}(h:G:=by
   obtain⟨x,dQ⟩:=xH (l[k]);rw[<-dQ.out] at aj
   by_cases aq:s=x
   ·subst aq;go_wp2;go_ret;refine⟨⟨k,rfl,?_⟩,rfl⟩;rw[decide_eq_true Ou,eq_comm,agt,dQ.out];exact List.getElem_mem _
   ·have cl:=adE aq;have dH:=hide aq;clear aq;go_wp2
    go_roundw
    case rel=>
     refine⟨k+1,by omega,by go_num,?_,trivial⟩;rw[List.take_succ_eq_append_getElem aQ];intro aS
     rcases List.mem_append.1 aS with aS|aS
     ·exact Om fL aS
     ·exact Om dH (by rw[dQ.out];exact List.mem_singleton.1 aS)
    case measure=>simp[intOf];omega),G);exact alK
  ·have cT:k=l.length:=Ou;subst cT;go_wp2;go_ret;refine⟨⟨-1,rfl,?_⟩,rfl⟩;have h:=Om fL;rw[List.take_length] at h;rw[arT.2 h];rfl
theorem VU :
  OE 88 #[v,OB s] w fun e w'=>e=OQ (OC (hasB l s))/\w'=w:=by
 have ai:=(alJ l s v w h hl);clear h;go_enter func88,ntmps88;go_wp2_with fail;refine cm ai ?_;rintro e w1 ⟨⟨k,rfl,E⟩,rfl⟩;have f5:=hide E;clear E;go_wp2;go_ret;exact⟨Uu f5.out,rfl⟩
end
def take_snoc' {α:Type}(l:List α)(k:Nat)(E:k<l.length):l.take (k+1)=l.take k++[l[k]]:=List.take_succ_eq_append_getElem E
def alL (l:List OH)(k:Nat)(E:k<l.length):WH (l.take (k+1))=aak (WH (l.take k)) l[k]:=by
 rw[take_snoc' l k E,WH,List.foldl_append];rfl
def Zw (l:List OH):(WH l).length<=l.length:=by
 have:∀ (l aX:List OH),(l.foldl aak aX).length<=aX.length+l.length:=by
  intro l
  induction l with
  | nil=>intro aX;simp
  | cons x l bn=>
   intro aX;have h:=bn (aak aX x);have U:(aak aX x).length<=aX.length+1:=by unfold aak;split <;> simp
   simp only[List.foldl_cons,List.length_cons];omega
 simpa[WH] using this l []
def agu {B:Nat}(l:List OH)(v:OG)(w:Ov)(h:Rx B w v l)(hl:l.length<=90000) :
  OE 121 #[v] w fun e w'=>(∃ u,e=OQ u/\Rx w.heap.size w' u (WH l))/\OD w w':=by
 obtain⟨i0,dR,dA,b9,cn⟩:=info_parts info9;obtain⟨va,dD,rfl⟩:=OX h;have dj:=h;clear h;go_enter func121,ntmps121;go_wp2_with fail
 go_loopw [3,8] (fun o i wr=>∃ k:Nat,k<=l.length/\i=Ol k/\Rx w.heap.size wr o (WH (l.take k))/\OD w wr) (fun _ i _=>l.length - (intOf i).toNat)
 case atStart=>exact⟨0,Nat.zero_le _,rfl,Yc _ _,QX⟩
 case round=>
  obtain⟨k,E,rfl,hown,hbel⟩:=hrel;have HOWN:=hown;obtain⟨aB,iS,rfl⟩:=OX hown
  by_cases aQ:k<l.length
  ·obtain⟨g,cap,av,hg,_,aj⟩:=UR dj k aQ;have z:=Oq (∀{G}(h:G:=by
   obtain⟨x,dQ⟩:=xH (l[k]);rw[<-dQ.out] at aj;have MA:wr.cell? (Ot g k)=some (OB x):=by rw[hbel.cell (p:=(Ot g k)) hg];exact aj
   have vf:=hide (alL l k aQ);have n4:=Zw (l.take k);rw[List.length_take] at n4;obtain⟨L,dU⟩:=xH (WH (l.take k));rw[<-dU.out] at n4;have nK:Rx w.heap.size wr (.slice aB L.length iS) L:=by
    have h:=HOWN;rw[<-dU.out] at h;exact h
   rw[<-dU.out];have Mn:L.length<=k:=Ou;have ai:=(VU L x _ wr nK Ou);have dg:g<wr.heap.size:=Nat.lt_of_lt_of_le hg hbel.size;have dd:=hbel.size;clear aj hg n4
   cases hh:hasB L x with
   | true=>
    rw[hh] at ai;have il:=hide hh;clear hh;have z:=Oq (∀{G}(h:G:=by
    go_roundw
    case rel=>
     refine⟨k+1,by omega,by go_num,?_,hbel⟩;rw[vf.out,<-dU.out,<-dQ.out,aak,if_pos il.out];exact nK
    case measure=>simp[intOf];omega),G);exact aeE
   | false=>
    rw[hh] at ai;have il:=hide hh;clear hh;go_wp2_with fail;refine cm ai ?_;rintro e w2 ⟨rfl,rfl⟩
    go_wp2_with (at_builtin;refine wpList_append_lies _ rfl _ _ 26 rfl w.heap.size 9 i0 (OB ByteArray.empty) 1 16 underlying26 dR dA b9 cn rfl Oz _ _ _ rfl (nK.alloc _) (Ot w2.heap.size 0) 1 1 [OB x] rfl rfl (Yd w2 x _ rfl) (abS x) Oz (by unfold maxLen;omega) Ou Rh (w2.heap.size+1) O8 ?_)
    intro g2 cap' ap hown' hgrow iM _;have d3:=((hbel.alloc dd (.cells #[OB x] 9)).grown hgrow Rh (fun b D=>(Qj nK b D).2));clear iM;go_wp2
    go_roundw
    case rel=>
     refine⟨k+1,by omega,by go_num,?_,d3⟩;rw[vf.out,<-dU.out,<-dQ.out,aak,if_neg (by rw[il.out];decide)]
     have h:=hown'
     show World.ownsRow _ _ _ _ _ _ _
     rw[List.length_append,List.map_append];exact h
    case measure=>simp[intOf];omega),G);exact alK
  ·have cT:k=l.length:=Ou;exact az2
abbrev UA (w:Ov)(t:Tr)(p:Nat):Prop:=Qb (fun _=>True) w t p
def UF (B:Nat)(w:Ov)(v:OG)(ao:List Tr):Prop:=∃ ps:List Nat,w.ownsRow B 22 1 v ps.length (ps.map Oo)/\V5 (fun _=>True) w ao ps
def Below.stay {I:Nat->Prop}{w w':Ov}(h:OD w w'):Vg I w w':=fun b _ hl=>h.block b hl
def Qb.nt {I:Nat->Prop}{w:Ov}{t:Tr}{p:Nat}(h:Qb I w t p):UA w t p:=Qb.mono (fun _ _ _=>trivial) _ _ h
def UA.later {w w':Ov}{t:Tr}{p:Nat}(h:UA w t p)(D:OD w w'):UA w' t p:=Qb.later (Below.stay D) _ _ h
def UF.later {B:Nat}{w w':Ov}{v:OG}{ao:List Tr}(h:UF B w v ao)(D:OD w w'):UF B w' v ao:=by
 obtain⟨ps,h1,U⟩:=h;exact⟨ps,RF (I:=fun _=>True) (Below.stay D) (fun _ _=>trivial) h1,V5.later (Below.stay D) _ _ U⟩
def Rx.later {B:Nat}{w w':Ov}{v:OG}{l:List OH}(h:Rx B w v l)(D:OD w w'):Rx B w' v l:=RF (I:=fun _=>True) (Below.stay D) (fun _ _=>trivial) h
section
variable {B:Nat} {w:Ov} {v:OG} {ao:List Tr} (h:UF B w v ao)
include B w v ao h
theorem UF.form:∃ a cap,v=.slice a ao.length cap:=by
 obtain⟨ps,h1,U⟩:=h;rw[<-V5.length _ _ U];exact U3 h1
theorem UF.cell (k:Nat)(E:k<ao.length):∃ g cap p,v=.slice (some (Ot g 0)) ao.length cap/\g<w.heap.size/\w.cell? (Ot g k)=some (Oo p)/\UA w ao[k] p:=by
 obtain⟨ps,h1,U⟩:=h;have hl:=V5.length _ _ U;obtain⟨g,cap,rfl,aj⟩:=Xf h1 Ou;obtain⟨al,az⟩:=V5.get _ _ U k E;exact⟨g,cap,ps[k],by rw[hl],(Qj h1 g rfl).1,aj k al,az⟩
end
def UA.cells {w:Ov}{t:Tr}{p:Nat}(h:UA w t p):p<w.heap.size/\w.cell? (Ot p 0)=some (Ol t.kd)/\w.cell? (Ot p 1)=some (OB t.tx)/\∃ u,w.cell? (Ot p 3)=some u/\UF 0 w u t.kids:=by
 obtain⟨u,ps,D,aa,_,E⟩:=Qb.abT h;obtain⟨c0,c1,_,c3,_⟩:=node_cells D;exact⟨lt_of_heap D,c0,c1,u,c3,ps,aa,OL.nl _ _ E⟩
def aiI (w:Ov)(q:Nat)(H:Nat)(h:w.heap.size=H):∀ j u,[Oo q][j]? = some u->(w.alloc (.cells #[Oo q] 22)).cell? (((Ot H 0):Addr).add j)=some u:=by
 subst h;intro j u aN
 match j with
 | 0=>
  simp only[List.getElem?_cons_zero,Option.some.injEq] at aN;subst aN
  show (w.alloc (.cells #[Oo q] 22)).cell? (Ot w.heap.size (0+0))=_
  rw[cell_of (OA w (.cells #[Oo q] 22))];rfl
 | n+1=>simp at aN
def aob (q:Nat):∀ u ∈ [Oo q],u.oneCell'=true:=by
 intro u aT;rw[List.mem_singleton.1 aT];rfl
def adM {B:Nat}(ao:List Tr)(v:OG)(w:Ov)(h:UF B w v ao)(hl:ao.length<=90000) :
  OE 164 #[v] w fun e w'=>(∃ u,e=OQ u/\Rx w.heap.size w' u (ao.map Tr.tx))/\OD w w':=by
 obtain⟨i0,dR,dA,b9,cn⟩:=info_parts info9;obtain⟨va,dD,rfl⟩:=h.form;have dj:=h;clear h;go_enter func164,ntmps164;go_wp2_with fail
 go_loopw [3,8] (fun o i wr=>∃ k:Nat,k<=ao.length/\i=Ol k/\Rx w.heap.size wr o ((ao.take k).map Tr.tx)/\OD w wr) (fun _ i _=>ao.length - (intOf i).toNat)
 case atStart=>exact⟨0,Nat.zero_le _,rfl,Yc _ _,QX⟩
 case round=>
  obtain⟨k,E,rfl,hown,hbel⟩:=hrel;have HOWN:=hown;obtain⟨aB,iS,rfl⟩:=OX hown
  by_cases aQ:k<ao.length
  ·obtain⟨g,cap,q,av,hg,aj,az⟩:=(dj.later hbel).cell k aQ;simp only[Value.slice.injEq] at av;obtain⟨rfl,_,rfl⟩:=av;obtain⟨dz,_,c1,_⟩:=az.cells;have h8:(k:Int)<(ao.length:Int):=Ou;obtain⟨x,dQ⟩:=xH ((ao[k]).tx);rw[<-dQ.out] at c1;have dd:=hbel.size;obtain⟨L,dU⟩:=xH ((ao.take k).map Tr.tx);have pE:L.length=k:=by rw[dU.out];simp;omega
   rw[<-dU.out] at HOWN ⊢;have nK:World.ownsRow wr w.heap.size 9 1 (.slice aB k iS) k (L.map Value.string):=by
    have h:World.ownsRow wr w.heap.size 9 1 (.slice aB L.length iS) L.length (L.map Value.string):=HOWN;rw[pE] at h;exact h
   rw[pE];have pn:=hide pE;clear pE;have z:=Oq (∀{G}(h:G:=by
   clear iM;go_wp2
   go_roundw
   case rel=>
    refine⟨k+1,by omega,by go_num,?_,d3⟩;rw[List.take_succ_eq_append_getElem aQ,List.map_append,<-dU.out]
    show World.ownsRow _ _ _ _ _ _ _
    rw[List.length_append,List.map_append,pn.out]
    show World.ownsRow _ _ _ _ _ _ (_++[Value.string (ao[k]).tx])
    rw[<-dQ.out];exact hown'
   case measure=>simp[intOf];omega),G);exact az3
  ·have cT:k=ao.length:=Ou;exact az2
def aoc (t:Tr)(p:Nat)(w:Ov)(h:UA w t p):OE 120 #[Oo p] w fun e w'=>(∃ u,e=OQ u/\UF 0 w u t.kids)/\w'=w:=by
 obtain⟨eP,_,_,u,c3,aa⟩:=h.cells;obtain⟨cV,uc,rfl⟩:=aa.form;clear h;go_enter func120,ntmps120;go_wp2;go_ret;exact⟨⟨_,rfl,aa⟩,rfl⟩
abbrev fnV (F:Nat):OG:=.func (.func F) #[] #[]
def ZA (F:Nat)(f:Tr->Bool)(jv:VR F)
  (ah:∀ t p W,UA W t p->OE F #[Oo p] W fun e w'=>e=OQ (OC (f t))/\w'=W)
  (t:Tr) (p:Nat) (w:Ov) (h:UA w t p) (hl:t.kids.length<=90000) :
  OE 129 #[Oo p,fnV F] w fun e w'=>(∃ u,e=OQ u/\UF w.heap.size w' u (t.kids.filter f))/\OD w w':=by
 obtain⟨i0,dR,dA,b9,cn⟩:=info_parts info22;have f5:=(aoc t p w h);have hU:=hide ah;clear h ah
 generalize Bt:t.kids=ao at f5 hl
 clear Bt t;go_enter func129,ntmps129;go_wp2_with fail;refine cm f5 ?_;rintro e w1 ⟨⟨u,rfl,aa⟩,rfl⟩;obtain⟨va,dD,rfl⟩:=aa.form;go_wp2_with fail
 go_loopw [5,11] (fun o i wr=>∃ (k:Nat) (dO:List Nat),k<=ao.length/\i=Ol k/\wr.ownsRow w1.heap.size 22 1 o dO.length (dO.map Oo)/\V5 (fun _=>True) w1 ((ao.take k).filter f) dO/\OD w1 wr) (fun _ i _=>ao.length - (intOf i).toNat)
 case atStart=>exact⟨0,[],Nat.zero_le _,rfl,⟨rfl,Or.inl ⟨rfl,rfl⟩⟩,V5.nil,QX⟩
 case round=>
  obtain⟨k,dO,E,rfl,hown,fv,hbel⟩:=hrel;have dw:=hown;obtain⟨aB,iS,rfl⟩:=U3 hown;have dz:=V5.length _ _ fv
  by_cases aQ:k<ao.length
  ·obtain⟨g,cap,q,av,hg,gi,ru⟩:=aa.cell k aQ;simp only[Value.slice.injEq] at av;obtain⟨rfl,_,rfl⟩:=av;have z:=Oq (∀{G}(h:G:=by
   have ai:=(Om hU ao[k] q wr (ru.later hbel));have iI:=hide (List.take_succ_eq_append_getElem aQ);have dg:g<wr.heap.size:=Ou;have pE:dO.length<=k:=by rw[dz];have:=List.length_filter_le f (ao.take k);rw[List.length_take] at this;omega
   have r4:=hide (Qj dw);clear gi dz
   cases hh:f ao[k] with
   | true=>
    have z:=Oq (∀{G}(h:G:=by
    go_roundw
    case rel=>
     refine⟨k+1,dO++[q],by omega,by go_num,?_,?_,d3⟩
     ·rw[List.length_append,List.map_append];exact hown'
     ·rw[iI.out,List.filter_append];simp only[List.filter_cons,il.out,List.filter_nil,if_true];exact V5.append (V5.cons ru V5.nil) _ _ fv
    case measure=>simp[intOf];omega),G);exact az4
   | false=>
    rw[hh] at ai;have il:=hide hh;clear hh;have z:=Oq (∀{G}(h:G:=by
    go_roundw
    case rel=>
     refine⟨k+1,dO,by omega,by go_num,dw,?_,hbel⟩;rw[iI.out,List.filter_append];simp only[List.filter_cons,il.out,List.filter_nil,Bool.false_eq_true,if_false,List.append_nil];exact fv
    case measure=>simp[intOf];omega),G);exact aeE),G);exact az5
  ·have cT:k=ao.length:=Ou;subst cT;go_wp2;go_ret;have h:=fv;rw[List.take_length] at h;exact⟨⟨_,rfl,dO,dw,V5.later (Below.stay hbel) _ _ h⟩,hbel⟩
def az6:VR 130:=fun _ _=>by kernel_rfl
def az7:VR 163:=fun _ _=>by kernel_rfl
def TM (t:Tr):Bool:=t.kd==5
def PE (t:Tr):Bool:=t.kd==3||t.kd==4
def Ru (t:Tr):Bool:=t.kd==5||t.kd==37
section
variable (t:Tr) (p:Nat) (w:Ov) (h:UA w t p)
include t p w h
theorem abU:OE 130 #[Oo p] w fun e w'=>e=OQ (OC (TM t))/\w'=w:=by
 obtain⟨eP,c0,_,_⟩:=h.cells;clear h;go_enter func130,ntmps130;go_wp2;go_ret;exact⟨rfl,rfl⟩
theorem adN:OE 163 #[Oo p] w fun e w'=>e=OQ (OC (PE t))/\w'=w:=by
 obtain⟨eP,c0,_,_⟩:=h.cells;clear h;unfold PE
 generalize t.kd=kd at c0
 cases aw:(kd==3)
 all_goals
  go_enter func163,ntmps163;go_wp2;go_ret;exact⟨rfl,rfl⟩
theorem alM:OE 119 #[Oo p] w fun e w'=>e=OQ (OC (Ru t))/\w'=w:=by
 obtain⟨eP,c0,_,_⟩:=h.cells;clear h;unfold Ru
 generalize t.kd=kd at c0
 cases aw:(kd==5)
 all_goals
  go_enter func119,ntmps119;go_wp2;go_ret;exact⟨rfl,rfl⟩
end
def TV (t:Tr):List Tr:=t.kids.filter TM
def Pv (t:Tr):List Tr:=t.kids.filter PE
section
variable (t:Tr) (p:Nat) (w:Ov) (h:UA w t p) (hl:t.kids.length<=90000)
include t p w h hl
theorem aac :
  OE 59 #[Oo p] w fun e w'=>(∃ u,e=OQ u/\UF w.heap.size w' u (TV t))/\OD w w':=by
 have ai:=(ZA 130 TM az6 abU t p w h hl);clear h;go_enter func59,ntmps59;exact arU
theorem abD :
  OE 77 #[Oo p] w fun e w'=>(∃ u,e=OQ u/\UF w.heap.size w' u (Pv t))/\OD w w':=by
 have ai:=(ZA 163 PE az7 adN t p w h hl);clear h;go_enter func77,ntmps77;exact arU
end
def ownVar (t:Tr):List OH:=if t.kd==2 then [t.tx] else []
mutual
def vw:Tr->List OH
 | .mk kd tx _ ks=>(if kd==2 then [tx] else [])++(if kd==5||kd==37 then [] else vws ks)
def vws:List Tr->List OH
 | []=>[]
 | t::ao=>vw t++vws ao
end
def az8 (t:Tr):vw t=ownVar t++(if Ru t then [] else vws t.kids):=by
 cases t with
 | mk kd tx n ks=>rw[vw];rfl
def aeF:∀ a b:List Tr,vws (a++b)=vws a++vws b
 | [],b=>by simp[vws]
 | t::a,b=>by simp[vws,aeF a b]
def agv (ao:List Tr)(k:Nat)(E:k<ao.length):vws (ao.take (k+1))=vws (ao.take k)++vw ao[k]:=by
 rw[List.take_succ_eq_append_getElem E,aeF];simp[vws]
mutual
def avX:∀ t:Tr,(vw t).length<=t.count
 | .mk kd tx n ks=>by
  have h:=Yw ks;rw[vw,count_mk]
  split <;> split <;> simp <;> omega
def Yw:∀ ao:List Tr,(vws ao).length<=Tr.counts ao
 | []=>by simp[vws]
 | t::ao=>by
  have h1:=avX t;have U:=Yw ao;rw[vws,OU];simp;omega
end
structure agw (b B:Nat)(l:List OH)(w:Ov):Prop where
 lt:b<B
 sz:B<=w.heap.size
 own:∃ v,w.heap[b]? = some (O1 #[v] 26)/\Rx B w v l
def alN {b B g cap n:Nat}{l:List OH}{s:OH}{wd ap:Ov}{v:OG}(aQ:b<B)(dd:B<=wd.heap.size)(D:wd.heap[b]? = some (O1 #[v] 26))(hown:wd.ownsRow B 9 1 v l.length (l.map Value.string))(az:n=l.length+1)
  (hown3:ap.ownsRow B 9 1 (.slice (some (Ot g 0)) n cap) n (l.map Value.string++[OB s])) (dg:(wd.alloc (.cells #[OB s] 9)).grownBy ap v.ownBlock) :
  agw b B (l++[s]) (ap.setCell (Ot b 0) (.slice (some (Ot g 0)) n cap))/\Ap b B wd (ap.setCell (Ot b 0) (.slice (some (Ot g 0)) n cap)):=by
 subst az;have gd:∀ k,v.ownBlock=some k->B<=k:=fun k E=>(Qj hown k E).2;have gA:Ap b B wd (ap.setCell (Ot b 0) (.slice (some (Ot g 0)) (l.length+1) cap)):=(((Ap.refl b B wd).alloc dd _).grown dg Rh gd).setCell (p:=(Ot b 0)) (Or.inr rfl) _;have aw:ap.heap[b]? = some (O1 #[v] 26):=by
  rw[dg.block b Rh (fun e=>by have:=gd b e.symm;omega),Below.heap_alloc _ _ _ Ou]
  exact D
 have MG:B<=g:=(Qj hown3 g rfl).2;refine⟨⟨aQ,Nat.le_trans dd gA.size,_,by rw[heap_set aw];rfl,?_⟩,gA⟩
 show World.ownsRow _ _ _ _ _ _ _
 rw[show (l++[s]).length=l.length+1 by simp,List.map_append];exact RF (I:=fun x=>x=g) (fun x ae _=>Below.heap_setCell ap (Ot b 0) _ x (by have h1:x=g:=ae;show x≠b;omega)) (fun y hy=>by simpa[Value.ownBlock] using hy.symm) hown3
def aod {G goal:Prop}(h1:G->goal)(U:G):goal:=h1 U
def alO {b B p:Nat}{l:List OH}{t:Tr}{w:Ov}(xP:agw b B l w)(az:Qb (fun x=>x<B/\x≠b) w t p)(hl:l.length<=100000) :
  OE 118 #[Oo p,OM b 0] w fun e w'=>e=OQ (OC (!Ru t))/\agw b B (l++ownVar t) w'/\Ap b B w w':=by
 obtain⟨i0,dR,dA,b9,cn⟩:=info_parts info9;have Bb:p<B/\p≠b:=by
  cases t with
  | mk kd tx gt ks=>rw[Qb] at az;exact az.1
 have hV:∀ W,Ap b B w W->Hid (OE 119 #[Oo p] W fun e w'=>e=OQ (OC (Ru t))/\w'=W):=fun W a1=>alM t p W (Qb.nt (Qb.later (fun x ae _=>a1.block x ae.1 ae.2) _ _ az));obtain⟨eP,c0,c1,_⟩:=(Qb.nt az).cells;have y9:=xP;obtain⟨IG,Iw,v,D,hown⟩:=xP;obtain⟨va,dD,rfl⟩:=OX hown;have gH:w.cell? (Ot b 0)=some (.slice va l.length dD):=by rw[cell_of D];rfl
 have oD:=Sv D 0;have lf:=lt_of_heap D;have bL:=hide D;obtain⟨tx,cD⟩:=xE t.tx;obtain⟨kd,bo⟩:=xE t.kd;obtain⟨q8,oQ⟩:=xE (Ru t);rw[<-cD] at c1;rw[<-bo] at c0;rw[<-oQ];have GE:Hid (ownVar t=if kd==2 then [tx] else []):=by rw[cD,bo];rfl
 rw[GE.out];simp only[<-oQ] at hV;clear D cD bo oQ
 cases E:(kd==2) with
 | false=>
  have ai:=hV w (Ap.refl _ _ _);go_enter func118,ntmps118;go_wp2_with fail;refine cm ai.out ?_;rintro e w2 ⟨rfl,rfl⟩;go_wp2;go_ret;exact⟨rfl,by simpa using y9,Ap.refl _ _ _⟩
 | true=>
  go_enter func118,ntmps118;go_wp2_with fail;refine aod (G:=?G1) (fun dJ=>?_) ?_;rotate_left
  ·refine wp_region_any PK ?_;change wpAny _ _ _ _ _ _ _ (World.drew _);refine wt 1 (Oo p) ?_;refine wt 2 (Oo p) ?_;refine wt 3 (OM p 1) ?_;refine wr2 0 4 (fun K A=>?_) (fun K A=>?_)
   ·go_simp;refine A _ _ ?_;clear A K;refine QV 4 fun K A=>?_;go_simp;refine A _ _ ?_;clear A K;refine QV 5 fun K A=>?_;go_simp;refine A _ _ ?_;clear A K;refine UL (listed':=tf 6 2) PK rfl ?_;exact dJ
   ·go_simp;refine A _ _ ?_;clear A K;refine wr2 0 5 (fun K A=>?_) (fun K A=>?_)
    ·go_simp;refine A _ _ ?_;clear A K;refine QV 5 fun K A=>?_;exact az9
    ·go_simp;refine A _ _ ?_;clear A K;refine QV 0 fun K A=>?_;exact az9
  ·refine QV 6 fun K A=>?_;refine step_append_lies _ rfl _ _ 26 rfl B 9 i0 (OB ByteArray.empty) 1 16 underlying26 dR dA b9 cn rfl Oz _ _ _ rfl ((hown:World.ownsRow w.drew B 9 1 _ _ _).alloc _) (Ot w.heap.size 0) 1 1 [OB tx] rfl rfl (Yd w.drew tx _ rfl) (abS tx) Oz (by unfold maxLen;omega) Ou Rh (w.heap.size+1) O8 ?_
   intro g cap ap hown3 eY _ _;refine A _ _ ?_;clear A K;have om:=hide (alN (wd:=w.drew) IG Iw bL.out hown rfl hown3 eY);have aw:ap.heap[b]? = w.heap[b]?:=(eY.block b Rh (fun e=>by have:=(Qj hown b e.symm).2;omega)).trans (Below.heap_alloc w.drew _ b lf)
   have aK:ap.cell? (Ot b 0)=some (.slice va l.length dD):=(World.cell?_of_block (w:=w) aw).trans gH;have vG:ap.frozen? (Ot b 0)=false:=(World.frozen?_of_block (w:=w) aw).trans oD;have aq:b<ap.heap.size:=lt_of_heap (aw.trans bL.out);clear aw gH oD;refine QV 7 fun K A=>?_;go_simp;refine A _ _ ?_;clear A K aK vG aq;refine wpAny_done PK ?_ _;go_simp;obtain⟨mw,ha2⟩:=Om om;obtain⟨W,a1⟩:=xE (ap.setCell (Ot b 0) (.slice (some (Ot g 0)) (l.length+1) cap));rw[<-a1] at mw ha2 ⊢;have ee:=((Ap.refl b B w).drew.trans ha2);clear a1 c0 c1
   have ai:=hV W ee;go_wp2_with fail;refine cm ai.out ?_;rintro e w2 ⟨rfl,rfl⟩;go_wp2;go_ret;exact⟨rfl,mw,ee⟩
def aad {B B':Nat}{w:Ov}{v:OG}{l:List OH}(h:Rx B w v l)(a8:B'<=B):Rx B' w v l:=by
 refine⟨h.1,?_⟩
 rcases h.2 with az|⟨g,cap,cj,av,D,rest⟩
 ·exact Or.inl az
 ·exact Or.inr ⟨g,cap,cj,av,by omega,rest⟩
abbrev aAa (b:Nat):OG:=.func (.func 118) #[] #[OM b 0]
def aAb:VR 118:=fun _ _=>by kernel_rfl
def aAc (b B:Nat):∀ (m:Nat) (t:Tr),t.count<=m->∀ (p:Nat) (l:List OH) (w:Ov),Qb (fun x=>x<B/\x≠b) w t p->agw b B l w->l.length+t.count<=90000 ->
  OE 36 #[Oo p,aAa b] w fun e w'=>e=OQ (.tuple #[])/\agw b B (l++vw t) w'/\Ap b B w w':=by
 intro m
 induction m with
 | zero=>
  exact avN
 | succ m bn=>
  intro t bc p l w fo xP dZ;obtain⟨u,ps,hblk,hrow,pQ,eT⟩:=fo.abT;have hlen:=OL.length _ _ eT;have Bb:p<B/\p≠b:=by
   cases t with
   | mk kd tx gt ks=>rw[Qb] at fo;exact fo.1
  have z:=Oq (∀{G}(h:G:=by
  have jv:=aAb;have hA:∀ W:Ov,(binOp .eql 47 (aAa b) .nilFunc).run prog W=.ok (OC false) W:=fun W=>by kernel_rfl
  have ai:=(alO xP fo Ou);have vj:=hide pQ;have nB:=hide bn;have qe:=hide gQ;have uZ:=hide bc;have rP:=hide dZ;have cQ:=hide fU;have qa:=hide (lt_of_heap hblk);have kK:=hide Bb;have HLEN:=hide hlen;have xx:=hide (az8 t);have r4:Hid ((ownVar t).length<=1):=by show _<=_;unfold ownVar;split <;> simp
  clear pQ bn gQ bc dZ hblk fU Bb hlen
  cases ae:Ru t with
  | true=>
   rw[ae] at ai xx;clear ae;have z:=Oq (∀{G}(h:G:=by
   have ik:=jw;have ew:=ha1;go_wp2_with fail;exact UU (v:=.tuple #[]) ⟨rfl,by rw[xx.out];simpa using ik,ew⟩),G);exact arV
  | false=>
   rw[ae] at ai xx;clear ae;have z:=Oq (∀{G}(h:G:=by
   have d7:=(ha1.cell (p:=(Ot p 3)) kK.out.1 kK.out.2).trans cQ.out;rw[HLEN.out] at d7;have Jr:p<w1.heap.size:=Nat.lt_of_lt_of_le qa.out ha1.size;have ik:=jw;have ew:=ha1;go_wp2_with fail
   go_loopw [23] (fun i wr=>∃ k:Nat,k<=t.kids.length/\i=Ol k/\agw b B (l++ownVar t++vws (t.kids.take k)) wr/\Ap b B w wr) (fun i _=>t.kids.length - (intOf i).toNat)
   case atStart=>exact⟨0,Nat.zero_le _,rfl,by simpa[vws] using ik,ew⟩
   case round=>
    obtain⟨k,E,rfl,hg,gA⟩:=hrel
    by_cases aQ:k<t.kids.length
    ·have z:=Oq (∀{G}(h:G:=by
     obtain⟨dc,mA⟩:=OL.get _ _ eT k aQ;have ub:=Om vj g rfl;have ej:wr.cell? (Ot g k)=some (Oo ps[k]):=by
      rw[gA.cell (p:=(Ot g k)) ub.1 ub.2];exact hcell k dc
     have wo:Qb (fun x=>x<B/\x≠b) wr t.kids[k] ps[k]:=Qb.later (fun x ae hl=>gA.block x ae.1 ae.2) _ _ mA;have dI:g<wr.heap.size:=Nat.lt_of_lt_of_le (Qj hrow g rfl).1 gA.size;have uo:=Vy t.kids k aQ;have wP:=agv t.kids k aQ;have yk:=Yw (t.kids.take k);have h1:=Om qe;have U:=Om uZ;have aw:=Om rP;have aL:=Om r4;have htot:Tr.counts (t.kids.take k)+(t.kids[k]).count<=Tr.counts t.kids:=avY
     have ai:=(nB.out t.kids[k] Ou ps[k] _ wr wo hg (by rw[List.length_append,List.length_append];omega))
     have tG:=hide wP;have z:=Oq (∀{G}(h:G:=by
     have rk:t.kids.length<=100000:=by have:=S9 t.kids;omega
     clear hcell uo h1 U aw aL htot ag wP yk;go_wp2_with fail;refine cm ai ?_;rintro e w2 ⟨rfl,eS,ha2⟩;have ee:=(gA.trans ha2);clear ej;go_wp2
     go_roundw
     case rel=>exact⟨k+1,by omega,by go_num,by rw[tG.out,<-List.append_assoc];exact eS,ee⟩
     case measure=>simp[intOf];omega),G);exact avZ),G);exact av1
    ·have eO:k=t.kids.length:=Ou;subst eO;go_wp2
     go_end0
     refine⟨rfl,?_,gA⟩;rw[List.take_length] at hg;rw[xx.out,<-List.append_assoc];exact hg),G);exact arV),G);exact aAd
def alP {p n c:Nat}{a:Option Addr}{w:Ov}(aj:w.cell? (Ot p 3)=some (.slice a n c)):OE 120 #[Oo p] w fun e w'=>e=OQ (.slice a n c)/\w'=w:=by
 go_enter func120,ntmps120;go_wp2;go_ret;exact⟨rfl,rfl⟩
def P6 (t:Tr):List OH:=WH (vws t.kids)
def WZ (t:Tr)(p:Nat)(w:Ov)(h:UA w t p)(aj:t.count<=80000) :
  OE 54 #[Oo p] w fun e w'=>(∃ u,e=OQ u/\Rx w.heap.size w' u (P6 t))/\OD w w':=by
 have hN:Qb (fun x=>x<w.heap.size) w t p:=Qb.mono (fun b _ hl=>hl) _ _ h;obtain⟨ed,ib⟩:=xE (w.alloc (.cells #[QD] 26));have cr:OD w ed:=by rw[ib];exact PO
 have j5:ed.heap.size=w.heap.size+1:=by rw[ib];simp
 have sN:agw w.heap.size (w.heap.size+1) [] ed:=⟨by omega,by omega,_,by rw[ib];exact OA _ _,Yc _ _⟩
 have bN:=Oq (∀{G}(h:G:=by
 obtain⟨u,ps,hblk,hrow,pQ,eT⟩:=hN.abT;have hlen:=OL.length _ _ eT;obtain⟨cV,uc,aT⟩:=U3 hrow;subst aT;obtain⟨_,_,_,fU,_⟩:=node_cells hblk;have f5:=(alP (w:=ed) (p:=p) ((World.cell?_of_block (w:=w) (a:=(Ot p 3)) (cr.block p (lt_of_heap hblk))).trans fU));rw[hlen] at f5;have Hb:=hide j5;have qe:=hide gQ;have Cm:=hide aj;have HLEN:=hide hlen;have jv:=aAb;have rk:t.kids.length<=100000:=by have:=S9 t.kids;omega
 clear h pQ hblk fU gQ aj hlen j5;go_enter func54,ntmps54;go_wp2_with fail;rw[<-ib];refine cm f5 ?_;rintro e w1 ⟨rfl,rfl⟩;clear ib;go_wp2_with fail
 go_loopw [11] (fun i wr=>∃ k:Nat,k<=t.kids.length/\i=Ol k/\agw w.heap.size (w.heap.size+1) (vws (t.kids.take k)) wr/\Ap w.heap.size (w.heap.size+1) w1 wr) (fun i _=>t.kids.length - (intOf i).toNat)
 case atStart=>exact⟨0,Nat.zero_le _,rfl,by simpa[vws] using sN,Ap.refl _ _ _⟩
 case round=>
  obtain⟨k,E,rfl,hg,gA⟩:=hrel;have uY:=hg
  by_cases aQ:k<t.kids.length
  ·have z:=Oq (∀{G}(h:G:=by
   obtain⟨dc,mA⟩:=OL.get _ _ eT k aQ;have dI:g<w.heap.size:=(Qj hrow g rfl).1;have ej:wr.cell? (Ot g k)=some (Oo ps[k]):=by
    rw[gA.cell (p:=(Ot g k)) (by show g<_;omega) (by show g≠_;omega),World.cell?_of_block (w:=w) (a:=(Ot g k)) (cr.block g dI)];exact hcell k dc
   have wo:Qb (fun x=>x<w.heap.size+1/\x≠w.heap.size) wr t.kids[k] ps[k]:=
    Qb.mono (fun x ae _=>⟨by have h1:x<w.heap.size:=ae;omega,by have h1:x<w.heap.size:=ae;omega⟩) _ _ (Qb.later (I:=fun x=>x<w.heap.size) (fun x ae hl=>(gA.block x (by have h1:x<w.heap.size:=ae;omega) (by have h1:x<w.heap.size:=ae;omega)).trans (cr.block x ae)) _ _ mA)
   have MH:g<wr.heap.size:=by have:=gA.size;have:=Om Hb;omega
   have uo:=Vy t.kids k aQ;have wP:=agv t.kids k aQ;have yk:=Yw (t.kids.take k);have h1:=Om qe;have aw:=Om Cm;have htot:Tr.counts (t.kids.take k)+(t.kids[k]).count<=Tr.counts t.kids:=avY
   have ai:=(aAc w.heap.size (w.heap.size+1) (t.kids[k]).count t.kids[k] O6 ps[k] _ wr wo uY Ou);have tG:=hide wP;have z:=Oq (∀{G}(h:G:=by
   clear hcell uo h1 aw htot ag wP yk;go_wp2_with fail;refine cm ai ?_;rintro e w2 ⟨rfl,eS,ha2⟩;have ee:=(gA.trans ha2);clear ej;go_wp2
   go_roundw
   case rel=>exact⟨k+1,by omega,by go_num,by rw[tG.out];exact eS,ee⟩
   case measure=>simp[intOf];omega),G);exact avZ),G);exact av1
  ·have eO:k=t.kids.length:=Ou;subst eO;have hg:=uY;rw[List.take_length] at hg;obtain⟨_,aI,v,D,hown⟩:=hg;obtain⟨aB,iS,rfl⟩:=OX hown;have c0:wr.cell? (Ot w.heap.size 0)=some (.slice aB (vws t.kids).length iS):=by rw[cell_of D];rfl
   have lf:=lt_of_heap D;have lF:OD w wr:=cr.trans ((gA.mono Ou).below O6);have ia:=Yw t.kids;have ai:=(agu (vws t.kids) _ wr hown (by have:=Om qe;have:=Om Cm;omega))
   clear D ia;go_wp2_with fail;refine cm ai ?_;rintro e w2 ⟨⟨u,rfl,aa⟩,aF⟩;obtain⟨Oh,Oi,rfl⟩:=OX aa;have cq:=(lF.trans (aF.mono lF.size));go_wp2;go_ret;exact⟨⟨_,rfl,aad aa lF.size⟩,cq⟩),G);exact zto
def aeG {P:Program}{w:Ov}(base:Nat)(t qK e:TypeId)(i:TypeInfo)(size:Nat)(bc:P.underlying t=some (.slice e))(am:P.info? e=some i)
  (v:OG) (n:Nat) (xs:List OG) (hown:w.ownsRow base e size v n xs) (ad:Option Addr) (k:Nat) :
  (Builtin.append_ #[t,t] qK #[v,.slice ad 0 k]).run P w=.ok v w:=by
 cases ad <;> rcases hown.2 with ⟨rfl,rfl⟩|⟨g,cap,cj,rfl,_,_,jO,_⟩ <;>
  simp[Builtin.append_,run_underlying bc,sizeOf,typeInfo,Builtin.lenOf,Builtin.firstCells,loadCells,loadCellsFrom,storeCells, *]
def Ye {P:Program}{w:Ov}{bh:Array Oper}{rest:List Oper}{o:Oper}{a:Act}{Q:Exit->Act->Ov->Prop}(D8:o.guard=none)(s x:Operand)(t:TypeId)
  (aR:o.op=.call { callee:=.builtin .append,args:=#[s,x],argTypes:=#[t,t] })
  (base Fr:Nat) (e:TypeId) (i:TypeInfo) (bD:OG) (bytes:Nat) (bc:P.underlying t=some (.slice e)) (am:P.info? e=some i) (aI:i.zero=some bD)
  (hsize:i.size=1) (g5:i.bytes=bytes) (J5:bD.cells.size=1)
  (v:OG) (n:Nat) (xs:List OG) (ac:a.eval s=v) (hown:w.ownsRow base e 1 v n xs)
  (v2:OG) (m:Nat) (news:List OG) (ae:a.eval x=v2) (hown2:w.ownsRow Fr e 1 v2 m news) (h1:∀ u ∈ news,u.oneCell'=true)
  (Dl:n+m<=maxLen) (hbytes:(n+m) * bytes<=140737488355328) (hbase:base<=w.heap.size)
  (h:∀ v' w',w'.ownsRow base e 1 v' (n+m) (xs++news)->w.grownBy w' v.ownBlock->wpList P bh Q rest (a.put o.dst v') w'):wpList P bh Q (o::rest) a w:=by
 rcases Nat.eq_zero_or_pos m with rfl|aS
 ·have hnews:news=[]:=List.length_eq_zero_iff.1 (by rw[hown2.1]);subst hnews;obtain⟨ad,k,rfl⟩:=OX hown2;have E:=h v w (by rw[List.append_nil];exact hown) ⟨rfl,rfl,rfl,O6,fun _ _ _=>rfl⟩
  refine wpList_plain D8 fun K A=>?_;have hrun:=aeG (P:=P) (w:=w) base t o.type e i 1 bc am v n xs hown ad k;unfold Oper.wp;simp[execOp,aR,resolve,invoke,builtin,ac,ae,hrun,Result.andThen];exact A _ _ E
 ·obtain⟨g,cap,rfl,_,_⟩:=hown2.form aS;refine wpList_append_lies w D8 s x t aR base e i bD 1 bytes bc am aI hsize g5 J5 Oz v n xs ac hown (Ot g 0) m cap news ae hown2.1 (fun j u aN=>?_) h1 aS Dl hbytes hbase _ rfl (fun g2 cap' w' a b _ _=>h _ _ a b);have hl:j<m * 1:=by
   rw[<-hown2.1];exact(List.getElem?_eq_some_iff.1 aN).1
  have aL:((Ot g 0):Addr).add j=(Ot g j):=by simp[Addr.add];exact Eq.symm
  rw[aL,hown2.cellAt j hl];exact aN
def namesT (t:Tr)(body:Bool):List OH:=WH ((if body then P6 t else [])++(TV t).map Tr.tx++(Pv t).map Tr.tx)
def abk (t:Tr):(TV t).length<=t.kids.length:=List.length_filter_le _ _
def TW (t:Tr):(Pv t).length<=t.kids.length:=List.length_filter_le _ _
def X4 (t:Tr):(P6 t).length<=Tr.counts t.kids:=Nat.le_trans (Zw _) (Yw _)
def aae (t:Tr)(p:Nat)(body:Bool)(w:Ov)(h:UA w t p)(aj:t.count<=20000) :
  OE 78 #[Oo p,OC body] w fun e w'=>(∃ u,e=OQ u/\Rx w.heap.size w' u (namesT t body))/\OD w w':=by
 obtain⟨i0,dR,dA,b9,cn⟩:=info_parts info9;have z:=Oq (∀{G}(h:G:=by
 have fI:=abk t;have iu:=TW t;have ia:=X4 t;unfold namesT;obtain⟨F,kf⟩:=xH ((TV t).map Tr.tx);have Mh:F.length<=20000:=by rw[kf.out,List.length_map];omega
 obtain⟨G,za⟩:=xH ((Pv t).map Tr.tx);have Mk:G.length<=20000:=by rw[za.out,List.length_map];omega
 rw[<-kf.out,<-za.out]
 cases body with
 | true=>
  have mP:=(WZ t p w h Ou);simp only[if_true];obtain⟨V,fZ⟩:=xE (P6 t);have DH:V.length<=20000:=by rw[fZ];omega
  rw[<-fZ] at mP ⊢;have z:=Oq (∀{G}(h:G:=by
  go_wp2_with fail;refine cm mP ?_;rintro e w1 ⟨⟨gW,rfl,hr1⟩,b6⟩;obtain⟨j2,c1,rfl⟩:=OX hr1;have f3:=b6;have eh:=(h.later b6);have oy:=hr1;have ai:=(aac t p w1 eh Ou);exact aAe),G);exact aAf
 | false=>
  simp only[Bool.false_eq_true,if_false];obtain⟨V,fZ⟩:=xE ([]:List OH);have DH:V.length<=20000:=by rw[fZ];simp
  have f3:OD w w:=QX;have eh:UA w t p:=h;have oy:Rx w.heap.size w QD V:=by rw[fZ];exact Yc _ _
  have zb:Hid (∀ l,l=[]++F++G->l=V++F++G):=fun l hl=>by rw[hl,fZ]
  rw[Om zb _ rfl];have z:=Oq (∀{G}(h:G:=by
  have ai:=(aac t p w eh Ou);exact aAe),G);exact aAf),G);exact zsw
section
variable (F:Nat) (f:Tr->Bool) (jv:VR F) (ao:List Tr) (v:OG) (w:Ov) {B:Nat} (h:UF B w v ao) (hl:ao.length<=90000) (ah:∀ t ∈ ao,∀ p W,OD w W->UA W t p->OE F #[Oo p] W fun e w'=>e=OQ (OC (f t))/\OD W w')
include F f jv ao v w B h hl ah
theorem aru :
  OE 183 #[v,fnV F] w fun e w'=>(∃ k:Int,e=OQ (Ol k)/\decide (0<=k)=ao.any f)/\OD w w':=azp
theorem abz :
  OE 248 #[v,fnV F] w fun e w'=>e=OQ (OC (ao.any f))/\OD w w':=by
 have ai:=(aru F f jv ao v w h hl ah);exact azq
end
section
variable (F:Nat) (c:OG) (f:Tr->Bool) (jv:VR F) (ao:List Tr) (v:OG) (w:Ov) {B:Nat} (h:UF B w v ao) (hl:ao.length<=90000) (ah:∀ t ∈ ao,∀ p W,OD w W->UA W t p->OE F #[Oo p,c] W fun e w'=>e=OQ (OC (f t))/\OD W w')
include F c f jv ao v w B h hl ah
theorem arv :
  OE 183 #[v,.func (.func F) #[] #[c]] w fun e w'=>(∃ k:Int,e=OQ (Ol k)/\decide (0<=k)=ao.any f)/\OD w w':=azp
theorem V7 :
  OE 248 #[v,.func (.func F) #[] #[c]] w fun e w'=>e=OQ (OC (ao.any f))/\OD w w':=by
 have ai:=(arv F c f jv ao v w h hl ah);exact azq
end
def Ul (l:List Tr)(x:OH):Bool:=l.any fun k=>decide (k.tx=x)
def azr:VR 289:=fun _ _=>by kernel_rfl
def aie (t:Tr)(p b:Nat)(x:OH)(w:Ov)(h:UA w t p)(ae:w.cell? (Ot b 0)=some (OB x)):OE 289 #[Oo p,OM b 0] w fun e w'=>e=OQ (OC (decide (t.tx=x)))/\OD w w':=by
 obtain⟨eP,_,c1,_⟩:=h.cells;obtain⟨tx,cD⟩:=xE t.tx;rw[<-cD] at c1 ⊢;have lf:b<w.heap.size:=by
  rcases Nat.lt_or_ge b w.heap.size with h1|h1
  ·exact h1
  ·have U:w.heap[b]? = none:=Array.getElem?_eq_none h1;simp[World.cell?,U] at ae
 clear h cD
 by_cases aq:tx=x
 ·subst aq;have ay:decide (tx=tx)=true:=decide_eq_true rfl;rw[ay];clear ay;go_enter func289,ntmps289;go_wp2_with fail
  go_region
  go_wp2;go_ret;exact⟨rfl,QX.drew⟩
 ·rw[decide_eq_false aq];have cl:=adE aq;clear aq;go_enter func289,ntmps289;go_wp2_with fail
  go_region
  go_wp2;go_ret;exact⟨rfl,QX.drew⟩
def Yv (ao:List Tr)(v:OG)(x:OH)(w:Ov){B:Nat}(h:UF B w v ao)(hl:ao.length<=90000) :
  OE 246 #[v,OB x] w fun e w'=>e=OQ (OC (Ul ao x))/\OD w w':=by
 obtain⟨ed,ib⟩:=xE (w.alloc (.cells #[OB x] 9));have cr:OD w ed:=by rw[ib];exact PO
 have j5:ed.heap.size=w.heap.size+1:=by rw[ib];simp
 have ut:ed.cell? (Ot w.heap.size 0)=some (OB x):=by rw[ib,cell_of (OA _ _)];rfl
 have ai:=(V7 289 (OM w.heap.size 0) (fun k=>decide (k.tx=x)) azr ao v ed (h.later cr) hl (fun t _ p W D az=>aie t p _ x W az ((World.cell?_of_block (w:=ed) (a:=(Ot w.heap.size 0)) (D.block w.heap.size Ou)).trans ut)));obtain⟨va,dD,rfl⟩:=h.form;clear h j5 ut;go_enter func246,ntmps246;go_wp2_with fail;rw[<-ib];refine cm ai ?_;rintro e w1 ⟨rfl,D⟩;have bL:=(cr.trans (D.mono cr.size));clear ib;go_wp2;go_ret;exact⟨rfl,bL⟩
def cell_lt {w:Ov}{b o:Nat}{v:OG}(h:w.cell? (Ot b o)=some v):b<w.heap.size:=by
 rcases Nat.lt_or_ge b w.heap.size with h1|h1
 ·exact h1
 ·have U:w.heap[b]? = none:=Array.getElem?_eq_none h1;simp[World.cell?,U] at h
def O4 {w X:Ov}{b o:Nat}{v:OG}(D:OD w X)(h:w.cell? (Ot b o)=some v):X.cell? (Ot b o)=some v:=
 (World.cell?_of_block (w:=w) (a:=(Ot b o)) (D.block b (cell_lt h))).trans h
abbrev Vx:OH:=⟨#[101,118,97,108]⟩
abbrev tArgs:OH:=⟨#[97,114,103,117,109,101,110,116,115]⟩
def Vs:Option Int->OG
 | none=>.nilIface
 | some e=>.iface 34 (Ol e)
abbrev X0 (s i b:Bool):OG:=.agg #[OC s,OC i,OC b]
def isSp (x:OH):Bool:=decide (x=Vx)||decide (x=tArgs)
def nmE (s:Bool)(x:OH):Option Int:=if s&&isSp x then some 5 else none
def Pg (t:Tr):Bool:=(t.kd==1||t.kd==6)&&decide (t.tx=VT)
def Vt (s i b:Bool)(x:OH)(w:Ov):OE 192 #[OB x,X0 s i b] w fun e w'=>e=OQ (Vs (nmE s x))/\OD w w':=by
 unfold nmE isSp;have bL:=((Below.refl w.heap.size w).alloc O6 (.cells #[OC s,OC i,OC b] 112))
 cases s with
 | false=>
  exact arw
 | true=>
  by_cases h1:x=Vx
  ·have ay:=V8 (b:=Vx) rfl h1;rw[decide_eq_true h1];clear h1;exact arw
  ·have ay:=VJ (b:=Vx) rfl h1;rw[decide_eq_false h1];clear h1
   by_cases U:x=tArgs
   ·have bz:=V8 (b:=tArgs) rfl U;rw[decide_eq_true U];clear U;exact arw
   ·have bz:=VJ (b:=tArgs) rfl U;rw[decide_eq_false U];clear U;exact arw
section
variable (t:Tr) (p:Nat) (w:Ov) (h:UA w t p)
include t p w h
theorem TU:OE 58 #[Oo p] w fun e w'=>e=OQ (OC (Pg t))/\w'=w:=by
 obtain⟨eP,c0,c1,_⟩:=h.cells;clear h;unfold Pg
 generalize t.kd=kd at c0
 generalize t.tx=tx at c1
 by_cases U:tx=VT
 ·have bz:=V8 (b:=VT) rfl U;rw[decide_eq_true U];exact azt
 ·have bz:=VJ (b:=VT) rfl U;rw[decide_eq_false U];exact azt
theorem aif:OE 102 #[Oo p] w fun e w'=>e=OQ (OC (Ru t))/\w'=w:=by
 obtain⟨eP,c0,_,_⟩:=h.cells;clear h;unfold Ru
 generalize t.kd=kd at c0
 cases aw:(kd==5)
 all_goals
  go_enter func102,ntmps102;go_wp2;go_ret;exact⟨rfl,rfl⟩
end
def Qk (t:Tr)(k:Nat):Tr:=t.kids.getD k t
def Xx (t:Tr)(k:Nat)(h:k<t.kids.length):Qk t k=t.kids[k]:=by simp[Qk,List.getD,h]
section
variable (t:Tr) (p:Nat) (w:Ov) (h:UA w t p)
include t p w h
theorem abB (E:2<=t.kids.length)(hl:t.kids.length<=90000):OE 103 #[Oo p] w fun e w'=>(∃ q,e=OQ (Oo q)/\UA w (Qk t 1) q)/\w'=w:=by
 obtain⟨eP,_,_,u,c3,aa⟩:=h.cells;obtain⟨g,cap,q,rfl,hg,aj,az⟩:=aa.cell 1 Ou;rw[<-Xx t 1 Ou] at az;clear h
 generalize dr:t.kids.length=L at c3 E hl
 clear dr;go_enter func103,ntmps103;go_wp2;go_ret;exact⟨⟨q,rfl,az⟩,rfl⟩
theorem aaK (E:1<=t.kids.length)(hl:t.kids.length<=90000):OE 249 #[Oo p] w fun e w'=>(∃ u,e=OQ u/\UF 0 w u (Qk t 0).kids)/\w'=w:=by
 obtain⟨eP,_,_,u,c3,aa⟩:=h.cells;obtain⟨g,cap,q,rfl,hg,aj,az⟩:=aa.cell 0 Ou;rw[<-Xx t 0 Ou] at az;obtain⟨dz,_,_,gC,jJ,hr2⟩:=az.cells;obtain⟨a2,c2,rfl⟩:=hr2.form;clear h
 generalize dr:t.kids.length=L at c3 E hl
 clear dr;go_enter func249,ntmps249;go_wp2;go_ret;exact⟨⟨_,rfl,hr2⟩,rfl⟩
end
def WY (t:Tr):Bool:=t.kd==3||t.kd==4||t.kd==5
def azu:VR 251:=fun _ _=>by kernel_rfl
def aur:VR 244:=fun _ _=>by kernel_rfl
def azv:VR 245:=fun _ _=>by kernel_rfl
def avx:VR 250:=fun _ _=>by kernel_rfl
def af6 (t:Tr)(p:Nat)(w:Ov)(h:UA w t p):OE 251 #[Oo p] w fun e w'=>e=OQ (OC (WY t))/\OD w w':=by
 obtain⟨eP,c0,_,_⟩:=h.cells;clear h;unfold WY
 generalize t.kd=kd at c0
 cases aw:(kd==3) <;> cases aL:(kd==4) <;>
 ·go_enter func251,ntmps251;go_wp2;go_ret;exact⟨rfl,QX⟩
def abC (t:Tr)(p b:Nat)(l:List OH)(va:Option Addr)(dD:Nat)(w:Ov){B:Nat}(h:UA w t p)(D:w.cell? (Ot b 0)=some (.slice va l.length dD))(aa:Rx B w (.slice va l.length dD) l)(hl:l.length<=90000) :
  OE 244 #[Oo p,OM b 0] w fun e w'=>e=OQ (OC (hasB l t.tx))/\OD w w':=by
 obtain⟨eP,_,c1,_⟩:=h.cells;have ai:=(VU l t.tx _ w.drew aa Ou);clear h
 generalize t.tx=tx at c1 ai
 have lf:=cell_lt D;go_enter func244,ntmps244;go_wp2_with fail;refine wp_region_held (S:=fun X=>X=w.drew) PK ?_;change wpAnyH _ _ _ _ _ _ _ _ (World.drew _);refine wh 0 (.slice va l.length dD) rfl ?_ (hy:=Or.inl ⟨by kernel_rfl,fun X ak=>by cases ak;go_simp⟩)
 refine wh 1 (Oo p) rfl ?_;refine wh 2 (Oo p) rfl ?_;refine wh 3 (OM p 1) rfl ?_;refine wh 4 (OB tx) rfl ?_ (hy:=Or.inl ⟨by kernel_rfl,fun X ak=>by cases ak;go_simp⟩)
 refine XY 5 fun K A=>?_;go_simp;refine cm ai ?_;rintro e w2 ⟨rfl,rfl⟩;refine A.out _ _ rfl (fun _=>?_);clear A K;refine wh 6 (OC (hasB l tx)) rfl ?_;refine wpAnyH_done PK ?_ _;go_simp;go_wp2;go_ret;exact⟨rfl,QX.drew⟩
def aii (t:Tr)(p b:Nat)(ao:List Tr)(va:Option Addr)(dD:Nat)(w:Ov){B:Nat}(h:UA w t p)(D:w.cell? (Ot b 0)=some (.slice va ao.length dD))(aa:UF B w (.slice va ao.length dD) ao)(hl:ao.length<=90000) :
  OE 245 #[Oo p,OM b 0] w fun e w'=>e=OQ (OC (Ul ao t.tx))/\OD w w':=by
 obtain⟨eP,_,c1,_⟩:=h.cells;have ai:=(Yv ao _ t.tx w.drew (aa.later QX.drew) hl);clear h
 generalize t.tx=tx at c1 ai
 have lf:=cell_lt D;have ab:OD w w.drew:=QX.drew;go_enter func245,ntmps245;go_wp2_with fail;refine wp_region_held (S:=fun X=>OD w X) PK ?_;change wpAnyH _ _ _ _ _ _ _ _ (World.drew _);refine wh 0 (.slice va ao.length dD) ab ?_ (hy:=Or.inl ⟨by kernel_rfl,fun X ak=>by have hh:=O4 ak D;go_simp⟩)
 refine wh 1 (Oo p) ab ?_;refine wh 2 (Oo p) ab ?_;refine wh 3 (OM p 1) ab ?_;refine wh 4 (OB tx) ab ?_ (hy:=Or.inl ⟨by kernel_rfl,fun X ak=>by have hh:=O4 ak c1;go_simp⟩)
 refine XY 5 fun K A=>?_;go_simp;refine cm ai ?_;rintro e w2 ⟨rfl,aF⟩;have f9:OD w w2:=ab.trans (aF.mono O6);refine A.out _ _ f9 (fun _=>?_);clear A K;refine wh 6 (OC (Ul ao tx)) f9 ?_;refine wpAnyH_done PK ?_ _;go_simp;go_wp2;go_ret;exact⟨rfl,f9⟩
def alj (t f:Tr)(p b q:Nat)(w:Ov)(h:UA w t p)(D:w.cell? (Ot b 0)=some (Oo q))(aH:UA w f q)(E:1<=f.kids.length)(cM:f.kids.length<=90000)(hl:(Qk f 0).kids.length<=90000) :
  OE 250 #[Oo p,OM b 0] w fun e w'=>e=OQ (OC (Ul (Qk f 0).kids t.tx))/\OD w w':=by
 obtain⟨eP,_,c1,_⟩:=h.cells;have ab:OD w w.drew:=QX.drew;have HP:=(aaK f q w.drew (aH.later ab) E cM);clear h
 generalize t.tx=tx at c1
 have lf:=cell_lt D;go_enter func250,ntmps250;go_wp2_with fail;refine wp_region_held (S:=fun X=>OD w X) PK ?_;change wpAnyH _ _ _ _ _ _ _ _ (World.drew _);refine wh 0 (Oo q) ab ?_ (hy:=Or.inl ⟨by kernel_rfl,fun X ak=>by have hh:=O4 ak D;go_simp⟩)
 refine wh 2 (Oo p) ab ?_;refine wh 3 (Oo p) ab ?_;refine wh 4 (OM p 1) ab ?_;refine wh 5 (OB tx) ab ?_ (hy:=Or.inl ⟨by kernel_rfl,fun X ak=>by have hh:=O4 ak c1;go_simp⟩)
 refine XY 1 fun K A=>?_;go_simp;refine cm HP ?_;rintro e w2 ⟨⟨u,rfl,aa⟩,rfl⟩;obtain⟨va,dD,rfl⟩:=aa.form;refine A.out _ _ ab (fun _=>?_);clear A K;have ai:=(Yv (Qk f 0).kids _ tx w.drew aa hl);refine XY 6 fun K A=>?_;go_simp;refine cm ai ?_;rintro e ap ⟨rfl,br⟩;have f9:OD w ap:=ab.trans (br.mono O6);refine A.out _ _ f9 (fun _=>?_);clear A K;refine wh 7 (OC (Ul (Qk f 0).kids tx)) f9 ?_;refine wpAnyH_done PK ?_ _;go_simp;go_wp2;go_ret;exact⟨rfl,f9⟩
def V5.take {I:Nat->Prop}{w:Ov}:∀ (ao:List Tr) (ps:List Nat),V5 I w ao ps->∀ k,V5 I w (ao.take k) (ps.take k)
 | [],ps,h,k=>by rw[V5] at h;subst h;simpa using V5.nil
 | t::ao,ps,h,k=>by
  rw[V5] at h;obtain⟨p,eQ,rfl,h1,U⟩:=h
  cases k with
  | zero=>simpa using V5.nil
  | succ k=>simpa using V5.cons h1 (V5.take ao eQ U k)
def UF.take {B:Nat}{w:Ov}{g cap:Nat}{ao:List Tr}(h:UF B w (.slice (some (Ot g 0)) ao.length cap) ao)(k:Nat)(E:k<=ao.length):UF B w (.slice (some (Ot g 0)) k cap) (ao.take k):=by
 obtain⟨ps,h1,U⟩:=h;have hl:=V5.length _ _ U;refine⟨ps.take k,?_,V5.take _ _ U k⟩;have kn:(ps.take k).length=k:=by rw[List.length_take];omega
 rw[kn];refine⟨by simp;omega,Or.inr ?_⟩
 rcases h1.2 with az|⟨g2,cap',cj,av,D,hg,aj,aS,aI,ae⟩
 ·exact absurd az.1 O8
 ·simp only[Value.slice.injEq,Option.some.injEq,Addr.mk.injEq] at av;obtain⟨⟨rfl,_,_⟩,_,rfl⟩:=av;refine⟨g,cap,cj,rfl,D,hg,by omega,aS,aI,?_⟩;have aw:=congrArg (List.take k) ae;rw[List.take_take,Nat.min_eq_left Ou] at aw;rw[Nat.mul_one,aw,<-List.map_take]
def ada (l:List Tr)(i:Nat):OH:=(l.map Tr.tx).getD i Ox
def ake (l:List Tr)(i:Nat)(h:i<l.length):ada l i=(l[i]).tx:=by simp[ada,List.getD,h]
def avy (l:List Tr)(i:Nat):Bool:=Ul (l.take i) (ada l i)
def aem (l:List Tr):Bool:=(List.range l.length).any (avy l)
def Zv (ao:List Tr)(v:OG)(w:Ov){B:Nat}(h:UF B w v ao)(hl:ao.length<=90000) :
  OE 247 #[v] w fun e w'=>e=OQ (OC (aem ao))/\OD w w':=by
 obtain⟨va,dD,rfl⟩:=h.form;have dj:=h;obtain⟨R,bW⟩:=xH (aem ao);rw[<-bW.out];clear h;go_enter func247,ntmps247;go_wp2_with fail
 go_loopw [7] (fun i wr=>∃ k:Nat,k<=ao.length/\i=Ol k/\(List.range k).any (avy ao)=false/\OD w wr) (fun i _=>ao.length - (intOf i).toNat)
 case atStart=>exact⟨0,Nat.zero_le _,rfl,rfl,QX⟩
 case round=>
  obtain⟨k,E,rfl,fv,D⟩:=hrel;have fL:=hide fv;clear fv
  by_cases aQ:k<ao.length
  ·have z:=Oq (∀{G}(h:G:=by
   obtain⟨dz,_,c1,_⟩:=az.cells;rw[<-ake ao k aQ] at c1;obtain⟨tx,cD⟩:=xE (ada ao k);rw[<-cD] at c1;have ab:OD wr wr.drew:=QX.drew;have ai:=(Yv (ao.take k) _ tx wr.drew (((dj.later D).take k E).later ab) (by rw[List.length_take];omega))
   obtain⟨r,aa⟩:=xE (Ul (ao.take k) tx);rw[<-aa] at ai;have nL:Hid (avy ao k=r):=by rw[aa,cD];rfl
   clear az cD aa;have MN:(k:Int)<=(dD:Int):=by
    obtain⟨ps,aR,fv⟩:=id dj;have eP:=V5.length _ _ fv
    rcases aR.2 with az|⟨g2,cap',cj,av,_,_,sI,_⟩
    ·exact absurd az.1 O8
    ·simp only[Value.slice.injEq] at av;omega
   have kY:dD<=maxLen:=by
    obtain⟨ps,aR,fv⟩:=dj
    rcases aR.2 with az|⟨g2,cap',cj,av,_,_,sI,aS,_⟩
    ·exact absurd az.1 O8
    ·simp only[Value.slice.injEq] at av;omega
   go_wp2_with fail;refine wp_region_held (S:=fun X=>OD wr X) PK ?_;change wpAnyH _ _ _ _ _ _ _ _ (World.drew _);refine wh 0 (.slice (some (Ot g 0)) ao.length dD) ab ?_;refine wh 1 (Ol k) ab ?_;refine wh 3 (Oo q) ab ?_;refine wh 4 (Oo q) ab ?_;refine wh 5 (OM q 1) ab ?_;refine wh 6 (OB tx) ab ?_ (hy:=Or.inl ⟨by kernel_rfl,fun X ak=>by have hh:=O4 ak c1;go_simp⟩)
   refine wh 2 (.slice (some (Ot g 0)) k dD) ab ?_;refine XY 7 fun K A=>?_;go_simp;refine cm ai ?_;rintro e w2 ⟨rfl,aF⟩;have f9:OD wr w2:=ab.trans (aF.mono O6);refine A.out _ _ f9 (fun _=>?_);clear A K;refine wpAnyH_done PK ?_ _;go_simp;have cq:=(D.trans (f9.mono D.size))
   cases r with
   | true=>
    have An:R=true:=by
     rw[bW.out,aem,List.any_eq_true];exact⟨k,List.mem_range.2 aQ,nL.out⟩
    subst An;go_wp2;go_ret;exact⟨rfl,cq⟩
   | false=>
    go_wp2
    go_roundw
    case rel=>
     refine⟨k+1,by omega,by go_num,?_,cq⟩;rw[List.range_succ,List.any_append,fL.out];simp[nL.out]
    case measure=>simp[intOf];omega),G);exact azw
  ·have cT:k=ao.length:=Ou;subst cT;have IE:R=false:=by rw[bW.out];exact Om fL
   subst IE;go_wp2;go_ret;exact⟨rfl,D⟩
def brE (t:Tr)(s:Bool):Option Int:=if (t.kd==9&&s)||t.kids.any WY then some 1 else none
def aaY (t:Tr)(p:Nat)(s i b:Bool)(w:Ov)(h:UA w t p)(hl:t.kids.length<=90000):OE 194 #[Oo p,X0 s i b] w fun e w'=>e=OQ (Vs (brE t s))/\OD w w':=by
 obtain⟨ed,ib⟩:=xE (w.alloc (.cells #[OC s,OC i,OC b] 112));have cr:OD w ed:=by rw[ib];exact PO
 obtain⟨eP,c0,_,u,c3,aa⟩:=h.cells;obtain⟨va,dD,rfl⟩:=aa.form;have ai:=(abz 251 WY azu t.kids _ ed (aa.later cr) hl (fun t _ p W _ az=>af6 t p W az));unfold brE;clear h
 generalize t.kids.any WY=r at ai
 generalize t.kids.length=L at c3 ai
 generalize t.kd=kd at c0
 cases hL:(kd==9&&s) with
 | true=>
  have h1:(kd==9)=true:=by cases hh:(kd==9) <;> simp_all
  have U:s=true:=by cases s <;> simp_all
  subst U;clear hL;rw[ib] at cr;clear ib;go_enter func194,ntmps194;go_wp2;go_ret;exact⟨rfl,cr⟩
 | false=>
  cases h1:(kd==9) with
  | true=>
   have U:s=false:=by cases s <;> simp_all
   subst U;exact azx
  | false=>
   exact azx
def adF {B B':Nat}{w:Ov}{v:OG}{ao:List Tr}(h:UF B w v ao)(a8:B'<=B):UF B' w v ao:=by
 obtain⟨ps,h1,U⟩:=h;refine⟨ps,⟨h1.1,?_⟩,U⟩
 rcases h1.2 with az|⟨g,cap,cj,av,D,rest⟩
 ·exact Or.inl az
 ·exact Or.inr ⟨g,cap,cj,av,by omega,rest⟩
def scT (t:Tr):Bool:=aem (Pv t)||(Pv t).any (fun k=>Ul (TV t) k.tx)||(Pv t).any (fun k=>hasB (P6 t) k.tx)
def scU (t:Tr):Bool:=aem (TV t)||(TV t).any (fun k=>hasB (P6 t) k.tx)
def scE (t:Tr)(body:Bool):Option Int:=if scT t||(!body&&scU t) then some 9 else none
structure aGf (ek:Ov)(sq tM:Nat)(LV yG:OG)(bU j2 a2 cg a3:Bool):Prop where
 cF:ek.cell? (Ot tM 0)=some yG
 hr1:∀ W,OD ek W->OE 247 #[LV] W fun e w'=>e=OQ (OC bU)/\OD W w'
 ha1:∀ W,OD ek W->OE 248 #[LV,.func (.func 245) #[] #[OM tM 0]] W fun e w'=>e=OQ (OC j2)/\OD W w'
 ha2:∀ W,OD ek W->OE 248 #[LV,.func (.func 244) #[] #[OM sq 0]] W fun e w'=>e=OQ (OC a2)/\OD W w'
 hr2:∀ W,OD ek W->OE 247 #[yG] W fun e w'=>e=OQ (OC cg)/\OD W w'
 ha3:∀ W,OD ek W->OE 248 #[yG,.func (.func 244) #[] #[OM sq 0]] W fun e w'=>e=OQ (OC a3)/\OD W w'
def aGg (t:Tr)(ek:Ov)(sq tM B:Nat)(va d6 la:Option Addr)(dD mo gs:Nat)(fZ:Rx B ek (.slice va (P6 t).length dD) (P6 t))(ah:UF B ek (.slice d6 (TV t).length mo) (TV t))(dr:UF B ek (.slice la (Pv t).length gs) (Pv t))
  (vD:ek.cell? (Ot sq 0)=some (.slice va (P6 t).length dD)) (cF:ek.cell? (Ot tM 0)=some (.slice d6 (TV t).length mo)) (av:(P6 t).length<=90000) (aH:(TV t).length<=90000) (hl:(Pv t).length<=90000) :
  aGf ek sq tM (.slice la (Pv t).length gs) (.slice d6 (TV t).length mo) (aem (Pv t)) ((Pv t).any fun k=>Ul (TV t) k.tx) ((Pv t).any fun k=>hasB (P6 t) k.tx) (aem (TV t)) ((TV t).any fun k=>hasB (P6 t) k.tx):=by
 refine⟨cF,fun W a1=>Zv _ _ W (dr.later a1) hl,fun W a1=>?_,fun W a1=>?_,fun W a1=>Zv _ _ W (ah.later a1) aH,fun W a1=>?_⟩
 ·exact V7 245 _ (fun k=>Ul (TV t) k.tx) azv (Pv t) _ W (dr.later a1) hl (fun k _ p X ak az=>aii k p tM (TV t) d6 mo X az (O4 ak (O4 a1 cF)) ((ah.later a1).later ak) aH)
 ·exact V7 244 _ (fun k=>hasB (P6 t) k.tx) aur (Pv t) _ W (dr.later a1) hl (fun k _ p X ak az=>abC k p sq (P6 t) va dD X az (O4 ak (O4 a1 vD)) (Rx.later (Rx.later fZ a1) ak) av)
 ·exact V7 244 _ (fun k=>hasB (P6 t) k.tx) aur (TV t) _ W (ah.later a1) aH (fun k _ p X ak az=>abC k p sq (P6 t) va dD X az (O4 ak (O4 a1 vD)) (Rx.later (Rx.later fZ a1) ak) av)
def X3 (t:Tr)(p:Nat)(body:Bool)(w:Ov)(h:UA w t p)(aj:t.count<=20000):OE 190 #[Oo p,OC body] w fun e w'=>e=OQ (Vs (scE t body))/\OD w w':=by
 have z:=Oq (∀{G}(h:G:=by
 have fI:=abk t;have iu:=TW t;have ia:=X4 t;have yj:(P6 t).length<=20000:=Ou;have fi:=(WZ t p w h Ou);unfold scE scT scU;obtain⟨bU,z1⟩:∃ r,r=aem (Pv t):=⟨_,rfl⟩;obtain⟨j2,zW⟩:∃ r,r=(Pv t).any fun k=>Ul (TV t) k.tx:=⟨_,rfl⟩;obtain⟨a2,zX⟩:∃ r,r=(Pv t).any fun k=>hasB (P6 t) k.tx:=⟨_,rfl⟩;obtain⟨cg,z6⟩:∃ r,r=aem (TV t):=⟨_,rfl⟩;obtain⟨a3,zY⟩:∃ r,r=(TV t).any fun k=>hasB (P6 t) k.tx:=⟨_,rfl⟩;rw[<-z1,<-zW,<-zX,<-z6,<-zY];have y3:=hide z1
 have jX:=hide zW;have y4:=hide zX;have FR:=hide z6;have FS:=hide zY;clear gQ ia aj z1 zW zX z6 zY;go_enter func190,ntmps190;go_wp2_with fail;refine cm fi ?_;rintro e w1 ⟨⟨gW,rfl,hr1⟩,b6⟩;obtain⟨va,dD,rfl⟩:=OX hr1;have f4:=(aac t p w1 (h.later b6) Ou);go_wp2_with fail;refine cm f4 ?_;rintro e w2 ⟨⟨gC,rfl,hr2⟩,aF⟩;obtain⟨d6,mo,rfl⟩:=hr2.form;have cq:=(b6.trans (aF.mono b6.size));have fj:=(Rx.later hr1 aF);have eF:=(abD t p w2 (h.later cq) Ou);go_wp2_with fail;refine cm eF ?_
 rintro e ap ⟨⟨kC,rfl,iR⟩,br⟩;obtain⟨la,gs,rfl⟩:=iR.form;have d3:=(cq.trans (br.mono cq.size));have m0:=(Rx.later fj br);have cQ:=(hr2.later br);go_wp2_with fail;obtain⟨ek,iy⟩:=xE ((ap.alloc (.cells #[.slice va (P6 t).length dD] 26)).alloc (.cells #[.slice d6 (TV t).length mo] 38));have hQ:OD ap ek:=by rw[iy];exact PO.alloc O8 _
 have Nh:ek.heap.size=ap.heap.size+2:=by rw[iy];simp
 have vD:ek.cell? (Ot ap.heap.size 0)=some (.slice va (P6 t).length dD):=by
  have h1:ek.heap[ap.heap.size]? = some (O1 #[.slice va (P6 t).length dD] 26):=by rw[iy,Below.heap_alloc _ _ _ O8,OA]
  rw[cell_of h1];rfl
 have cF:ek.cell? (Ot (ap.heap.size+1) 0)=some (.slice d6 (TV t).length mo):=by
  have h1:ek.heap[ap.heap.size+1]? = some (O1 #[.slice d6 (TV t).length mo] 38):=by
   have U:=OA (ap.alloc (.cells #[.slice va (P6 t).length dD] 26)) (.cells #[.slice d6 (TV t).length mo] 38);rw[iy];simpa using U
  rw[cell_of h1];rfl
 have pw:=(aGg t ek ap.heap.size (ap.heap.size+1) 0 va d6 la dD mo gs (aad (Rx.later m0 hQ) (Nat.zero_le _)) (adF (cQ.later hQ) (Nat.zero_le _)) (adF (iR.later hQ) (Nat.zero_le _)) vD cF Ou Ou Ou);rw[<-y3.out,<-jX.out,<-y4.out,<-FR.out,<-FS.out] at pw;have tz:OD ek ek:=QX;have jo:=(d3.trans (hQ.mono d3.size));rw[<-iy];clear h vD iy
 generalize (Pv t).length=NB at pw iu
 generalize (TV t).length=lO at pw fI cF
 generalize (P6 t).length=vl at yj
 cases body with
 | true=>
  cases bU with
  | true=>
   exact azy
  | false=>
   have z:=Oq (∀{G}(h:G:=by
   cases j2 with
   | true=>
    exact azz
   | false=>
    have z:=Oq (∀{G}(h:G:=by
    cases a2 with
    | true=>
     exact avA
    | false=>
     exact avA),G);exact avC),G);exact avD
 | false=>
  cases bU with
  | true=>
   exact azy
  | false=>
   have z:=Oq (∀{G}(h:G:=by
   cases j2 with
   | true=>
    exact azz
   | false=>
    have z:=Oq (∀{G}(h:G:=by
    cases a2 with
    | true=>
     exact avA
    | false=>
     refine cm (pw.ha2 _ e8) ?_;rintro e jk ⟨rfl,wx⟩;have kM:OD ek jk:=e8.trans (wx.mono e8.size);have f8:=O4 kM cF;have Mi:=cell_lt f8;go_wp2_with fail
     cases cg with
     | true=>
      refine cm (pw.hr2 _ kM) ?_;rintro e ja ⟨rfl,um⟩;have k8:OD ek ja:=kM.trans (um.mono kM.size);go_wp2;go_ret;exact⟨rfl,jo.trans (k8.mono jo.size)⟩
     | false=>
      refine cm (pw.hr2 _ kM) ?_;rintro e ja ⟨rfl,um⟩;have k8:OD ek ja:=kM.trans (um.mono kM.size);have Ak:=O4 k8 cF;have Mj:=cell_lt Ak;go_wp2_with fail
      cases a3 with
      | true=>
       exact azA
      | false=>
       exact azA),G);exact avC),G);exact avD),G);exact zsw
def X5 (t:Tr)(s:Bool):Option Int:=match nmE s t.tx with
 | some e=>some e
 | none=>if hasB (namesT (Qk t 0) false) t.tx then some 9 else none
structure XT (b:Nat)(s i d:Bool)(w:Ov):Prop where
 c0:w.cell? (Ot b 0)=some (OC s)
 c1:w.cell? (Ot b 1)=some (OC i)
 c2:w.cell? (Ot b 2)=some (OC d)
def XT.new (w:Ov)(s i d:Bool):XT w.heap.size s i d (w.alloc (.cells #[OC s,OC i,OC d] 112)):=
 ⟨by rw[cell_of (OA _ _)];rfl,by rw[cell_of (OA _ _)];rfl,by rw[cell_of (OA _ _)];rfl⟩
def XT.later {b:Nat}{s i d:Bool}{w X:Ov}(h:XT b s i d w)(D:OD w X):XT b s i d X:=⟨O4 D h.c0,O4 D h.c1,O4 D h.c2⟩
def abE (t:Tr)(p:Nat)(s i b:Bool)(w:Ov)(h:UA w t p)(E:1<=t.kids.length)(aj:t.count<=20000):OE 193 #[Oo p,X0 s i b] w fun e w'=>e=OQ (Vs (X5 t s))/\OD w w':=by
 have z:=Oq (∀{G}(h:G:=by
 obtain⟨ed,ib⟩:=xE (w.alloc (.cells #[OC s,OC i,OC b] 112));have cr:OD w ed:=by rw[ib];exact PO
 have wv:XT w.heap.size s i b ed:=by rw[ib];exact XT.new _ _ _ _
 obtain⟨eP,_,c1,u,c3,aa⟩:=(h.later cr).cells;obtain⟨g,cap,q,rfl,hg,AB,az⟩:=aa.cell 0 Ou;rw[<-Xx t 0 Ou] at az;have wy:(Qk t 0).count<=20000:=by
  rw[Xx t 0 Ou];have:=UO t.kids 0 Ou;omega
 have lf:=cell_lt wv.c0;unfold X5;have k3:=hide (fun W=>Vt s i b t.tx W);have fL:Hid (∀ W,OD ed W->OE 78 #[Oo q,OC false] W fun e w'=>(∃ u,e=OQ u/\Rx W.heap.size w' u (namesT (Qk t 0) false))/\OD W w'):=fun W a1=>aae (Qk t 0) q false W (az.later a1) wy;have nF:Hid ((namesT (Qk t 0) false).length<=90000):=by
  have h0:(Qk t 0).count=1+Tr.counts (Qk t 0).kids:=by cases (Qk t 0) with|mk kd tx gt ks=>exact count_mk _ _ _ _
  have h1:=S9 (Qk t 0).kids;have U:=Zw ([]++(TV (Qk t 0)).map Tr.tx++(Pv (Qk t 0)).map Tr.tx);have aw:=abk (Qk t 0);have aL:=TW (Qk t 0)
  show (namesT (Qk t 0) false).length<=_
  unfold namesT;simp only[Bool.false_eq_true,if_false];simp only[List.length_append,List.length_map,List.length_nil] at U;omega
 generalize namesT (Qk t 0) false=uD at fL nF
 generalize t.tx=tx at c1 k3
 generalize t.kids.length=L at c3 E cM
 generalize nmE s tx=er at k3
 obtain⟨r,bW⟩:=xH (hasB uD tx);rw[<-bW.out];clear h gQ aj wy;go_enter func193,ntmps193;go_wp2_with fail;rw[<-ib];have ab:OD ed ed.drew:=QX.drew;refine wp_region_held (S:=fun X=>OD ed X) PK ?_;change wpAnyH _ _ _ _ _ _ _ _ (World.drew _);refine wh 0 (Oo p) ab ?_;refine wh 1 (Oo p) ab ?_;refine wh 2 (OM p 1) ab ?_;refine wh 3 (OB tx) ab ?_ (hy:=Or.inl ⟨by kernel_rfl,fun X ak=>by have hh:=O4 ak c1;go_simp⟩)
 refine wh 4 (X0 s i b) ab ?_ (hy:=Or.inl ⟨by kernel_rfl,fun X ak=>by
  have hh:=XT.later wv ak;have h0:=hh.c0;have h1:=hh.c1;have U:=hh.c2;clear hh;go_simp⟩)
 refine XY 5 fun K A=>?_;go_simp;refine cm (k3.out _) ?_;rintro e w2 ⟨rfl,aF⟩;rw[<-ib] at aF;have f9:OD ed w2:=ab.trans (aF.mono O6);refine A.out _ _ f9 (fun _=>?_);clear A K;refine wh 6 (Vs er) f9 ?_;refine wpAnyH_done PK ?_ _;go_simp
 cases er with
 | some e=>
  unfold Vs;go_wp2;go_ret;exact⟨rfl,cr.trans (f9.mono cr.size)⟩
 | none=>
  unfold Vs;have eq:=O4 f9 c1;have jJ:=O4 f9 c3;have Da:=O4 f9 AB;have hpl2:p<w2.heap.size:=cell_lt eq;have AL:g<w2.heap.size:=cell_lt Da;have hL0':¬ L=0:=Ou;go_wp2_with fail;have ab:OD w2 w2.drew:=QX.drew;refine wp_region_held (S:=fun X=>OD w2 X) PK ?_;change wpAnyH _ _ _ _ _ _ _ _ (World.drew _);refine wh 0 (Oo p) ab ?_;refine wh 1 (Oo p) ab ?_;refine wh 2 (OM p 3) ab ?_;refine wh 3 (.slice (some (Ot g 0)) L cap) ab ?_ (hy:=Or.inl ⟨by kernel_rfl,fun X ak=>by have hh:=O4 ak jJ;go_simp⟩)
  refine wh 4 (OM g 0) ab ?_ (hy:=Or.inl ⟨by kernel_rfl,fun X ak=>by have Mm:=hL0';go_simp⟩)
  refine wh 5 (Oo q) ab ?_ (hy:=Or.inl ⟨by kernel_rfl,fun X ak=>by have hh:=O4 ak Da;go_simp⟩)
  refine wh 7 (Oo p) ab ?_;refine wh 8 (Oo p) ab ?_;refine wh 9 (OM p 1) ab ?_;refine wh 10 (OB tx) ab ?_ (hy:=Or.inl ⟨by kernel_rfl,fun X ak=>by have hh:=O4 ak eq;go_simp⟩)
  refine XY 6 fun K A=>?_;go_simp;refine cm (fL.out _ (f9.trans (ab.mono f9.size))) ?_;rintro e ap ⟨⟨kC,rfl,iR⟩,br⟩;obtain⟨a3,LD,rfl⟩:=OX iR;have sD:OD w2 ap:=ab.trans (br.mono O6);refine A.out _ _ sD (fun _=>?_);clear A K;have ai:=(VU uD tx _ ap iR (by have:=Om nF;omega))
  rw[<-bW.out] at ai;refine XY 11 fun K A=>?_;go_simp;refine cm ai ?_;rintro e bA ⟨rfl,rfl⟩;refine A.out _ _ sD (fun _=>?_);clear A K;refine wpAnyH_done PK ?_ _;go_simp;have kM:=(f9.trans (sD.mono f9.size))
  cases r <;>
  ·go_wp2;go_ret;exact⟨rfl,cr.trans (kM.mono cr.size)⟩),G);exact zsw
def UG (f:Nat->Option Int):Nat->Option Int
 | 0=>none
 | n+1=>match UG f n with
  | some e=>some e
  | none=>f n
def abG {f:Nat->Option Int}{k:Nat}{e:Int}(h:UG f k=none)(aH:f k=some e):∀ n,k<n->UG f n=some e
 | 0,az=>absurd az Ou
 | n+1,az=>by
  rw[UG]
  rcases Nat.lt_or_ge k n with h1|h1
  ·rw[abG h aH n h1]
  ·have:k=n:=Ou;subst this;rw[h];exact aH
def aaL {f:Nat->Option Int}{k:Nat}(h:UG f k=none)(aH:f k=none):UG f (k+1)=none:=by rw[UG,h];exact aH
def Vj (s:Bool)(ps:List Tr)(i:Nat):Option Int:=match nmE s (ada ps i) with
 | some e=>some e
 | none=>if s&&Ul (ps.take i) (ada ps i) then some 9 else none
def arz (s:Bool)(ps:List Tr):Option Int:=UG (Vj s ps) ps.length
def letE (t:Tr):Bool:=(Pv (Qk t 1)).any fun k=>Ul (Qk t 0).kids k.tx
def fnE (t:Tr)(s:Bool):Option Int:=match nmE s t.tx with
 | some e=>some e
 | none=>match arz s (Qk t 0).kids with
  | some e=>some e
  | none=>if letE t then some 9 else none
def alm {B:Nat}{w:Ov}{v:OG}{ao:List Tr}(h:UF B w v ao)(az:0<ao.length):∃ g cap,v=.slice (some (Ot g 0)) ao.length cap/\(ao.length:Int)<=(cap:Int)/\cap<=maxLen:=by
 obtain⟨ps,aR,fv⟩:=h;have eP:=V5.length _ _ fv
 rcases aR.2 with M0|⟨g,cap,cj,av,_,_,aj,aS,_⟩
 ·omega
 ·exact⟨g,cap,by rw[av,eP],by omega,aS⟩
structure arB (t:Tr)(p xB xC:Nat)(s i b:Bool)(w:Ov):Prop where
 nt:UA w t p
 cN:w.cell? (Ot xB 0)=some (Oo p)
 pl:XT xC s i b w
def arB.later {t:Tr}{p xB xC:Nat}{s i b:Bool}{w X:Ov}(h:arB t p xB xC s i b w)(D:OD w X):arB t p xB xC s i b X:=⟨h.nt.later D,O4 D h.cN,h.pl.later D⟩
def Zx (t:Tr)(p:Nat)(s i b:Bool)(w:Ov)(h:UA w t p)(E:2<=t.kids.length)(aj:t.count<=20000):OE 191 #[Oo p,X0 s i b] w fun e w'=>e=OQ (Vs (fnE t s))/\OD w w':=by
 have z:=Oq (∀{G}(h:G:=by
 have AU:∀ j,j<t.kids.length->(Qk t j).kids.length<=20000:=fun j aN=>by
  rw[Xx t j aN];have h1:=UO t.kids j aN;have U:(t.kids[j]).count=1+Tr.counts (t.kids[j]).kids:=by cases t.kids[j] with|mk kd tx gt ks=>exact count_mk _ _ _ _
  have aw:=S9 (t.kids[j]).kids;omega
 have xS:=AU 0 Ou;have vS:=AU 1 Ou;obtain⟨ek,iy⟩:=xE ((w.alloc (.cells #[Oo p] 22)).alloc (.cells #[OC s,OC i,OC b] 112));have hQ:OD w ek:=by rw[iy];exact PO.alloc O8 _
 have sA:arB t p w.heap.size (w.heap.size+1) s i b ek:=by
  refine⟨h.later hQ,?_,?_⟩
  ·have h1:ek.heap[w.heap.size]? = some (O1 #[Oo p] 22):=by rw[iy,Below.heap_alloc _ _ _ O8,OA]
   rw[cell_of h1];rfl
  ·have h1:=XT.new (w.alloc (.cells #[Oo p] 22)) s i b;rw[iy];simpa using h1
 have fN:Hid (∀ W,OD ek W->OE 249 #[Oo p] W fun e w'=>(∃ u,e=OQ u/\UF 0 W u (Qk t 0).kids)/\w'=W):=fun W a1=>aaK t p W (sA.later a1).nt Ou Ou;have k3:Hid (∀ x W,OE 192 #[OB x,X0 s i b] W fun e w'=>e=OQ (Vs (nmE s x))/\OD W w'):=fun x W=>Vt s i b x W;have lE:Hid (∀ W,OD ek W->OE 103 #[Oo p] W fun e w'=>(∃ q,e=OQ (Oo q)/\UA W (Qk t 1) q)/\w'=W):=fun W a1=>abB t p W (sA.later a1).nt E Ou
 have bS:Hid (∀ q W,UA W (Qk t 1) q->OE 77 #[Oo q] W fun e w'=>(∃ u,e=OQ u/\UF W.heap.size w' u (Pv (Qk t 1)))/\OD W w'):=fun q W ag=>abD _ q W ag Ou;have jD:Hid (∀ v W B,OD ek W->UF B W v (Pv (Qk t 1))->OE 248 #[v,.func (.func 250) #[] #[OM w.heap.size 0]] W fun e w'=>e=OQ (OC (letE t))/\OD W w'):=fun v W B a1 av=>
  V7 250 _ (fun k=>Ul (Qk t 0).kids k.tx) avx _ v W av (by have:=TW (Qk t 1);omega) (fun k _ cz X ak az=>alj k t cz w.heap.size p X az ((sA.later a1).later ak).cN ((sA.later a1).later ak).nt Ou Ou Ou)
 obtain⟨_,_,c1,_⟩:=sA.nt.cells;unfold fnE;obtain⟨w5,gP⟩:=xE (arz s (Qk t 0).kids);rw[<-gP];have zv:Hid (∀ n e,n<(Qk t 0).kids.length->UG (Vj s (Qk t 0).kids) n=none->Vj s (Qk t 0).kids n=some e->w5=some e):=fun n e az h1 U=>by rw[gP];exact abG h1 U _ az
 have CF:Hid (UG (Vj s (Qk t 0).kids) (Qk t 0).kids.length=none->w5=none):=fun h1=>by rw[gP];exact h1
 generalize letE t=le at jD
 generalize Pv (Qk t 1)=ND at bS jD
 generalize (Qk t 0).kids=P at fN zv CF xS
 generalize t.tx=tx at c1
 have C7:=sA.cN;have eP:=sA.pl;clear h E aj gQ cM AU vS gP;have Cv:=hide (k3 tx)
 generalize Ix:nmE s tx=aK at Cv
 clear Ix;have mP:=hide C7;have fi:=hide c1;have qa:=eP;clear C7 c1 eP;go_enter func191,ntmps191;go_wp2_with fail;rw[<-iy];have ab:OD ek ek.drew:=QX.drew;have eP:=cell_lt fi.out;refine wp_region_held (S:=fun X=>OD ek X) PK ?_;change wpAnyH _ _ _ _ _ _ _ _ (World.drew _);refine wh 0 (Oo p) ab ?_ (hy:=Or.inl ⟨by kernel_rfl,fun X ak=>by have hh:=O4 ak mP.out;go_simp⟩)
 refine wh 1 (Oo p) ab ?_;refine wh 2 (OM p 1) ab ?_;refine wh 3 (OB tx) ab ?_ (hy:=Or.inl ⟨by kernel_rfl,fun X ak=>by have hh:=O4 ak fi.out;go_simp⟩)
 refine wh 4 (X0 s i b) ab ?_ (hy:=Or.inl ⟨by kernel_rfl,fun X ak=>by
  have hh:=XT.later qa ak;have h0:=hh.c0;have h1:=hh.c1;have U:=hh.c2;clear hh;go_simp⟩)
 refine XY 5 fun K A=>?_;go_simp;refine cm (Cv.out _) ?_;rintro e w2 ⟨rfl,aF⟩;rw[<-iy] at aF;have f9:OD ek w2:=ab.trans (aF.mono O6);refine A.out _ _ f9 (fun _=>?_);clear A K;refine wh 6 (Vs aK) f9 ?_;refine wpAnyH_done PK ?_ _;go_simp
 cases aK with
 | some e=>
  unfold Vs;go_wp2;go_ret;exact⟨rfl,hQ.trans (f9.mono hQ.size)⟩
 | none=>
  unfold Vs;have gH:=O4 f9 mP.out;have m7:=cell_lt gH;have ai:=(Om fN w2 f9);go_wp2_with fail;refine cm ai ?_;rintro e ap ⟨⟨u,rfl,aa⟩,rfl⟩;obtain⟨va,dD,rfl⟩:=aa.form;have dj:=aa;clear aa gH m7;go_wp2_with fail
  go_loopw [22] (fun j wr=>∃ k:Nat,k<=P.length/\j=Ol k/\UG (Vj s P) k=none/\OD ap wr) (fun j _=>P.length - (intOf j).toNat)
  case atStart=>exact⟨0,Nat.zero_le _,rfl,rfl,QX⟩
  case round=>
   obtain⟨k,E,rfl,fv,D⟩:=hrel;have fL:=hide fv;clear fv;have lF:=(f9.trans (D.mono f9.size))
   by_cases aQ:k<P.length
   ·obtain⟨g,cap,q,av,hg,aj,az⟩:=(dj.later D).cell k aQ;simp only[Value.slice.injEq] at av;obtain⟨rfl,_,rfl⟩:=av;have h8:(k:Int)<(P.length:Int):=Ou;obtain⟨dz,_,cx,_⟩:=az.cells;rw[<-ake P k aQ] at cx;have ma:Hid (Vj s P k=(match nmE s (ada P k) with|some e=>some e|none=>if s&&Ul (P.take k) (ada P k) then some 9 else none)):=rfl
    generalize ada P k=x at cx ma
    have nJ:=hide (Om k3 x)
    generalize nmE s x=ex at nJ ma
    have GN:=(XT.later qa lF);have tl:=hide cx;clear az;go_wp2_with fail;have ab:OD wr wr.drew:=QX.drew;refine wp_region_held (S:=fun X=>OD wr X) PK ?_;change wpAnyH _ _ _ _ _ _ _ _ (World.drew _);refine wh 0 (Oo q) ab ?_;refine wh 1 (Oo q) ab ?_;refine wh 2 (OM q 1) ab ?_;refine wh 3 (OB x) ab ?_ (hy:=Or.inl ⟨by kernel_rfl,fun X ak=>by have hh:=O4 ak tl.out;go_simp⟩)
    refine wh 4 (X0 s i b) ab ?_ (hy:=Or.inl ⟨by kernel_rfl,fun X ak=>by
  have hh:=XT.later GN ak;have h0:=hh.c0;have h1:=hh.c1;have U:=hh.c2;clear hh;go_simp⟩)
    refine XY 5 fun K A=>?_;go_simp;refine cm (nJ.out _) ?_;rintro e bA ⟨rfl,dh⟩;have vV:OD wr bA:=ab.trans (dh.mono O6);refine A.out _ _ vV (fun _=>?_);clear A K;refine wh 6 (Vs ex) vV ?_;refine wpAnyH_done PK ?_ _;go_simp;have k8:=(D.trans (vV.mono D.size));have m1:=(lF.trans (vV.mono lF.size));have uS:=hide (O4 vV tl.out);clear cx dz aj hg
    cases ex with
    | some e=>
     have sP:w5=some e:=Om zv k e aQ fL.out ma.out;subst sP;unfold Vs;go_wp2;go_ret;exact⟨rfl,hQ.trans (m1.mono hQ.size)⟩
    | none=>
     unfold Vs;have zw:=(XT.later qa m1);have MB:=cell_lt zw.c0;have ab:OD bA bA.drew:=QX.drew
     cases s with
     | false=>
      have xt:Hid (Vj false P k=none):=Om ma;go_wp2_with fail;refine wp_region_held (S:=fun X=>OD bA X) PK ?_;change wpAnyH _ _ _ _ _ _ _ _ (World.drew _);refine wh 0 (OM (w.heap.size+1) 0) ab ?_;refine wh 1 (OC false) ab ?_ (hy:=Or.inl ⟨by kernel_rfl,fun X ak=>by have hh:=O4 ak zw.c0;go_simp⟩)
      refine wh 2 (OC false) ab ?_;refine wh 3 undef ab ?_ (hy:=Or.inr ⟨by kernel_rfl,rfl⟩);refine wh 5 undef ab ?_ (hy:=Or.inr ⟨by kernel_rfl,rfl⟩);refine wh 7 undef ab ?_ (hy:=Or.inr ⟨by kernel_rfl,rfl⟩);refine wh 8 undef ab ?_ (hy:=Or.inr ⟨by kernel_rfl,rfl⟩);refine wh 9 undef ab ?_ (hy:=Or.inr ⟨by kernel_rfl,rfl⟩);refine wh 10 undef ab ?_ (hy:=Or.inr ⟨by kernel_rfl,rfl⟩);refine XY 4 fun K A=>?_;go_simp;refine A.out _ _ ab (fun _=>?_);clear A K;refine wh 6 undef ab ?_ (hy:=Or.inr ⟨by kernel_rfl,rfl⟩);refine XY 11 fun K A=>?_;go_simp
      refine A.out _ _ ab (fun _=>?_);clear A K;refine wh 12 (OC false) ab ?_;refine wpAnyH_done PK ?_ _;go_simp;go_wp2
      go_roundw
      case rel=>exact⟨k+1,by omega,by go_num,aaL fL.out xt.out,k8.drew⟩
      case measure=>simp[intOf];omega
     | true=>
      have GK:=(Om fN bA.drew m1.drew);have B9:=hide (O4 m1 mP.out);have Mz:=cell_lt B9.out;have um:=cell_lt uS.out;obtain⟨r,aa⟩:=xE (Ul (P.take k) x);have xt:Hid (Vj true P k=if r then some 9 else none):=by rw[aa];exact Om ma
      have je:=hide aa;clear aa;go_wp2_with fail;refine wp_region_held (S:=fun X=>OD bA X) PK ?_;change wpAnyH _ _ _ _ _ _ _ _ (World.drew _);refine wh 0 (OM (w.heap.size+1) 0) ab ?_;refine wh 1 (OC true) ab ?_ (hy:=Or.inl ⟨by kernel_rfl,fun X ak=>by have hh:=O4 ak zw.c0;go_simp⟩)
      refine wh 2 (OC true) ab ?_;refine wh 3 (Oo p) ab ?_ (hy:=Or.inl ⟨by kernel_rfl,fun X ak=>by have hh:=O4 ak B9.out;go_simp⟩)
      refine wh 5 (Ol k) ab ?_;refine wh 7 (Oo q) ab ?_;refine wh 8 (Oo q) ab ?_;refine wh 9 (OM q 1) ab ?_;refine wh 10 (OB x) ab ?_ (hy:=Or.inl ⟨by kernel_rfl,fun X ak=>by have hh:=O4 ak uS.out;go_simp⟩)
      refine XY 4 fun K A=>?_;go_simp;refine cm GK ?_;rintro e b7 ⟨⟨xa,rfl,pP⟩,rfl⟩;obtain⟨xK,c5,rfl,hcap,Mw⟩:=alm pP Ou;refine A.out _ _ ab (fun _=>?_);clear A K;have B6:=(Yv (P.take k) _ x bA.drew (pP.take k Ou) (by rw[List.length_take];omega))
      rw[<-je.out] at B6;have pM:(k:Int)<=(c5:Int):=Ou;refine wh 6 (.slice (some (Ot xK 0)) k c5) ab ?_;refine XY 11 fun K A=>?_;go_simp;refine cm B6 ?_;rintro e ch ⟨rfl,e4⟩;have xT:OD bA ch:=ab.trans (e4.mono O6);refine A.out _ _ xT (fun _=>?_);clear A K;refine wh 12 (OC r) xT ?_;refine wpAnyH_done PK ?_ _;go_simp;have Ha:=(k8.trans (xT.mono k8.size));have q5:=(m1.trans (xT.mono m1.size))
      cases r with
      | true=>
       have sP:w5=some 9:=Om zv k 9 aQ fL.out xt.out;subst sP;go_wp2;go_ret;exact⟨rfl,hQ.trans (q5.mono hQ.size)⟩
      | false=>
       go_wp2
       go_roundw
       case rel=>exact⟨k+1,by omega,by go_num,aaL fL.out xt.out,Ha⟩
       case measure=>simp[intOf];omega
   ·have cT:k=P.length:=Ou;subst cT;have Jv:w5=none:=Om CF fL.out;subst Jv;have gH:=O4 lF mP.out;have m7:=cell_lt gH;have ai:=(Om lE wr lF);go_wp2_with fail;refine cm ai ?_;rintro e bA ⟨⟨q,rfl,ag⟩,rfl⟩;have f4:=(Om bS q bA ag);go_wp2_with fail;refine cm f4 ?_;rintro e b7 ⟨⟨xa,rfl,pP⟩,e3⟩;obtain⟨la,gs,rfl⟩:=pP.form;have iE:=(lF.trans (e3.mono lF.size));have eF:=(Om jD _ b7 _ iE pP)
    cases le <;>
    ·go_wp2_with fail;refine cm eF ?_;rintro e ch ⟨rfl,e4⟩;have oc:=(iE.trans (e4.mono iE.size));go_wp2;go_ret;exact⟨rfl,hQ.trans (oc.mono hQ.size)⟩),G);exact zsw
