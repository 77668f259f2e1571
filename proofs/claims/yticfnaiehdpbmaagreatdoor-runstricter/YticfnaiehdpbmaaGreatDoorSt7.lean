import Derived.Test.YticfnaiehdpbmaaGreatDoorSt4
import Derived.MapKept
import Derived.Deep.MidRow
import Derived.Laws.AppendOwnNone
import Derived.Recover
import Derived.Defers
set_option maxRecDepth 100000
set_option maxHeartbeats 8000000
set_option linter.all false
namespace Go.Proofs.YticfnaiehdpbmaaGreatDoor
open Go.RowKit Go.Proofs.Tryz
def ajC (l:List (Ou × Ot))(k:Ou)(v:Ot):(mapOf l).push { key:=Oj k,val:=v,born:=l.length }=mapOf (l++[(k,v)]):=by
 unfold mapOf;rw[List.zipIdx_append,List.map_append];simp[mkE,List.zipIdx]
def Qz (W:Og)(m:Nat)(o:Obj):Og:={ W with heap:=W.heap.setIfInBounds m o }
def Vy (W:Og)(m:Nat)(o:Obj):(Qz W m o).heap.size=W.heap.size:=by simp[Qz]
def Xc {W:Og}{m:Nat}{o:Obj}(h:m<W.heap.size):(Qz W m o).heap[m]? = some o:=by simp[Qz,h]
def Qp {W:Og}{m k:Nat}{o:Obj}(h:k≠m):(Qz W m o).heap[k]? = W.heap[k]?:=by simp[Qz,Ne.symm h]
def Xx {B:Nat}{w W:Og}{m:Nat}{o:Obj}(h:Below B w W)(aR:B<=m):Below B w (Qz W m o):=
 ⟨h.os,h.tape,h.output,by rw[Vy];exact h.size,fun k E=>by rw[Qp Oe];exact h.block k E⟩
def Za (T kI:TypeId)(m:Nat)(l:List (Ou × Ot))(s:Ou)(v:Ot)(W:Og)(dZ:prog.underlying T=some (.map 9 kI))(aR:W.heap[m]? = some (.map (mapOf l) l.length))(ax:l.find? (fun e=>decide (s=e.1))=none) :
  (Instr.mapUpdate T (.map (some m)) (Oj s) v).run prog W=.ok () (Qz W m (.map (mapOf (l++[(s,v)])) (l.length+1))):=by
 have⟨o,h1,U⟩:=aav s l 0 0;have hu:=underlying9;have aO:o=none:=by
  rw[ax] at U
  cases o with
  | none=>rfl
  | some y=>simp at U
 subst aO;have av:(Instr.findKey 9 (Oj s) (mapOf l).toList).run prog W=.ok none W:=by
  unfold Instr.findKey;rw[Sem.run_bind,run_underlying hu W];simp only[Result.andThen_ok,mapOf];rw[h1];rfl
 have eJ:∀ b,(Instr.checkKey b 10000 9 (Oj s)).run prog W=.ok () W:=by
  intro b;rw[Instr.checkKey,Sem.run_bind,run_underlying hu W];rfl
 have hg:(getObj m).run prog W=.ok (.map (mapOf l) l.length) W:=by simp[getObj,Sem.run,aR]
 unfold Instr.mapUpdate;rw[Sem.run_bind,run_underlying dZ W];simp only[Result.andThen_ok,Sem.run_bind,hg,eJ,av];rw[ajC];simp[setObj,Sem.run,aR,Qz]
def mkMap (T:TypeId)(W:Og):(Instr.makeMap T none).run prog W=.ok (.map (some W.heap.size)) (W.alloc (.map #[] 0)):=rfl
def Wq:Array Ot:=(sgs.flatMap fun e=>[Oj e.tx,NY e.kd,NY e.parts,NY e.str]).toArray
def ayn:Wq.size=56:=by decide +kernel
def aFm (k:Nat)(E:k<14)(W:Og):(Instr.index 276 (.agg Wq) (NY (k:Int))).run prog W=.ok (sgV (sgs.getD k ⟨Oh,0,0,0⟩)) W:=by
 have h:k=0\/k=1\/k=2\/k=3\/k=4\/k=5\/k=6\/k=7\/k=8\/k=9\/k=10\/k=11\/k=12\/k=13:=Oe
 rcases h with rfl|rfl|rfl|rfl|rfl|rfl|rfl|rfl|rfl|rfl|rfl|rfl|rfl|rfl <;> (show _=_;kernel_rfl)
def sgL (j:Nat):List (Ou × Ot):=(sgs.take j).map fun e=>(e.tx,sgV e)
def ak5 {j:Nat}(aS:j<=14):(sgL j).length=j:=by
 unfold sgL;rw[List.length_map,List.length_take];have:sgs.length=14:=rfl;omega
def aqn {j:Nat}(aS:j<14):sgL (j+1)=sgL j++[((sgs.getD j ⟨Oh,0,0,0⟩).tx,sgV (sgs.getD j ⟨Oh,0,0,0⟩))]:=by
 have h:j=0\/j=1\/j=2\/j=3\/j=4\/j=5\/j=6\/j=7\/j=8\/j=9\/j=10\/j=11\/j=12\/j=13:=Oe
 rcases h with rfl|rfl|rfl|rfl|rfl|rfl|rfl|rfl|rfl|rfl|rfl|rfl|rfl|rfl <;> rfl
def aub {j:Nat}(aS:j<14):(sgL j).find? (fun e=>decide ((sgs.getD j ⟨Oh,0,0,0⟩).tx=e.1))=none:=by
 have key:∀ j,j<14->((sgs.take j).map (·.tx)).find? (fun e=>decide ((sgs.getD j ⟨Oh,0,0,0⟩).tx=e))=none:=by decide +kernel
 have:=key j aS;unfold sgL;rw[List.find?_map] at this ⊢;simpa[Function.comp_def] using this
def aa3 (w:Og)(t:TypeId)(fr:Nat × Nat)(hg:w.heap[3]? = some (.cells Wq t fr)) :
  Oq 146 #[] w fun e w'=>e=OA (.map (some w.heap.size))/\w'.heap[w.heap.size]? = some (.map aj7 14)/\Oo w w':=by
 have gZ:Hid ((w.alloc (.map #[] 0)).heap[3]? = some (.cells Wq t fr)):=(Below.heap_alloc w _ 3 (lt_of_heap hg)).trans hg;have⟨cs,fG⟩:=xE Wq;have oS:∀ k:Nat,k<14->∀ W,(Instr.index 276 (.agg cs) (NY (k:Int))).run prog W=.ok (sgV (sgs.getD k ⟨Oh,0,0,0⟩)) W:=by rw[fG];exact aFm
 have da:cs.size=56:=by rw[fG];exact ayn
 rw[<-fG] at gZ;have sd:=hide oS;have sB:=hide da;have uw:=mkMap 229;clear hg oS fG da;go_enter func146,ntmps146
 go_wp2_with (refine wpList_load_row rfl 276 _ rfl 3 rfl t cs fr _ gZ.out underlying276 rfl (by rw[sB.out];kernel_rfl) ?_)
 go_loopw [6] (fun i wr=>∃ j:Nat,j<=14/\i=NY j/\wr.heap[w.heap.size]? = some (.map (mapOf (sgL j)) j)/\Oo w wr) (fun i _=>14 - (intOf i).toNat)
 case atStart=>exact⟨0,Nat.zero_le _,rfl,Oi _ _,PE⟩
 case round=>
  obtain⟨j,aS,rfl,aR,A⟩:=hrel;have hT:=hide aR;clear aR
  by_cases aM:j<14
  ·have eJ:=NZ sd j aM;have⟨x,dT⟩:=xH (sgs.getD j ⟨Oh,0,0,0⟩);have dk:(wr.alloc (.cells #[Oj x.tx,NY x.kd,NY x.parts,NY x.str] 275)).heap[w.heap.size]? = some (.map (mapOf (sgL j)) (sgL j).length):=by
    rw[ak5 Oe];exact(Below.heap_alloc _ _ _ (lt_of_heap hT.out)).trans hT.out
   have Jr:=Za 229 275 w.heap.size (sgL j) x.tx (sgV x) _ underlying229 dk (by rw[dT.out];exact aub aM)
   rw[<-dT.out] at eJ;simp only[sgV] at eJ Jr;clear dk;go_wp2
   go_roundw
   case rel=>
    refine⟨j+1,by omega,by go_num,?_,Xx (A.alloc A.size _) Pg⟩;rw[Xc (by simp;have:=A.size;omega),aqn aM,<-dT.out,ak5 Oe]
    rfl
   case measure=>simp[intOf];omega
  ·have ID:j=14:=Oe;subst ID;go_wp2;go_ret;exact⟨rfl,hT.out,A⟩
def afk (W:Og)(m:Nat)(a b:Obj):Qz (Qz W m a) m b=Qz W m b:=by simp[Qz]
def upd (T kI:TypeId)(m:Nat)(W:Og)(l:List (Ou × Ot))(s:Ou)(v:Ot)(dZ:prog.underlying T=some (.map 9 kI))(aR:m<W.heap.size)(ax:l.find? (fun e=>decide (s=e.1))=none) :
  (Instr.mapUpdate T (.map (some m)) (Oj s) v).run prog (Qz W m (.map (mapOf l) l.length))=.ok () (Qz W m (.map (mapOf (l++[(s,v)])) (l.length+1))):=by
 rw[Za T kI m l s v _ dZ (Xc aR) ax,afk]
def aHj (T kI:TypeId)(m:Nat)(W:Og)(s:Ou)(v:Ot)(dZ:prog.underlying T=some (.map 9 kI))(aR:W.heap[m]? = some (.map #[] 0)) :
  (Instr.mapUpdate T (.map (some m)) (Oj s) v).run prog W=.ok () (Qz W m (.map (mapOf [(s,v)]) 1)):=
 Za T kI m [] s v W dZ aR rfl
def aaw {X W:Og}{m:Nat}{l:List (Ou × Ot)}(ak:X=Qz W m (.map (mapOf l) l.length))(aR:m<W.heap.size)(s:Ou)(b k:Nat)(ax:l.find? (fun e=>decide (s=e.1))=none:=by rfl) :
  ∃ Y,Y=Qz W m (.map (mapOf (l++[(s,.func (.func k) #[Oy b 0] #[])])) (l++[(s,Value.func (.func k) #[Oy b 0] #[])]).length)/\(Instr.mapUpdate 231 (.map (some m)) (Oj s) (.func (.func k) #[Oy b 0] #[])).run prog X=.ok () Y:=⟨_,rfl,by rw[ak,upd 231 281 m W l s _ underlying231 aR ax,List.length_append];rfl⟩
def au5 {W:Og}{m:Nat}(aR:W.heap[m]? = some (.map #[] 0))(s:Ou)(b k:Nat) :
  ∃ Y,Y=Qz W m (.map (mapOf [(s,.func (.func k) #[Oy b 0] #[])]) [(s,Value.func (.func k) #[Oy b 0] #[])].length)/\(Instr.mapUpdate 231 (.map (some m)) (Oj s) (.func (.func k) #[Oy b 0] #[])).run prog W=.ok () Y:=⟨_,rfl,aHj 231 281 m W s _ underlying231 aR⟩
def aFo (w:Og)(o:Obj):((w.alloc o).alloc (.map #[] 0)).heap[w.heap.size+1]? = some (.map #[] 0):=by
 have:=Oi (w.alloc o) (.map #[] 0);simpa using this
def aFp (W:Og)(k:Nat)(h:W.heap.size=k):(W.alloc (.map #[] 0)).heap[k]? = some (.map #[] 0):=by rw[<-h];exact Oi _ _
def ahv {w w1 X Y Z V:Og}{l:List Tk}{tb cap R mS:Nat}{ck:Array Ot}(aL:Ends l)(h0:0<l.length)(hl:l.length<=3001)(aZ:w.heap[tb]? = some (OM ck 144))(hcap:l.length<=cap/\cap<=maxLen/\ck.size=cap * 4/\ck.toList.take (l.length * 4)=QT l)
  (hh:∃ t fr,w.heap[4]? = some (.cells VK t fr)) (g5:w1.heap[mS]? = some (.map aj7 14)) (L4:mS=w.heap.size) (A:Oo w w1) (dj:R=w1.heap.size)
  (ak:X=Qz ((w1.alloc (.cells #[.slice (some (N9 tb 0)) l.length cap,NY 0,NY 0,.map (some mS),.map none,.map none] 233)).alloc (.map #[] 0)) (R+1) (.map (afY R) 12))
  (bJ:Y=X.setCell (N9 R 4) (.map (some (R+1)))) (hX:Z=Qz (Y.alloc (.map #[] 0)) (R+2) (.map (aj8 R) 3)) (fF:V=Z.setCell (N9 R 5) (.map (some (R+2)))) :
  PI ⟨R,l,tb,cap,mS,R+1,R+2,R+3⟩ V 0 0/\Oo w V:=by
 have da:=A.size;have JV:=lt_of_heap aZ;obtain⟨t4,HJ,hh⟩:=hh;have JT:=lt_of_heap hh;have Na:=lt_of_heap g5;have Kq:X.heap.size=R+2:=by rw[ak,Vy,dj];simp
 have Kr:Y.heap.size=R+2:=by rw[bJ,World.size_setCell,Kq]
 have Ks:Z.heap.size=R+3:=by rw[hX,Vy];simp[Kr]
 have NH:V.heap.size=R+3:=by rw[fF,World.size_setCell,Ks]
 have ia:∀ b,b<R->X.heap[b]? = w1.heap[b]?:=fun b A=>by
  rw[ak,Qp Oe,Below.heap_alloc _ _ b QY,Below.heap_alloc _ _ b Oe]
 have uR:X.heap[R]? = some (OM #[.slice (some (N9 tb 0)) l.length cap,NY 0,NY 0,.map (some mS),.map none,.map none] 233):=by
  rw[ak,Qp Oe,Below.heap_alloc _ _ R QY,dj];exact Oi _ _
 have io:X.heap[R+1]? = some (.map (afY R) 12):=by rw[ak,Xc QY]
 have vl:∀ b,b<R->V.heap[b]? = w1.heap[b]?:=fun b A=>by
  rw[fF,Below.heap_setCell Z (N9 R 5) _ b QY,hX,Qp Oe,Below.heap_alloc _ _ b Oe,bJ,Below.heap_setCell X (N9 R 4) _ b QY];exact ia b A
 have xh:Z.heap[R]? = some (OM #[.slice (some (N9 tb 0)) l.length cap,NY 0,NY 0,.map (some mS),.map (some (R+1)),.map none] 233):=by
  rw[hX,Qp Oe,Below.heap_alloc _ _ R Oe,bJ,heap_set uR];rfl
 have KC:V.heap[R]? = some (OM #[.slice (some (N9 tb 0)) l.length cap,NY 0,NY 0,.map (some mS),.map (some (R+1)),.map (some (R+2))] 233):=by
  rw[fF,heap_set xh];rfl
 have KD:V.heap[R+1]? = some (.map (afY R) 12):=by
  rw[fF,Below.heap_setCell Z (N9 R 5) _ (R+1) OW,hX,Qp Oe,Below.heap_alloc _ _ (R+1) Oe,bJ,Below.heap_setCell X (N9 R 4) _ (R+1) OW];exact io
 have KE:V.heap[R+2]? = some (.map (aj8 R) 3):=by
  rw[fF,Below.heap_setCell Z (N9 R 5) _ (R+2) OW,hX,Xc QY]
 have lw:∀ b,b<w.heap.size->V.heap[b]? = w.heap[b]?:=fun b h=>(vl b Oe).trans (A.block b h);refine⟨⟨⟨aL,⟨ck,(lw tb JV).trans aZ,hcap⟩,?_,(vl mS Oe).trans g5,?_,KD,?_,KE,?_,hl,⟨t4,HJ,(lw 4 JT).trans hh⟩,?_,?_,?_⟩,KC,h0,by decide⟩,?_⟩
 ·show tb≠R;omega
 ·show mS≠R;omega
 ·show R+1≠R;omega
 ·show R+2≠R;omega
 ·show 4≠R;omega
 ·show tb<R+3/\mS<R+3/\R+1<R+3/\R+2<R+3/\4<R+3/\R<R+3;omega
 ·show R+3<=V.heap.size;omega
 ·have Hk:Oo w X:=by rw[ak];exact Xx ((A.alloc da _).alloc QY _) Oe
  have C0:Oo w Y:=by rw[bJ];exact Hk.setCell (p:=(N9 R 4)) (by show w.heap.size<=R;omega) _
  have Hl:Oo w Z:=by rw[hX];exact Xx (C0.alloc C0.size _) Oe
  rw[fF];exact Hl.setCell (p:=(N9 R 5)) (by show w.heap.size<=R;omega) _
def adg (w:Og)(l:List Tk)(tb cap:Nat)(ck:Array Ot)(aL:Ends l)(h0:0<l.length)(hl:l.length<=3001)(aZ:w.heap[tb]? = some (OM ck 144))(hcap:l.length<=cap/\cap<=maxLen/\ck.size=cap * 4/\ck.toList.take (l.length * 4)=QT l)
  (hh:∃ t fr,w.heap[4]? = some (.cells VK t fr)) (s5:∃ t fr,w.heap[3]? = some (.cells Wq t fr)) :
  Oq 70 #[.slice (some (N9 tb 0)) l.length cap] w fun e w'=>∃ c:Ctx,e=OA (O1 c)/\c.l=l/\w.heap.size<=c.R/\PI c w' 0 0/\Oo w w':=by
 obtain⟨t3,zY,s5⟩:=s5;have aj:=(aa3 w t3 zY s5);have Cj:=fun(w1 X Y Z V:Og) (R:Nat)=>ahv (w:=w) (w1:=w1) (X:=X) (Y:=Y) (Z:=Z) (V:=V) (R:=R) (mS:=w.heap.size) aL h0 hl aZ hcap hh;have F8:=hide Cj;have uw:=mkMap 231;clear s5 Cj h0 hl aZ hcap hh;go_enter func70,ntmps70;go_wp2_with fail;refine cm aj ?_;rintro e w1 ⟨rfl,n2,bZ⟩;have jH:=hide n2;clear n2;have By:=aFo w1 (.cells #[.slice (some (N9 tb 0)) l.length cap,NY 0,NY 0,.map (some w.heap.size),.map none,.map none] 233);have ms:=lt_of_heap By
 have⟨KP,DB,gp⟩:=au5 By anQ w1.heap.size 147;have⟨KS,DE,gb⟩:=aaw DB ms avE w1.heap.size 147;have⟨KT,DF,ka⟩:=aaw DE ms aib w1.heap.size 147;have⟨KU,DG,uO⟩:=aaw DF ms P7 w1.heap.size 148;have⟨KW,DH,xe⟩:=aaw DG ms TG w1.heap.size 149;have⟨KX,DI,Kw⟩:=aaw DH ms PY w1.heap.size 150;have⟨KY,DJ,Kx⟩:=aaw DI ms tIf w1.heap.size 151;have⟨KZ,DK,Ky⟩:=aaw DJ ms aic w1.heap.size 152;have⟨K0,DL,Kz⟩:=aaw DK ms anR w1.heap.size 152
 have⟨KQ,DC,NK⟩:=aaw DL ms aed w1.heap.size 153;have⟨KR,DD,NL⟩:=aaw DC ms aie w1.heap.size 153;have⟨tU,x4,NM⟩:=aaw DD ms abu w1.heap.size 154;have uR:tU.heap[w1.heap.size]? = some (.cells #[.slice (some (N9 tb 0)) l.length cap,NY 0,NY 0,.map (some w.heap.size),.map none,.map none] 233):=by rw[x4,Qp Oe,Below.heap_alloc _ _ _ OW];exact Oi _ _
 have EX:tU.heap.size=w1.heap.size+2:=by rw[x4,Vy];simp
 have E3:(tU.setCell (N9 w1.heap.size 4) (.map (some (w1.heap.size+1)))).heap[w1.heap.size]? = some (.cells #[.slice (some (N9 tb 0)) l.length cap,NY 0,NY 0,.map (some w.heap.size),.map (some (w1.heap.size+1)),.map none] 233):=by rw[heap_set uR];rfl
 have dl:=aFp (tU.setCell (N9 w1.heap.size 4) (.map (some (w1.heap.size+1)))) (w1.heap.size+2) (by rw[World.size_setCell,EX]);have uK:=lt_of_heap dl;have⟨K1,DM,v1⟩:=au5 dl RP w1.heap.size 155;have⟨K2,DN,v2⟩:=aaw DM uK TG w1.heap.size 156;have⟨xJ,Ai,v3⟩:=aaw DN uK P7 w1.heap.size 157
 have xh:xJ.heap[w1.heap.size]? = some (.cells #[.slice (some (N9 tb 0)) l.length cap,NY 0,NY 0,.map (some w.heap.size),.map (some (w1.heap.size+1)),.map none] 233):=by rw[Ai,Qp Oe,Below.heap_alloc _ _ _ (by rw[World.size_setCell,EX];omega)];exact E3
 have a4:tU.cell? (N9 w1.heap.size 4)=some (.map none):=by rw[cell_of uR];rfl
 have K3:=RN uR 4;have a5:xJ.cell? (N9 w1.heap.size 5)=some (.map none):=by rw[cell_of xh];rfl
 have K5:=RN xh 5;have Fb:=hide (F8.out w1 tU _ xJ (xJ.setCell (N9 w1.heap.size 5) (.map (some (w1.heap.size+2)))) w1.heap.size jH.out (by first|rfl|trivial) bZ rfl (by rw[x4];rfl) rfl (by rw[Ai];rfl) rfl)
 have qb:Hid (w.heap.size<=w1.heap.size):=bZ.size;clear DB DE DF DG DH DI DJ DK DL DC DD x4 DM DN Ai uR E3 xh By dl ms uK;go_wp2;go_ret;have⟨cO,cP⟩:=NZ Fb;exact⟨_,rfl,rfl,qb.out,cO,cP⟩
def ahm {c:Ctx}{F:Sv}(ah:FC c F)(hN:∃ k,FNx c.l k F)(D:FOk F)(w:Og)(r:PR Tr)(ab:UJ c.l F=r)(aO:r≠.out)(h:PI c w 0 0):Oq 71 #[O1 c] w (P9 c w 0 (NV w.heap.size) r):=by
 have jx:=Rh c.R 160;have dB:=h.base.ends;have dX:=hide h.base.len;have z:=N8 (∀{G}(h:G:=by
 have eZ:=(Ap.refl c.R w.heap.size w);have bW:=hide h.rlt;have nJ:=hide hN;unfold UJ at ab;have a':=hide ab;have dp:=hide aO;clear ab aO hN;go_enter func71,ntmps71;go_wp2_with fail
 go_loopw [3] (fun v wr=>∃ k aX j,(Qi c.l F k aX j).bind (fun ap i=>PR.ok (U0 (.mk 1 Oh 0 ap)) i)=r/\PI c wr j 0/\Ap c.R w.heap.size w wr/\KV w.heap.size wr aX v/\aX.length<=j/\∀ t ∈ aX,t.kd=15->∃ v r,t.kids=v::r) (fun _ wr=>c.l.length - nxt c wr)
 case atStart=>exact⟨F.fuel,[],0,a'.out,h,eZ,KV.nil _ _,Nat.zero_le _,fun _ aQ=>absurd aQ OW⟩
 case round=>
  obtain⟨k,aX,j,ag,ba,gx,n0,gh,nY⟩:=hrel;have B3:=hide nY;clear nY h
  cases k with
  | zero=>exact absurd ag.symm dp.out
  | succ k=>
   have dA:=NZ dX;have ni:=ba.lt;have bq:=ba;have oA:=ba;have qb:=hide gh;have fO:=abe (OX c.l j)
   by_cases ac:(OX c.l j).kd=6
   ·have bj:Hid (PR.ok (U0 (.mk 1 Oh 0 aX)) j=r):=by
     unfold Qi at ag;rw[if_pos ac,bind_ok] at ag;exact ag
    have Hj:((OX c.l j).kd != 6)=false:=by rw[ac];rfl
    have aj:=(Rt c wr j 0 ba);unfold tkV at aj;obtain⟨va,du,rfl⟩:=n0.shape;clear ag gh ac;have z:=N8 (∀{G}(h:G:=by
    have jF:=(KV.later n0 (Ap.of bn) bW.out);have aj:=(PG 1 Oh (.slice va aX.length du) aq ⟨_,_,_,rfl⟩);go_wp2_with fail;refine cm aj ?_;rintro e e8 ⟨rfl,rfl⟩;have⟨cO,cP,db⟩:=aaF dg jn jF 1 Oh _ rfl;have aj:=(X7 w.heap.size (.mk 1 Oh 0 aX) (N7 aq.heap.size) _ cO (fun bP bY iT jd=>NZ B3 bP (by have eK:aX=bP::bY:=iT;rw[eK];simp) jd))
    go_wp2_with fail;refine cm aj ?_;rintro e ce ⟨rfl,bu,f7⟩;have gr:=(cP.ap f7 iw.out);have mQ:=(db.trans (Ap.of f7));go_wp2;go_ret;exact Tz bj.out.symm bu.nv gr mQ),G);exact aqe
   ·have bj:Hid ((Pn c.l F.st 0 j).bind (fun t a8=>(Qi c.l F k (aX++[t]) a8).bind fun ap i=>PR.ok (U0 (.mk 1 Oh 0 ap)) i)=r):=by
     unfold Qi at ag;rw[if_neg ac] at ag;rw[<-ag]
     cases Pn c.l F.st 0 j <;> rfl
    have Hj:((OX c.l j).kd != 6)=true:=bne_iff_ne.2 ac;have aj:=(Rt c wr j 0 ba);unfold tkV at aj;clear ag gh ac
    cases aa:Pn c.l F.st 0 j with
    | out=>
     exact axX
    | bad er p=>
     have bV:=hide aa;rw[aa] at bj;simp only[O9] at bj;clear aa;have z:=N8 (∀{G}(h:G:=by
     have aj:=(aaG ah aq 0 j dg (by rw[bV.out];nofun))
     exact aD0),G);exact aqe
    | ok t cr=>
     have bV:=hide aa;rw[aa] at bj;simp only[bind_ok] at bj;clear aa;have z:=N8 (∀{G}(h:G:=by
     have jF:=(KV.later n0 (Ap.of bn) bW.out);have aj:=(aaG ah aq 0 j dg (by rw[bV.out];nofun))
     have z:=N8 (∀{G}(h:G:=by
     have kr:j<cr:=by
      have⟨j9,cL⟩:=NZ nJ;exact((QW (l:=c.l) (d:=0) (cL.st (0+1) j ni)).2 t cr bV.out).1
     have z:=N8 (∀{G}(h:G:=by
     go_roundw
     case rel=>exact⟨k,aX++[t],cr,bj.out,gr,mQ,mf,by simp;omega,fun u aQ=>by
       rcases List.mem_append.1 aQ with aQ|aQ
       ·exact NZ B3 u aQ
       ·rw[List.mem_singleton] at aQ;subst aQ;exact D _ _ _ _ (ahw bV.out)⟩
     case measure=>rw[UW gr,UW oA];omega),G);exact aEm),G);exact aEz),G);exact aqe),G);exact amN
def catch_idle (p q:Addr)(w:Og) :
  CallsD prog 69 #[.pointer (some p),.pointer (some q)] .returning w fun e fV w'=>e=OA (.tuple #[])/\fV=.returning/\w'=w:=by
 refine callsD_of_wpS func69 rfl fun c₀ cs aQ=>?_;apply wpS_seq;apply wpS_region;simp[wpOpsS,go_sem,recoverD,aQ,ntmps69,Exit.thenS];apply wpS_seq;apply wpS_seq;apply wpS_region;simp[wpOpsS,go_sem,Exit.thenS];refine wpS_cond (t:=true) (by simp[Act.eval,Array.replicate]) ?_;simp only[if_true];refine wpS_of_wp ?_;refine wp_ret ?_;cases c₀
 simp_all [bodyPostS,results,results69,Exit.thenS]
def ahx (p q:Nat)(er:Int)(pl:Nat)(w:Og)(a b:Ot)(al:w.cell? (N9 p 0)=some a)(MH:∀ o,w.frozen? (N9 p o)=false)(ag:w.cell? (N9 q 0)=some b)(MK:∀ o,w.frozen? (N9 q o)=false)(MN:¬ q=p)(eM:p<w.heap.size)(ds:q<w.heap.size) :
  CallsD prog 69 #[Oy p 0,Oy q 0] (.panicking (ZU er pl)) w fun e fV w'=>
   e=OA (.tuple #[])/\fV=.panicking [{ v:=.iface 148 (.agg #[NY er,NY (pl:Int)]),recovered:=true }]/\w'=((((w.setCell (N9 p 0) QS).setCell (N9 q 0) (.iface 150 (Oy (w.heap.size+1) 0))).alloc (.cells #[NY er,NY (pl:Int)] 148)).alloc (.cells #[NY er,NY (pl:Int)] 152)).drew:=by
 refine callsD_of_wpS func69 rfl fun c₀ cs aQ=>?_;unfold ZU at aQ;have ta:∀ W:Og,(Instr.typeAssert (.iface 148 (.agg #[NY er,NY (pl:Int)])) 20 148 true).run prog W=.ok (.tuple #[.agg #[NY er,NY (pl:Int)],Om true]) W:=fun W=>by kernel_rfl
 rw[ntmps69];rw[show (#[Oy p 0,Oy q 0]:Array Ot)++Array.replicate (23 - (#[Oy p 0,Oy q 0]:Array Ot).size) undef=#[Oy p 0,Oy q 0,undef,undef,undef,undef,undef,undef,undef,undef,undef,undef,undef,undef,undef,undef,undef,undef,undef,undef,undef,undef,undef] from by kernel_rfl];apply wpS_seq;apply wpS_region;simp[wpOpsS,go_sem,recoverD,aQ,Exit.thenS];apply wpS_seq;apply wpS_seq;apply wpS_region;simp[wpOpsS,go_sem,Exit.thenS];refine wpS_cond (t:=false) (by simp[Act.eval]) ?_;simp only[Bool.false_eq_true,if_false]
 refine wpS_of_wp (wp_skip ?_);simp only[Exit.thenS];apply wpS_seq;apply wpS_region;simp[wpOpsS,go_sem,Exit.thenS,ta];apply wpS_seq;refine wpS_of_wp ?_;go_wp2_with fail;simp only[Exit.thenS];refine wpS_of_wp ?_
 go_region
 simp[bodyPostS,results,results69]
def acB (r:PR Tr)(w:Og)(e:Ending)(w':Og):Prop:=
 match r with
 | .ok t _=>∃ p,e=OA (.tuple #[N7 p,.nilIface])/\PO (From w.heap.size) w' t p/\Oo w w'
 | .bad er pl=>∃ b,e=OA (.tuple #[.pointer none,.iface 150 (Oy b 0)])/\w'.heap[b]? = some (OM #[NY er,NY (pl:Int)] 152)/\w.heap.size<=b/\Oo w w'
 | .out=>True
abbrev RW (w:Og):Og:=(w.alloc (.cells #[.pointer none] 22)).alloc (.cells #[.nilIface] 31)
def aua (w:Og)(l:List Tk)(tb cap:Nat)(t:Tr)(j:Nat)
  (dP:Oq 70 #[.slice (some (N9 tb 0)) l.length cap] (RW w) fun e w'=>∃ c:Ctx,e=OA (O1 c)/\c.l=l/\(RW w).heap.size<=c.R/\PI c w' 0 0/\Below (RW w).heap.size (RW w) w')
  (HP:∀ (c:Ctx) (W:Og),c.l=l->PI c W 0 0->Oq 71 #[O1 c] W (P9 c W 0 (NV W.heap.size) (.ok t j))) :
  Oq 34 #[.slice (some (N9 tb 0)) l.length cap] w (acB (.ok t j) w):=by
 have z:=N8 (∀{G}(h:G:=by
 obtain⟨⟨v,rfl,p,rfl,ax⟩,ba,ay⟩:=al;have z:=N8 (∀{G}(h:G:=by
 clear c0 c1 HP Eu hsz2 dj;go_wp2_with fail;refine leaves_cons (f:=69) (args:=#[Oy w.heap.size 0,Oy (w.heap.size+1) 0]) OW (by simp[go_sem]) ?_;refine(catch_idle (N9 w.heap.size 0) (N9 (w.heap.size+1) 0) _).mono ?_;rintro e fV KJ ⟨rfl,rfl,rfl⟩
 show Leaves _ _ _ _ [] .returning _
 refine⟨.tuple #[N7 p,Qd],by simp[results,results34,go_sem,gH,d8],p,rfl,?_,?_⟩
 ·refine PO.mono (J:=From w.heap.size) (fun b A _=>?_) _ _ (PO.later (I:=fun b=>w2.heap.size<=b) (fun b A _=>?_) _ _ ax)
  ·have U:=NZ gY;have av:w2.heap.size<=b:=A
   show w.heap.size<=b
   omega
  ·have U:=NZ gY;have av:w2.heap.size<=b:=A;rw[Below.heap_setCell _ (N9 (w.heap.size+1) 0) _ b (by show b≠w.heap.size+1;omega),Below.heap_setCell _ (N9 w.heap.size 0) _ b (by show b≠w.heap.size;omega)]
 ·exact(lJ.setCell (p:=(N9 w.heap.size 0)) Pg _).setCell (p:=(N9 (w.heap.size+1) 0)) (Nat.le_succ _) _),G);exact aEp),G);exact aEw
def aql (w:Og)(l:List Tk)(tb cap:Nat)(er:Int)(pl:Nat)
  (dP:Oq 70 #[.slice (some (N9 tb 0)) l.length cap] (RW w) fun e w'=>∃ c:Ctx,e=OA (O1 c)/\c.l=l/\(RW w).heap.size<=c.R/\PI c w' 0 0/\Below (RW w).heap.size (RW w) w')
  (HP:∀ (c:Ctx) (W:Og),c.l=l->PI c W 0 0->Oq 71 #[O1 c] W (P9 c W 0 (NV W.heap.size) (.bad er pl))) :
  Oq 34 #[.slice (some (N9 tb 0)) l.length cap] w (acB (.bad er pl) w):=by
 have z:=N8 (∀{G}(h:G:=by
 obtain⟨rfl,ay⟩:=al;have z:=N8 (∀{G}(h:G:=by
 have HZ:w.heap.size+1<aq.heap.size:=lt_of_heap c1;have E5:=hide c0;have E6:=hide c1;clear c0 c1 HP Eu hsz2 dj;refine leaves_cons (f:=69) (args:=#[Oy w.heap.size 0,Oy (w.heap.size+1) 0]) OW (by simp[go_sem]) ?_;refine(ahx w.heap.size (w.heap.size+1) er pl aq _ _ gH Hs d8 Hv Oe Oe HZ).mono ?_;rintro e fV KJ ⟨rfl,rfl,rfl⟩
 show Leaves _ _ _ _ [] .returning _
 have cz:((((aq.setCell (N9 w.heap.size 0) QS).setCell (N9 (w.heap.size+1) 0) (.iface 150 (Oy (aq.heap.size+1) 0))).alloc (.cells #[NY er,NY (pl:Int)] 148)).alloc (.cells #[NY er,NY (pl:Int)] 152)).drew.heap[w.heap.size]? = some (OM #[QS] 22):=by
  show ((((aq.setCell (N9 w.heap.size 0) QS).setCell (N9 (w.heap.size+1) 0) (.iface 150 (Oy (aq.heap.size+1) 0))).alloc (.cells #[NY er,NY (pl:Int)] 148)).alloc (.cells #[NY er,NY (pl:Int)] 152)).heap[w.heap.size]? = _
  rw[Below.heap_alloc _ _ _ QY,Below.heap_alloc _ _ _ QY,Below.heap_setCell _ (N9 (w.heap.size+1) 0) _ _ (by show w.heap.size≠w.heap.size+1;omega),heap_set E5.out]
  rfl
 have bK:((((aq.setCell (N9 w.heap.size 0) QS).setCell (N9 (w.heap.size+1) 0) (.iface 150 (Oy (aq.heap.size+1) 0))).alloc (.cells #[NY er,NY (pl:Int)] 148)).alloc (.cells #[NY er,NY (pl:Int)] 152)).drew.heap[w.heap.size+1]? = some (OM #[.iface 150 (Oy (aq.heap.size+1) 0)] 31):=by
  show ((((aq.setCell (N9 w.heap.size 0) QS).setCell (N9 (w.heap.size+1) 0) (.iface 150 (Oy (aq.heap.size+1) 0))).alloc (.cells #[NY er,NY (pl:Int)] 148)).alloc (.cells #[NY er,NY (pl:Int)] 152)).heap[w.heap.size+1]? = _
  have ab:(aq.setCell (N9 w.heap.size 0) QS).heap[w.heap.size+1]? = some (OM #[Qd] 31):=by
   rw[Below.heap_setCell _ (N9 w.heap.size 0) _ _ (by show w.heap.size+1≠w.heap.size;omega)];exact NZ E6
  rw[Below.heap_alloc _ _ _ QY,Below.heap_alloc _ _ _ QY,heap_set ab];rfl
 have aI:((((aq.setCell (N9 w.heap.size 0) QS).setCell (N9 (w.heap.size+1) 0) (.iface 150 (Oy (aq.heap.size+1) 0))).alloc (.cells #[NY er,NY (pl:Int)] 148)).alloc (.cells #[NY er,NY (pl:Int)] 152)).drew.cell? (N9 w.heap.size 0)=some QS:=by rw[cell_of cz];rfl
 have aw:((((aq.setCell (N9 w.heap.size 0) QS).setCell (N9 (w.heap.size+1) 0) (.iface 150 (Oy (aq.heap.size+1) 0))).alloc (.cells #[NY er,NY (pl:Int)] 148)).alloc (.cells #[NY er,NY (pl:Int)] 152)).drew.cell? (N9 (w.heap.size+1) 0)=some (.iface 150 (Oy (aq.heap.size+1) 0)):=by rw[cell_of bK];rfl
 have⟨KO,Ag⟩:=xE (((((aq.setCell (N9 w.heap.size 0) QS).setCell (N9 (w.heap.size+1) 0) (.iface 150 (Oy (aq.heap.size+1) 0))).alloc (.cells #[NY er,NY (pl:Int)] 148)).alloc (.cells #[NY er,NY (pl:Int)] 152)).drew);rw[<-Ag] at aI aw;rw[<-Ag];refine⟨.tuple #[QS,.iface 150 (Oy (aq.heap.size+1) 0)],by simp[results,results34,go_sem,aI,aw],aq.heap.size+1,rfl,?_,by omega,?_⟩
 all_goals rw[Ag]
 ·have:=Oi (((aq.setCell (N9 w.heap.size 0) QS).setCell (N9 (w.heap.size+1) 0) (.iface 150 (Oy (aq.heap.size+1) 0))).alloc (.cells #[NY er,NY (pl:Int)] 148)) (.cells #[NY er,NY (pl:Int)] 152);rw[show ((((aq.setCell (N9 w.heap.size 0) QS).setCell (N9 (w.heap.size+1) 0) (.iface 150 (Oy (aq.heap.size+1) 0))).alloc (.cells #[NY er,NY (pl:Int)] 148)).heap.size)=aq.heap.size+1 by simp] at this;exact this
 ·have ab:=lJ.size;exact(((((lJ.setCell (p:=(N9 w.heap.size 0)) Pg _).setCell (p:=(N9 (w.heap.size+1) 0)) (Nat.le_succ _) _).alloc (by simpa using ab) _).alloc QY _).drew)),G);exact aEp),G);exact aEw
def VU {c:Ctx}{F:Sv}(w:Og)(d i:Nat)(aO:Ry c.l F i≠.out)(h:PI c w i d):Oq 226 #[O1 c] w (P9 c w d (NV w.heap.size) (Ry c.l F i)):=
 ajE (F:=F) w d i _ rfl aO h
section
variable {c:Ctx} {F:Sv} (ah:FC c F) (hN:∃ k,FNx c.l k F) (D:FOk F)
include c F ah hN D
def aqD:Does c 148 NV (XB c.l F):=by
 intro w d i r ab aO h;have eZ:=(Ap.refl c.R w.heap.size w);have bW:=hide h.rlt;unfold XB QV at ab;have a':=hide ab;have dp:=hide aO;clear ab aO;go_enter func148,ntmps148
 cases aa:O6 c.l P7 i with
 | out=>
  exact Rl
 | bad er p=>
  have aj:=(O5 c P7 w i d h Ol);exact aa1
 | ok cy bR=>
  have aj:=(O5 c P7 w i d h Ol);have z:=N8 (∀{G}(h:G:=by
  have z:=N8 (∀{G}(h:G:=by
  have bN:=ba;clear h
  cases aa:nameP c.l bR with
  | out=>
   exact Rl
  | bad er p=>
   have aj:=(name_any c w1 bR d bN);exact ap7
  | ok dO cr=>
   have aj:=(name_any c w1 bR d bN);have z:=N8 (∀{G}(h:G:=by
   intro e w2 al;obtain⟨⟨v2,rfl,rfl⟩,ba,ay⟩:=al;have eg:=(eq.next ay);have bq:=ba
   cases aa:Ry c.l F cr with
   | out=>
    exact Rl
   | bad er p=>
    have aj:=(VU (F:=F) w2 d cr (by rw[aa];nofun) bq)
    exact ap6
   | ok jl h9=>
    have aj:=(VU (F:=F) w2 d cr (by rw[aa];nofun) bq)
    have z:=N8 (∀{G}(h:G:=by
    have z:=N8 (∀{G}(h:G:=by
    cases aa:PV c.l F d h9 with
    | out=>
     exact Rl
    | bad er p=>
     exact aDR
    | ok tb EN=>
     have dT:=(WE D aa);have aj:=(QL ah hN aq d h9 _ rfl (by rw[aa];nofun) dg)
     have z:=N8 (∀{G}(h:G:=by
     intro e fs al;obtain⟨⟨vb,rfl,ax⟩,ba,ay⟩:=al;have rY:=(jn.next ay);have z:=N8 (∀{G}(h:G:=by
     have fR:=(ba.ap f7 dg.base.size);have z:=N8 (∀{G}(h:G:=by
     have aj:=(PG 5 dO (.slice (some (N9 aD.heap.size 0)) 2 2) (aD.alloc (.cells #[N7 cJ,N7 bc] 22)) ⟨_,_,_,rfl⟩);have z:=N8 (∀{G}(h:G:=by
     have⟨cO,cP,db⟩:=made fR e3 (Oz.pair (I:=From w.heap.size) nI sf) (by simp[maxLen]) #[N7 cJ,N7 bc] rfl 2 rfl 5 dO (aD.heap.size+1) rfl;exact Tz a'.out.symm cO.nv cP db),G);exact aat),G);exact aEE),G);exact aEx),G);exact XM),G);exact aEA),G);exact XM),G);exact XM),G);exact aho),G);exact XM
def ajG:Does c 157 NV (Ui c.l F):=by
 intro w d i r ab aO h;have eZ:=(Ap.refl c.R w.heap.size w);have bW:=hide h.rlt;unfold Ui QV at ab;have a':=hide ab;have dp:=hide aO;clear ab aO;go_enter func157,ntmps157
 cases aa:O6 c.l P7 i with
 | out=>
  exact Rl
 | bad er p=>
  have aj:=(O5 c P7 w i d h Ol);exact aa1
 | ok cy bR=>
  have aj:=(O5 c P7 w i d h Ol);have z:=N8 (∀{G}(h:G:=by
  have z:=N8 (∀{G}(h:G:=by
  have bN:=ba;clear h;have aj:=(Zb c w1 bR d bN)
  cases A:isName c.l bR with
  | true=>
   rw[A] at aj a';rw[if_pos rfl] at a';clear A;go_wp2_with fail;refine cm aj ?_;rintro e fA ⟨rfl,jN⟩;have lH:=(eq.next (Ap.of jN));have eQ:=(bN.later jN)
   cases aa:nameP c.l bR with
   | out=>
    exact Rl
   | bad er p=>
    have aj:=(name_any c fA bR d eQ);exact axV
   | ok dO cr=>
    have aj:=(name_any c fA bR d eQ);have z:=N8 (∀{G}(h:G:=by
    intro e w2 al;obtain⟨⟨v2,rfl,rfl⟩,ba,ay⟩:=al;have eg:=(lH.next ay);have bq:=ba
    cases aa:Ry c.l F cr with
    | out=>
     exact Rl
    | bad er p=>
     have aj:=(VU (F:=F) w2 d cr (by rw[aa];nofun) bq)
     exact ap6
    | ok jl h9=>
     have aj:=(VU (F:=F) w2 d cr (by rw[aa];nofun) bq)
     have z:=N8 (∀{G}(h:G:=by
     have z:=N8 (∀{G}(h:G:=by
     cases aa:PV c.l F d h9 with
     | out=>
      exact Rl
     | bad er p=>
      exact aDR
     | ok tb EN=>
      have dT:=(WE D aa);have aj:=(QL ah hN aq d h9 _ rfl (by rw[aa];nofun) dg)
      have z:=N8 (∀{G}(h:G:=by
      intro e fs al;obtain⟨⟨vb,rfl,ax⟩,ba,ay⟩:=al;have rY:=(jn.next ay);have vt:=ba;have F5:=hide bW.out;have z:=N8 (∀{G}(h:G:=by
      have fR:=(vt.ap f7 dg.base.size);have z:=N8 (∀{G}(h:G:=by
      have aj:=(PG 37 dO (.slice (some (N9 aD.heap.size 0)) 2 2) (aD.alloc (.cells #[N7 cJ,N7 bc] 22)) ⟨_,_,_,rfl⟩);have z:=N8 (∀{G}(h:G:=by
      have⟨cO,cP,db⟩:=made fR e3 (Oz.pair (I:=From w.heap.size) nI sf) (by simp[maxLen]) #[N7 cJ,N7 bc] rfl 2 rfl 37 dO (aD.heap.size+1) rfl;exact Tz a'.out.symm cO.nv cP db),G);exact aat),G);exact aEE),G);exact aEx),G);exact XM),G);exact aEA),G);exact XM),G);exact XM
  | false=>
   rw[A] at aj a';rw[if_neg Ol] at a';clear A;go_wp2_with fail;refine cm aj ?_;rintro e fA ⟨rfl,jN⟩;have lH:=(eq.next (Ap.of jN));have eQ:=(bN.later jN)
   cases aa:Ry c.l F bR with
   | out=>
    exact Rl
   | bad er p=>
    have aj:=(VU (F:=F) fA d bR (by rw[aa];nofun) eQ)
    exact axV
   | ok dO cr=>
    have aj:=(VU (F:=F) fA d bR (by rw[aa];nofun) eQ)
    have z:=N8 (∀{G}(h:G:=by
    intro e w2 al;obtain⟨⟨v2,rfl,cp,rfl,jQ⟩,ba,ay⟩:=al;have eg:=(lH.next ay);have bq:=ba;have j1:=(Sr jQ lH.size);have nI:=(PO.mono (J:=fun b=>w.heap.size<=b/\b<w2.heap.size) (fun _ A hl=>⟨A,hl⟩) _ _ j1)
    cases aa:PV c.l F d cr with
    | out=>
     exact Rl
    | bad er p=>
     have aj:=(QL ah hN w2 d cr _ rfl (by rw[aa];nofun) bq)
     exact ap6
    | ok tb EN=>
     have dT:=(WE D aa);have aj:=(QL ah hN w2 d cr _ rfl (by rw[aa];nofun) bq)
     have z:=N8 (∀{G}(h:G:=by
     intro e fs al;obtain⟨⟨vb,rfl,ax⟩,ba,ay⟩:=al;have rY:=(eg.next ay);have vt:=ba;have F5:=hide bW.out;replace nI:=(PO.later (fun b A _=>ay.block b A.2 (by have h1:=NZ bW;have U:=A.1;omega)) _ _ nI)
     have aj:=(X7 w2.heap.size tb vb fs ax dT);go_wp2_with fail;refine cm aj ?_;rintro e aD ⟨rfl,bu,f7⟩;have e3:=(rY.trans ((Ap.of f7).mono eg.size));have fR:=(vt.ap f7 bq.base.size);replace nI:=(PO.later (fun b A _=>f7.block b A.2) _ _ nI);obtain⟨bc,rfl,fd⟩:=bu.nv;have sf:=(PO.mono (J:=fun b=>From w.heap.size b/\w2.heap.size<=b) (fun _ A _=>⟨Nat.le_trans eg.size A,A⟩) _ _ fd);have aj:=(PG 37 Oh (.slice (some (N9 aD.heap.size 0)) 2 2) (aD.alloc (.cells #[N7 cp,N7 bc] 22)) ⟨_,_,_,rfl⟩)
     have z:=N8 (∀{G}(h:G:=by
     have⟨cO,cP,db⟩:=made fR e3 (Oz.pair (I:=From w.heap.size) nI sf) (by simp[maxLen]) #[N7 cp,N7 bc] rfl 2 rfl 37 Oh (aD.heap.size+1) rfl;exact Tz a'.out.symm cO.nv cP db),G);exact aat),G);exact XM),G);exact XM),G);exact aho),G);exact XM
end
def Wu {c:Ctx}(f:Nat)(jv:VH f)(w:Og)(d i:Nat)(r:PR Tr)(aO:r≠.out)(q:Nat)(ag:QC Un (fx c.l i)=some q)(aF:avn q=f)(al:∀ W,PI c W i d->Oq f #[O1 c] W (P9 c W d (NV W.heap.size) r))(h:PI c w i d) :
  Oq 160 #[O1 c] w (P9 c w d (NV w.heap.size) r):=by
 have dX:Hid (∀ W:Og,PI c W i d->(Instr.lookup 231 (.map (some c.mT)) (Oj (fx c.l i)) true).run prog W=.ok (.tuple #[.func (.func f) #[Oy c.R 0] #[],Om true]) W):=fun W a6=>by
  have:=adW c (fx c.l i) W a6.base.azl;rw[ag] at this;simp only[aFj,aF] at this;exact this
 have bA:=h;have eZ:=(Ap.refl c.R w.heap.size w);have HP:=hide al;have dp:=hide aO;clear h aO ag aF al;go_enter func160,ntmps160;have z:=N8 (∀{G}(h:G:=by
 refine wh 0 (O1 c) bA.drew ?_;refine wh 1 (O1 c) bA.drew ?_;refine wh 2 (Oy c.R 4) bA.drew ?_;refine wg 3 (.map (some c.mT)) rfl (Or.inl ⟨by kernel_rfl,fun W a6=>by have hh:=PI.c4 a6;go_simp⟩) bA.drew ?_
 exact aDu),G);exact aa2
def aum {c:Ctx}{F:Sv}(ah:FC c F)(w:Og)(d i:Nat)(r:PR Tr)(ab:XY c.l F d i=r)(aO:r≠.out)(ag:QC Un (fx c.l i)=none)(h:PI c w i d):Oq 160 #[O1 c] w (P9 c w d (NV w.heap.size) r):=by
 have jx:=Rh c.R 224;have dX:Hid (∀ W:Og,PI c W i d->(Instr.lookup 231 (.map (some c.mT)) (Oj (fx c.l i)) true).run prog W=.ok (.tuple #[.nilFunc,Om false]) W):=fun W a6=>by
  have:=adW c (fx c.l i) W a6.base.azl;rw[ag] at this;exact this
 clear ag;have z:=N8 (∀{G}(h:G:=by
 unfold XY at ab;have a':=hide ab;have dp:=hide aO;clear h ab aO;go_enter func160,ntmps160;have z:=N8 (∀{G}(h:G:=by
 refine wh 0 (O1 c) bA.drew ?_;refine wh 1 (O1 c) bA.drew ?_;refine wh 2 (Oy c.R 4) bA.drew ?_;refine wg 3 (.map (some c.mT)) rfl (Or.inl ⟨by kernel_rfl,fun W a6=>by have hh:=PI.c4 a6;go_simp⟩) bA.drew ?_
 have z:=N8 (∀{G}(h:G:=by
 cases aa:Pn c.l F.vl d i with
 | out=>
  exact Rl
 | bad er p=>
  have aj:=(Vx ah fA d i eQ (by rw[aa];nofun))
  exact axV
 | ok cy bR=>
  have aj:=(Vx ah fA d i eQ (by rw[aa];nofun))
  have z:=N8 (∀{G}(h:G:=by
  intro e w1 al;obtain⟨⟨v1,rfl,p1,rfl,f9⟩,ba,ay⟩:=al;have eq:=(lH.next ay);have bN:=ba;have ec:=(Sr f9 lH.size)
  cases aa:O6 c.l PY bR with
  | out=>
   exact Rl
  | bad er p=>
   have aj:=(O5 c PY w1 bR d bN Ol);exact ap7
  | ok dO cr=>
   have aj:=(O5 c PY w1 bR d bN Ol);have z:=N8 (∀{G}(h:G:=by
   intro e w2 al;obtain⟨⟨v2,rfl,rfl⟩,ba,ay⟩:=al;have eg:=(eq.next ay);replace ec:=(RX ec ay bW.out);have aj:=(PG 15 Oh (.slice (some (N9 w2.heap.size 0)) 1 1) (w2.alloc (.cells #[N7 p1] 22)) ⟨_,_,_,rfl⟩);have z:=N8 (∀{G}(h:G:=by
   have⟨cO,cP,db⟩:=made ba eg (Oz.cons ec Oz.nil) (by simp[maxLen]) #[N7 p1] rfl 1 rfl 15 Oh (w2.heap.size+1) rfl;exact Tz a'.out.symm cO.nv cP db),G);exact aat),G);exact XM),G);exact XM),G);exact zsu),G);exact aa2),G);exact amL
def alc {c:Ctx}{w W:Og}{j d:Nat}(dj:PI c W j d)(be:Ap c.R w.heap.size w W)(kd:Int)(tx:Ou)(n:Int)(q:Nat)(ag:q=W.heap.size) :
  NV w.heap.size (W.alloc (O7 kd tx n Qv)) (.mk kd tx n []) (N7 q)/\PI c (W.alloc (O7 kd tx n Qv)) j d/\Ap c.R w.heap.size w (W.alloc (O7 kd tx n Qv)):=by
 subst ag;exact⟨(EV.new (KV.nil _ _) be.size kd tx n).nv,dj.alloc _,be.alloc be.size _⟩
def stepped {c:Ctx}{w W:Og}{i d:Nat}(dj:PI c W i d)(be:Ap c.R w.heap.size w W)(aS:i+1<c.l.length) :
  PI c (W.setCell (N9 c.R 1) (NY ((i:Int)+1))) (i+1) d/\Ap c.R w.heap.size w (W.setCell (N9 c.R 1) (NY ((i:Int)+1))):=
 ⟨dj.go2 (i+1) aS Oe,be.setCell (p:=(N9 c.R 1)) (Or.inr rfl) _⟩
def afo {c:Ctx}(f:Nat)(jv:VH f)(w:Og)(d i:Nat)(r:PR Tr)(aO:r≠.out)(q:Nat)(ag:QC SE (fx c.l i)=some q)(aF:afX q=f)(al:∀ W,PI c W i d->Oq f #[O1 c] W (P9 c W d (NV W.heap.size) r))(h:PI c w i d) :
  Oq 347 #[O1 c] w (P9 c w d (NV w.heap.size) r):=by
 have dX:Hid (∀ W:Og,PI c W i d->(Instr.lookup 231 (.map (some c.mV)) (Oj (fx c.l i)) true).run prog W=.ok (.tuple #[.func (.func f) #[Oy c.R 0] #[],Om true]) W):=fun W a6=>by
  have:=adV c (fx c.l i) W a6.base.vals;rw[ag] at this;simp only[aFk,aF] at this;exact this
 have bA:=h;have eZ:=(Ap.refl c.R w.heap.size w);have HP:=hide al;have dp:=hide aO;clear h aO ag aF al;go_enter func347,ntmps347;have z:=N8 (∀{G}(h:G:=by
 refine wh 0 (O1 c) bA.drew ?_;refine wh 1 (O1 c) bA.drew ?_;refine wh 2 (Oy c.R 5) bA.drew ?_;refine wg 3 (.map (some c.mV)) rfl (Or.inl ⟨by kernel_rfl,fun W a6=>by have hh:=PI.c5 a6;go_simp⟩) bA.drew ?_
 exact aDu),G);exact aa2
def aun {c:Ctx}(w:Og)(d i:Nat)(x:Sg)(ag:QC SE (fx c.l i)=none)(e6:ZQ 0 (fx c.l i)=some x)(h:PI c w i d):Oq 347 #[O1 c] w (P9 c w d (NV w.heap.size) (.ok (.mk x.kd Oh 0 []) (i+1))):=by
 have z:=N8 (∀{G}(h:G:=by
 have ou:=hide (ZY h.base.ends h.lt e6);clear e6;clear h;go_enter func347,ntmps347;have z:=N8 (∀{G}(h:G:=by
 have bL:=N8 (∀{G}(h:G:=by
 have z:=N8 (∀{G}(h:G:=by
 have aj:=(V6 c 0 fA i d eQ);have z:=N8 (∀{G}(h:G:=by
 have pd:=(lH.next (Ap.of nW));have mj:=(eQ.later nW);have z:=N8 (∀{G}(h:G:=by
 have pU:(aY.alloc (.cells #[Oj x.tx,NY x.kd,NY x.parts,NY x.str] 275)).heap[aY.heap.size]? = some (.cells #[Oj x.tx,NY x.kd,NY x.parts,NY x.str] 275):=Oi _ _;have tL:=hide pU;clear pU;have aj:=(Rt c (aY.alloc (.cells #[Oj x.tx,NY x.kd,NY x.parts,NY x.str] 275)) i d q9);have bL:=N8 (∀{G}(h:G:=by
 clear n6;have z:=N8 (∀{G}(h:G:=by
 have az:=NZ ou;have⟨o1,j7⟩:=stepped qf qZ az;have dT:=hide (alc (o1.alloc (.cells #[NY (OX c.l i).kd,Oj (OX c.l i).tx,NY (OX c.l i).n,NY ((OX c.l i).pl:Int)] 144)) (j7.alloc j7.size (.cells #[NY (OX c.l i).kd,Oj (OX c.l i).tx,NY (OX c.l i).n,NY ((OX c.l i).pl:Int)] 144)) x.kd Oh 0 (wt.heap.size+1) OW);have aj:=(PG x.kd Oh Qv (wt.alloc (.cells #[NY (OX c.l i).kd,Oj (OX c.l i).tx,NY (OX c.l i).n,NY ((OX c.l i).pl:Int)] 144)) ⟨_,_,_,rfl⟩);exact atG),G);exact aEe),G);exact ztm),G);exact aEX),G);exact atU),G);exact zsu),G);exact aD8),G);exact aa2),G);exact aqa
section
variable {c:Ctx} (w:Og) (d i:Nat) (ag:QC SE (fx c.l i)=none) (e6:ZQ 0 (fx c.l i)=none)
include c w d i ag e6
def auo (E:(OX c.l i).kd=1)(h:PI c w i d):Oq 347 #[O1 c] w (P9 c w d (NV w.heap.size) (.ok (.mk 23 (OX c.l i).tx 0 []) (i+1))):=by
 have z:=N8 (∀{G}(h:G:=by
 clear e6;have ou:=hide (Vh h.base.ends h.lt (by rw[E];decide))
 have dn:((OX c.l i).kd==1)=true:=by rw[E];decide
 have oF:((OX c.l i).kd==4)=false:=by rw[E];decide
 have em:((OX c.l i).kd==3)=false:=by rw[E];decide
 clear E;have z:=N8 (∀{G}(h:G:=by
 have az:=NZ ou;have⟨o1,j7⟩:=stepped qf qZ az;have dT:=hide (alc (o1.alloc (.cells #[NY (OX c.l i).kd,Oj (OX c.l i).tx,NY (OX c.l i).n,NY ((OX c.l i).pl:Int)] 144)) (j7.alloc j7.size (.cells #[NY (OX c.l i).kd,Oj (OX c.l i).tx,NY (OX c.l i).n,NY ((OX c.l i).pl:Int)] 144)) 23 (OX c.l i).tx 0 (wt.heap.size+1) OW);have aj:=(PG 23 (OX c.l i).tx Qv (wt.alloc (.cells #[NY (OX c.l i).kd,Oj (OX c.l i).tx,NY (OX c.l i).n,NY ((OX c.l i).pl:Int)] 144)) ⟨_,_,_,rfl⟩);exact atG),G);exact zsg),G);exact aqa
def ayu (E:(OX c.l i).kd=4)(h:PI c w i d):Oq 347 #[O1 c] w (P9 c w d (NV w.heap.size) (.ok (.mk 18 (OX c.l i).tx 0 []) (i+1))):=by
 have z:=N8 (∀{G}(h:G:=by
 clear e6;have ou:=hide (Vh h.base.ends h.lt (by rw[E];decide))
 have dn:((OX c.l i).kd==1)=false:=by rw[E];decide
 have oF:((OX c.l i).kd==4)=true:=by rw[E];decide
 have em:((OX c.l i).kd==3)=false:=by rw[E];decide
 clear E;have z:=N8 (∀{G}(h:G:=by
 have az:=NZ ou;have⟨o1,j7⟩:=stepped qf qZ az;have dT:=hide (alc (o1.alloc (.cells #[NY (OX c.l i).kd,Oj (OX c.l i).tx,NY (OX c.l i).n,NY ((OX c.l i).pl:Int)] 144)) (j7.alloc j7.size (.cells #[NY (OX c.l i).kd,Oj (OX c.l i).tx,NY (OX c.l i).n,NY ((OX c.l i).pl:Int)] 144)) 18 (OX c.l i).tx 0 (wt.heap.size+1) OW);have aj:=(PG 18 (OX c.l i).tx Qv (wt.alloc (.cells #[NY (OX c.l i).kd,Oj (OX c.l i).tx,NY (OX c.l i).n,NY ((OX c.l i).pl:Int)] 144)) ⟨_,_,_,rfl⟩);exact atG),G);exact zsg),G);exact aqa
def ayv (E:(OX c.l i).kd=3)(h:PI c w i d):Oq 347 #[O1 c] w (P9 c w d (NV w.heap.size) (.ok (.mk 17 Oh (OX c.l i).n []) (i+1))):=by
 have z:=N8 (∀{G}(h:G:=by
 clear e6;have ou:=hide (Vh h.base.ends h.lt (by rw[E];decide))
 have dn:((OX c.l i).kd==1)=false:=by rw[E];decide
 have oF:((OX c.l i).kd==4)=false:=by rw[E];decide
 have em:((OX c.l i).kd==3)=true:=by rw[E];decide
 clear E;have z:=N8 (∀{G}(h:G:=by
 have az:=NZ ou;have⟨o1,j7⟩:=stepped qf qZ az;have dT:=hide (alc (o1.alloc (.cells #[NY (OX c.l i).kd,Oj (OX c.l i).tx,NY (OX c.l i).n,NY ((OX c.l i).pl:Int)] 144)) (j7.alloc j7.size (.cells #[NY (OX c.l i).kd,Oj (OX c.l i).tx,NY (OX c.l i).n,NY ((OX c.l i).pl:Int)] 144)) 17 Oh (OX c.l i).n (wt.heap.size+1) OW);have aj:=(PG 17 Oh Qv (wt.alloc (.cells #[NY (OX c.l i).kd,Oj (OX c.l i).tx,NY (OX c.l i).n,NY ((OX c.l i).pl:Int)] 144)) ⟨_,_,_,rfl⟩);exact atG),G);exact zsg),G);exact aqa
def ayw (h1:(OX c.l i).kd≠1)(aN:(OX c.l i).kd≠4)(av:(OX c.l i).kd≠3)(h:PI c w i d):Oq 347 #[O1 c] w (P9 c w d (NV w.heap.size) (.bad 3 (OX c.l i).pl)):=by
 have z:=N8 (∀{G}(h:G:=by
 clear e6;have dn:((OX c.l i).kd==1)=false:=beq_eq_false_iff_ne.2 h1;have oF:((OX c.l i).kd==4)=false:=beq_eq_false_iff_ne.2 aN;have em:((OX c.l i).kd==3)=false:=beq_eq_false_iff_ne.2 av;clear h1 av aN;have z:=N8 (∀{G}(h:G:=by
 have aj:=(Vb c 3 (wt.alloc (.cells #[NY (OX c.l i).kd,Oj (OX c.l i).tx,NY (OX c.l i).n,NY ((OX c.l i).pl:Int)] 144)) i d Cz);go_wp2_with fail;refine cm aj ?_;rintro e kH ⟨rfl,mz⟩;exact⟨rfl,Qc rfl (xm.next (Ap.of mz))⟩),G);exact zsg),G);exact aqa
end
def aFs:VH 155:=fun _ _=>by kernel_rfl
def aFt:VH 156:=fun _ _=>by kernel_rfl
def aFu:VH 157:=fun _ _=>by kernel_rfl
def aFv {s:Ou}{q:Nat}(h:QC SE s=some q):q<3:=by
 unfold QC at h
 cases aF:SE.find? (fun e=>decide (s=e.1)) with
 | none=>rw[aF] at h;cases h
 | some e=>
  rw[aF] at h;have aR:=List.mem_of_find?_eq_some aF;simp only[Option.map_some,Option.some.injEq] at h;subst h;simp only[SE,List.mem_cons,List.not_mem_nil,or_false] at aR
  rcases aR with rfl|rfl|rfl <;> decide
def ad4 {c:Ctx}{F:Sv}(ah:FC c F)(hN:∃ k,FNx c.l k F)(D:FOk F):Does c 347 NV (Ur c.l F):=by
 intro w d i r ab aO h;unfold Ur at ab
 cases ag:QC SE (fx c.l i) with
 | some q=>
  have aM:=aFv ag;have av:q=0\/q=1\/q=2:=Oe;rw[ag] at ab
  rcases av with rfl|rfl|rfl
  ·exact afo 155 aFs w d i r aO 0 ag rfl (fun W a6=>aay ah W d i r ab aO a6) h
  ·exact afo 156 aFt w d i r aO 1 ag rfl (fun W a6=>ajF ah hN W d i r ab aO a6) h
  ·exact afo 157 aFu w d i r aO 2 ag rfl (fun W a6=>ajG ah hN D W d i r ab aO a6) h
 | none=>
  rw[ag] at ab;simp only at ab
  cases hg:ZQ 0 (fx c.l i) with
  | some x=>
   rw[hg] at ab;subst ab;exact aun w d i x ag hg h
  | none=>
   rw[hg] at ab;simp only at ab
   by_cases h1:(OX c.l i).kd=1
   ·rw[if_pos h1] at ab;subst ab;exact auo w d i ag hg h1 h
   ·by_cases aN:(OX c.l i).kd=4
    ·rw[if_neg h1,if_pos aN] at ab;subst ab;exact ayu w d i ag hg aN h
    ·by_cases av:(OX c.l i).kd=3
     ·rw[if_neg h1,if_neg aN,if_pos av] at ab;subst ab;exact ayv w d i ag hg av h
     ·rw[if_neg h1,if_neg aN,if_neg av] at ab;subst ab;exact ayw w d i ag hg h1 aN av h
def Zc {c:Ctx}{F:Sv}(ah:FC c F)(w:Og)(d i:Nat)(r:PR Tr)(E:(OX c.l i).kd≠6)(ab:RI c.l F d i=r)(aO:r≠.out)(h:PI c w i d):Oq 152 #[O1 c] w (P9 c w d (EV w.heap.size) r):=by
 have jx:=Rh c.R 160;have ov:=hide E;clear E;have eZ:=(Ap.refl c.R w.heap.size w);have bW:=hide h.rlt;unfold RI at ab;have a':=hide ab;have dp:=hide aO;clear ab aO;go_enter func152,ntmps152;have aj:=(Zr c w i d h ov.out);go_wp2_with fail;refine cm aj ?_;rintro e wk ⟨rfl,iV,Ak⟩;have tp:=(eZ.next Ak);clear h
 cases aa:Tj c.l F d (i+1) with
 | out=>
  exact Rl
 | bad er p=>
  have aj:=(aay ah wk d (i+1) _ rfl (by rw[aa];nofun) iV)
  exact aDV
 | ok cy bR=>
  have aj:=(aay ah wk d (i+1) _ rfl (by rw[aa];nofun) iV)
  have z:=N8 (∀{G}(h:G:=by
  intro e w1 al;obtain⟨⟨v1,rfl,p1,rfl,f9⟩,ba,ay⟩:=al;have eq:=(tp.next ay);have bN:=ba;have ec:=(Sr f9 tp.size)
  cases aa:Pn c.l F.st d bR with
  | out=>
   exact Rl
  | bad er p=>
   have aj:=(aaG ah w1 d bR bN (by rw[aa];nofun))
   exact ap7
  | ok dO cr=>
   have aj:=(aaG ah w1 d bR bN (by rw[aa];nofun))
   have z:=N8 (∀{G}(h:G:=by
   intro e w2 al;obtain⟨⟨v2,rfl,cp,rfl,jQ⟩,ba,ay⟩:=al;have eg:=(eq.next ay);replace ec:=(aas ec ay bW.out eq.size jQ);have aj:=(PG (Ql (OX c.l i).tx) Oh (.slice (some (N9 w2.heap.size 0)) 2 2) (w2.alloc (.cells #[N7 p1,N7 cp] 22)) ⟨_,_,_,rfl⟩);have z:=N8 (∀{G}(h:G:=by
   have⟨cO,cP,db⟩:=made ba eg ec (by simp[maxLen]) #[N7 p1,N7 cp] rfl 2 rfl (Ql (OX c.l i).tx) Oh (w2.heap.size+1) rfl;exact Tz a'.out.symm cO cP db),G);exact aat),G);exact XM),G);exact XM
def aHo {b:Nat}{w1:Og}{v0 v1 v2 v3:Ot}(aU:w1.heap[b]? = some (.cells #[v0,v1,v2,v3] 144)):ajH b w1 v0 v1 v2 v3:=
 ⟨by rw[cell_of aU];rfl,by rw[cell_of aU];rfl,by rw[cell_of aU];rfl,by rw[cell_of aU];rfl,RN aU,lt_of_heap aU⟩
def amY {c:Ctx}{F:Sv}(ah:FC c F):Does c 224 NV (UG c.l F):=by
 have z:=N8 (∀{G}(h:G:=by
 have bW:=hide h.rlt;unfold UG at ab;have a':=hide ab;have dp:=hide aO;clear ab aO;go_enter func224,ntmps224;have aj:=(Rt c w i d h);unfold tkV at aj;go_wp2_with fail;refine cm aj ?_;rintro e wt ⟨rfl,uj⟩;have qZ:=(eZ.next (Ap.of uj));have qf:=(h.later uj);clear h;have z:=N8 (∀{G}(h:G:=by
 have iP:Hid ((wt.alloc (.cells #[NY (OX c.l i).kd,Oj (OX c.l i).tx,NY (OX c.l i).n,NY ((OX c.l i).pl:Int)] 144)).heap[wt.heap.size]? = some (.cells #[NY (OX c.l i).kd,Oj (OX c.l i).tx,NY (OX c.l i).n,NY ((OX c.l i).pl:Int)] 144)):=Oi _ _;have su:Hid (c.R<wt.heap.size):=Nat.lt_of_lt_of_le bW.out qZ.size
 cases aa:F.pr 2 d i with
 | out=>
  exact Rl
 | bad er p=>
  have z:=N8 (∀{G}(h:G:=by
  rw[aa] at aj a';simp only[O9] at a';clear aa;have z:=N8 (∀{G}(h:G:=by
  exact⟨rfl,Qc a'.out.symm (xm.next ay)⟩),G);exact XK),G);exact aEZ
 | ok cy bR=>
  have z:=N8 (∀{G}(h:G:=by
  have z:=N8 (∀{G}(h:G:=by
  intro e w1 al;obtain⟨⟨v1,rfl,p1,rfl,f9⟩,ba,ay⟩:=al;have eq:=(xm.next ay);have bN:=ba;have ec:=(Sr f9 xm.size);replace iP:=hide ((ay.block _ (lt_of_heap iP.out) (by have:=NZ su;omega)).trans iP.out)
  have aj:=(RV c w1 bR d bN);go_wp2_with fail;refine cm aj ?_;rintro e dF ⟨rfl,x6⟩;have yI:=(eq.next (Ap.of x6));have CA:=(bN.later x6);replace ec:=(RX ec (Ap.of x6) bW.out);replace iP:=hide ((x6.block _ (lt_of_heap iP.out)).trans iP.out)
  by_cases ac:fx c.l bR=tEq
  ·rw[if_pos ac] at a';have sF:((fx c.l bR).toList==[61])=true:=Vz (b:=tEq) rfl ac;have F':Hid (O6 c.l tEq bR=.ok () (bR+1)):=by
    show _=_
    unfold O6;rw[if_pos ac]
   clear ac;obtain⟨gp,dI,o2,_,_⟩:=ec.opens;have⟨t6,_,_,_,_⟩:=node_cells o2;clear o2
   by_cases ge:cy.kd=23
   ·have Hh:(cy.kd != 23)=false:=by rw[ge];rfl
    rw[if_pos (Or.inl ge)] at a';clear ge;exact aFb
   ·have Hh:(cy.kd != 23)=true:=bne_iff_ne.2 ge
    by_cases lS:cy.kd=36
    ·have Hi:(cy.kd != 36)=false:=by rw[lS];rfl
     rw[if_pos (Or.inr lS)] at a';clear ge lS;exact aFb
    ·have Hi:(cy.kd != 36)=true:=bne_iff_ne.2 lS;rw[if_neg (fun hh=>hh.elim ge lS)] at a';clear ge lS;have⟨t0,kG,t2,t3,tf,tlt⟩:=aHo iP.out;have aj:=(acE c 1 (OX c.l i) dF);unfold tkV at aj;go_wp2_with fail;refine cm aj ?_;rintro e kH ⟨rfl,mz⟩;exact⟨rfl,Qc a'.out.symm (yI.next (Ap.of mz))⟩
  ·rw[if_neg ac] at a';have sF:((fx c.l bR).toList==[61])=false:=U6 (b:=tEq) rfl ac;clear ac;go_wp2;go_ret;exact Tz a'.out.symm ⟨p1,rfl,ec⟩ CA yI),G);exact XM),G);exact aEZ),G);exact aEe),G);exact atX
def sg2 {s:Ou}{x:Sg}(h:ZQ 2 s=some x):2<=x.str/\x.str<=7:=by
 unfold ZQ at h
 cases aF:Zn s with
 | none=>rw[aF] at h;cases h
 | some y=>
  rw[aF] at h;have aR:=List.mem_of_find?_eq_some aF;have hy:y=x/\(y.parts==2)=true:=by
   simp only[Option.filter] at h
   split at h
   ·exact⟨Option.some.inj h,by assumption⟩
   ·
    cases h
  obtain⟨rfl,al⟩:=hy;simp only[sgs,List.mem_cons,List.not_mem_nil,or_false] at aR
  rcases aR with rfl|rfl|rfl|rfl|rfl|rfl|rfl|rfl|rfl|rfl|rfl|rfl|rfl|rfl <;> first|decide | (exact absurd al Ol)
def acF {c:Ctx}{w aY:Og}{i d:Nat}(x:Sg)(dj:PI c aY i d)(be:Ap c.R w.heap.size w aY)(az:i+1<c.l.length) :
  PI c ((aY.setCell (N9 c.R 1) (NY ((i:Int)+1))).alloc (.cells #[Oj x.tx,NY x.kd,NY x.parts,NY x.str] 275)).drew (i+1) d/\Ap c.R w.heap.size w ((aY.setCell (N9 c.R 1) (NY ((i:Int)+1))).alloc (.cells #[Oj x.tx,NY x.kd,NY x.parts,NY x.str] 275)).drew /\
  ((aY.setCell (N9 c.R 1) (NY ((i:Int)+1))).alloc (.cells #[Oj x.tx,NY x.kd,NY x.parts,NY x.str] 275)).drew.heap[aY.heap.size]? = some (.cells #[Oj x.tx,NY x.kd,NY x.parts,NY x.str] 275):=by
 have⟨h1,U⟩:=stepped dj be az;refine⟨(h1.alloc _).drew,(U.alloc U.size _).drew,?_⟩;have:=Oi (aY.setCell (N9 c.R 1) (NY ((i:Int)+1))) (.cells #[Oj x.tx,NY x.kd,NY x.parts,NY x.str] 275);rw[World.size_setCell] at this;exact this
section
variable {c:Ctx} {F:Sv}
include c F
def ahF (hG:Does c 333 NV (TS c.l F))(w:Og)(d i:Nat)(r:PR Tr)(e6:ZQ 1 (fx c.l i)=none)(ab:TS c.l F d i=r)(aO:r≠.out)(h:PI c w i d):Oq 311 #[O1 c] w (P9 c w d (NV w.heap.size) r):=by
 have tM:=hide e6;clear e6;have eZ:=(Ap.refl c.R w.heap.size w);have a':=hide ab;have dp:=hide aO;clear ab aO;go_enter func311,ntmps311;have aj:=(V6 c 1 w i d h);have bL:=N8 (∀{G}(h:G:=by
 have pd:=(eZ.next (Ap.of nW));have mj:=(h.later nW);clear h;have bL:=N8 (∀{G}(h:G:=by
 cases aa:TS c.l F d i with
 | out=>
  rw[aa] at a';exact absurd a'.out.symm dp.out
 | bad er p=>
  have aj:=(hG (aY.alloc (.cells #[Pm,NY 0,NY 0,NY 0] 275)) d i _ rfl (by rw[aa];nofun) q9)
  rw[aa] at aj a';clear aa;have z:=N8 (∀{G}(h:G:=by
  exact⟨rfl,Qc a'.out.symm (rZ.next ay)⟩),G);exact XK
 | ok cy bR=>
  have aj:=(hG (aY.alloc (.cells #[Pm,NY 0,NY 0,NY 0] 275)) d i _ rfl (by rw[aa];nofun) q9)
  rw[aa] at aj a';clear aa;go_wp2_with fail;have z:=N8 (∀{G}(h:G:=by
  have eq:=(rZ.next ay);have ec:=(Sr f9 rZ.size);go_wp2;go_ret;exact Tz a'.out.symm ⟨p1,rfl,ec⟩ ba eq),G);exact atN),G);exact ztr),G);exact ztw
def ahG (ah:FC c F)(w:Og)(d i:Nat)(x:Sg)(r:PR Tr)(e6:ZQ 1 (fx c.l i)=some x)(ab:((Pn c.l F.sg d (i+1)).bind fun t a8=>PR.ok (.mk x.kd Oh 0 [t]) a8)=r)(aO:r≠.out)(h:PI c w i d):Oq 311 #[O1 c] w (P9 c w d (NV w.heap.size) r):=by
 have jx:=Rh c.R 311;have tM:=hide e6;have az:=ZY h.base.ends h.lt e6;have dA:=h.base.len;clear e6;have bA:=h;have eZ:=(Ap.refl c.R w.heap.size w);have a':=hide ab;have dp:=hide aO;clear h ab aO;go_enter func311,ntmps311;have aj:=(V6 c 1 w i d bA);have z:=N8 (∀{G}(h:G:=by
 have pd:=(eZ.next (Ap.of nW));have mj:=(bA.later nW);have fN:=mj.c1;have he:=mj.fz;have dE:=mj.rlt;have⟨uE,eC,fI⟩:=acF x mj pd az;have eF:=hide fI;have su:Hid (c.R<aY.heap.size):=dE;clear fI
 cases aa:Pn c.l F.sg d (i+1) with
 | out=>
  exact Rl
 | bad er p=>
  have z:=N8 (∀{G}(h:G:=by
  simp only[O9] at a';have z:=N8 (∀{G}(h:G:=by
  refine wh 2 (O1 c) eF.out ?_;refine wh 3 (O1 c) eF.out ?_;refine wh 4 (.func (.func 311) #[O1 c] #[]) eF.out ?_;refine XL 5 fun K D=>?_;go_simp;refine cm aj ?_;intro e w' al;obtain⟨rfl,ay⟩:=al;exact⟨rfl,Qc a'.out.symm (eC.next ay)⟩),G);exact atL),G);exact aEQ
 | ok t j=>
  have z:=N8 (∀{G}(h:G:=by
  simp only[bind_ok] at a';have z:=N8 (∀{G}(h:G:=by
  refine wh 2 (O1 c) eF.out ?_;refine wh 3 (O1 c) eF.out ?_;refine wh 4 (.func (.func 311) #[O1 c] #[]) eF.out ?_;refine XL 5 fun K D=>?_;go_simp;have z:=N8 (∀{G}(h:G:=by
  have eq:=(eC.next ay);have ec:=(Sr f9 eC.size);have iQ:=hide ((ay.block _ (lt_of_heap eF.out) (by have:=NZ su;omega)).trans eF.out)
  refine D.out _ _ iQ.out (fun _=>?_);clear D K;refine XL 6 fun K D=>?_;go_simp;have e4:=hide ((Below.heap_alloc w1 (.cells #[N7 p1] 22) _ (lt_of_heap iQ.out)).trans iQ.out);refine D.out _ _ e4.out (fun _=>?_);clear D K;refine XL 7 fun K D=>?_;go_simp;refine cm (PG x.kd Oh (.slice (some (N9 w1.heap.size 0)) 1 1) (w1.alloc (.cells #[N7 p1] 22)) ⟨_,_,_,rfl⟩) ?_;rintro e e8 ⟨rfl,rfl⟩
  have kO:=hide ((Below.heap_alloc (w1.alloc (.cells #[N7 p1] 22)) (O7 x.kd Oh 0 (.slice (some (N9 w1.heap.size 0)) 1 1)) _ (lt_of_heap e4.out)).trans e4.out);refine D.out _ _ kO.out (fun _=>?_);clear D K;refine wh 8 (N7 (w1.alloc (.cells #[N7 p1] 22)).heap.size) kO.out ?_;refine wpAnyH_done Pe ?_ _;go_simp;go_wp2;go_ret;have⟨cO,cP,db⟩:=made ba eq (Oz.cons ec Oz.nil) (by simp[maxLen]) #[N7 p1] rfl 1 rfl x.kd Oh (w1.heap.size+1) rfl;exact Tz a'.out.symm cO.nv cP db),G);exact atN),G);exact atL),G);exact aEQ),G);exact atU
def ajI (ah:FC c F)(hG:Does c 333 NV (TS c.l F)):Does c 311 NV (SH c.l F):=by
 intro w d i r ab aO h;unfold SH at ab
 cases hg:ZQ 1 (fx c.l i) with
 | none=>rw[hg] at ab;exact ahF hG w d i r hg ab aO h
 | some x=>rw[hg] at ab;exact ahG ah w d i x r hg ab aO h
end
def aqE {c:Ctx}{F:Sv}(ah:FC c F)(hN:∃ k,FNx c.l k F)(b:Int)(w:Og)(d i:Nat)(r:PR Tr)(ab:Wj c.l F b d i=r)(aO:r≠.out)(h:PI c w i d):Oq 280 #[O1 c,NY b] w (P9 c w d (NV w.heap.size) r):=by
 have dB:=h.base.ends;have dX:=hide h.base.len;have nJ:=hide hN;clear hN;have z:=N8 (∀{G}(h:G:=by
 unfold Wj at ab;have a':=hide ab;have dp:=hide aO;clear h ab aO;go_enter func280,ntmps280
 cases aa:F.sg d i with
 | out=>
  exact Rl
 | bad er p=>
  have aj:=(ah.sg w d i _ rfl (by rw[aa];nofun) bA)
  exact aa1
 | ok cy bR=>
  have aj:=(ah.sg w d i _ rfl (by rw[aa];nofun) bA)
  have z:=N8 (∀{G}(h:G:=by
  intro e w1 al;obtain⟨⟨v1,rfl,p1,rfl,f9⟩,ba,ay⟩:=al;have eq:=(eZ.next ay);have bN:=ba;have ec:=(Sr f9 eZ.size);clear ay;go_wp2_with fail
  go_loopw [5] (fun v wr=>∃ k t j p,v=N7 p/\RQ c.l F b d k t j=r/\PI c wr j d/\Ap c.R w.heap.size w wr/\PO (From w.heap.size) wr t p) (fun _ wr=>c.l.length - nxt c wr)
  case atStart=>exact⟨F.fuel,cy,bR,p1,rfl,a'.out,bN,eq,ec⟩
  case round=>
   obtain⟨k,t,j,aU,rfl,ag,ba,gx,eG⟩:=hrel
   cases k with
   | zero=>exact absurd ag.symm dp.out
   | succ k=>
    have bq:=ba;have oA:=ba;have ni:=ba.lt;have dA:=NZ dX;unfold RQ at ag
    cases e6:ZQ 2 (fx c.l j) with
    | none=>
     rw[e6] at ag;have bj:=hide ag;have tM:=hide e6;clear ag e6;have aj:=(V6 c 2 wr j d bq);have bL:=N8 (∀{G}(h:G:=by
     have z:=N8 (∀{G}(h:G:=by
     have bL:=N8 (∀{G}(h:G:=by
     replace eG:=hide (RX eG (Ap.of (QI.alloc Pg (.cells #[Pm,NY 0,NY 0,NY 0] 275))) bW.out);go_wp2;go_ret;exact Tz bj.out.symm ⟨aU,rfl,eG⟩ q9 rZ),G);exact ztr),G);exact ayd),G);exact ztw
    | some x=>
     rw[e6] at ag
     dsimp only at ag
     have tM:=hide e6;have az:=ZY dB ni e6;have⟨eC,rI⟩:=sg2 e6;clear e6
     by_cases gh:x.str<b
     ·rw[if_pos gh] at ag;have bj:=hide ag;clear ag;have aj:=(V6 c 2 wr j d bq);have z:=N8 (∀{G}(h:G:=by
      have z:=N8 (∀{G}(h:G:=by
      have z:=N8 (∀{G}(h:G:=by
      replace eG:=hide (RX eG (Ap.of (QI.alloc Pg (.cells #[Oj x.tx,NY x.kd,NY x.parts,NY x.str] 275))) bW.out);go_wp2;go_ret;exact Tz bj.out.symm ⟨aU,rfl,eG⟩ q9 rZ),G);exact aEX),G);exact ayd),G);exact atU
     ·rw[if_neg gh] at ag;have bj:=hide ag;clear ag;have aj:=(V6 c 2 wr j d bq);have z:=N8 (∀{G}(h:G:=by
      have z:=N8 (∀{G}(h:G:=by
      have fN:=mj.c1;have he:=mj.fz;have dE:=mj.rlt;have⟨uE,uG,fI⟩:=acF x mj pd az;have eF:=hide fI;have su:Hid (c.R<aY.heap.size):=dE;replace eG:Hid (PO (From w.heap.size) (((aY.setCell (N9 c.R 1) (NY ((j:Int)+1))).alloc (.cells #[Oj x.tx,NY x.kd,NY x.parts,NY x.str] 275)).drew) t aU):=RX (c:=c) eG ⟨rfl,rfl,rfl,by simp,fun k E oT=>by
       show ((aY.setCell (N9 c.R 1) (NY ((j:Int)+1))).alloc (.cells #[Oj x.tx,NY x.kd,NY x.parts,NY x.str] 275)).heap[k]? = _
       rw[Below.heap_alloc _ _ k (by simpa using E),Below.heap_setCell aY (N9 c.R 1) _ k oT]⟩ bW.out
      clear fI
      cases aa:F.pr (x.str+1) d (j+1) with
      | out=>
       exact axX
      | bad er p=>
       have z:=N8 (∀{G}(h:G:=by
       rw[aa] at aj bj;simp only[O9] at bj;have z:=N8 (∀{G}(h:G:=by
       have z:=N8 (∀{G}(h:G:=by
       refine cm aj ?_;intro e w' al;obtain⟨rfl,ay⟩:=al;exact⟨rfl,Qc bj.out.symm (uG.next ay)⟩),G);exact aEs),G);exact atL),G);exact aEN
      | ok u cr=>
       have z:=N8 (∀{G}(h:G:=by
       have kr:j+1<cr:=by
        have⟨j9,cL⟩:=NZ nJ;exact((cL.pr (x.str+1) d (j+1) az).2 u cr aa).1
       rw[aa] at aj bj;simp only[bind_ok] at bj;have z:=N8 (∀{G}(h:G:=by
       have z:=N8 (∀{G}(h:G:=by
       have z:=N8 (∀{G}(h:G:=by
       have eq:=(uG.next ay);have bN:=ba;have AG:=ba.lt;replace eG:=hide (aas eG ay bW.out uG.size f9);have iQ:=hide ((ay.block _ (lt_of_heap eF.out) (by have:=NZ su;omega)).trans eF.out)
       clear ay;refine D.out _ _ iQ.out (fun _=>?_);clear D K;refine XL 8 fun K D=>?_;go_simp;have e4:=hide ((Below.heap_alloc w1 (.cells #[N7 aU,N7 p1] 22) _ (lt_of_heap iQ.out)).trans iQ.out);refine D.out _ _ e4.out (fun _=>?_);clear D K;refine XL 9 fun K D=>?_;go_simp;refine cm (PG x.kd Oh (.slice (some (N9 w1.heap.size 0)) 2 2) (w1.alloc (.cells #[N7 aU,N7 p1] 22)) ⟨_,_,_,rfl⟩) ?_;rintro e e8 ⟨rfl,rfl⟩
       have kO:=hide ((Below.heap_alloc (w1.alloc (.cells #[N7 aU,N7 p1] 22)) (O7 x.kd Oh 0 (.slice (some (N9 w1.heap.size 0)) 2 2)) _ (lt_of_heap e4.out)).trans e4.out);refine D.out _ _ kO.out (fun _=>?_);clear D K;refine wh 10 (N7 (w1.alloc (.cells #[N7 aU,N7 p1] 22)).heap.size) kO.out ?_;refine wpAnyH_done Pe ?_ _;go_simp;have⟨cO,cP,db⟩:=made bN eq eG (by simp[maxLen]) #[N7 aU,N7 p1] rfl 2 rfl x.kd Oh (w1.heap.size+1) rfl;obtain⟨th,rE,ws⟩:=cO.nv;have gO:th=w1.heap.size+1:=by simpa[N7] using rE.symm
       subst gO;clear rE;go_wp2
       go_roundw
       case rel=>exact⟨k,.mk x.kd Oh 0 [t,u],cr,w1.heap.size+1,rfl,bj.out,cP,db,ws⟩
       case measure=>rw[UW cP,UW oA];omega),G);exact atN),G);exact aEs),G);exact atL),G);exact aEN),G);exact ayd),G);exact atU),G);exact XM),G);exact amL
def amZ (l:List Tk)(F:Sv)(d i:Nat):Uj l F d i=(RI l F d i).bind fun n i2=>
  if fx l i2=af6 then (Pn l F.st d (i2+1)).bind fun s2 i3=>.ok (.mk n.kd n.tx n.n (n.kids++[s2])) i3 else .ok n i2:=by
 unfold Uj RI
 cases Tj l F d (i+1) with
 | out=>rfl
 | bad er p=>rfl
 | ok v a8=>
  simp only[bind_ok]
  cases Pn l F.st d a8 with
  | out=>rfl
  | bad er p=>rfl
  | ok s i2=>rfl
def ahH {l:List Tk}{F:Sv}{d i j:Nat}{t:Tr}(h:RI l F d i=.ok t j):t.kids.length=2:=by
 unfold RI at h
 cases h1:Tj l F d (i+1) with
 | out=>rw[h1] at h;cases h
 | bad er p=>rw[h1] at h;cases h
 | ok v a8=>
  rw[h1,bind_ok] at h
  cases U:Pn l F.st d a8 with
  | out=>rw[U] at h;cases h
  | bad er p=>rw[U] at h;cases h
  | ok s i2=>rw[U,bind_ok] at h;cases h;rfl
def ajJ {c:Ctx}{F:Sv}(ah:FC c F)(w:Og)(d i:Nat)(r:PR Tr)(E:(OX c.l i).kd≠6)(ab:Uj c.l F d i=r)(aO:r≠.out)(h:PI c w i d):Oq 151 #[O1 c] w (P9 c w d (NV w.heap.size) r):=by
 have jx:=Rh c.R 160;have ov:=hide E;have z:=N8 (∀{G}(h:G:=by
 rw[amZ] at ab;clear E;have z:=N8 (∀{G}(h:G:=by
 have a':=hide ab;have dp:=hide aO;clear h ab aO;go_enter func151,ntmps151
 cases aa:RI c.l F d i with
 | out=>
  exact Rl
 | bad er p=>
  have aj:=(Zc ah w d i _ ov.out rfl (by rw[aa];nofun) bA)
  exact aa1
 | ok cy bR=>
  have jG:=hide (ahH aa);have aj:=(Zc ah w d i _ ov.out rfl (by rw[aa];nofun) bA)
  have z:=N8 (∀{G}(h:G:=by
  intro e w1 al;obtain⟨⟨v1,rfl,f9⟩,ba,ay⟩:=al;have eq:=(eZ.next ay);have bN:=ba;have ec:=(EV.mono f9 eZ.size);obtain⟨aU,hp,BD,rfl,en⟩:=ec.opens
  by_cases ac:fx c.l bR=af6
  ·rw[if_pos ac] at a';have aj:=(RU c af6 w1 bR d bN ac Ol);clear ac;go_wp2_with fail;refine cm aj ?_;rintro e w2 ⟨rfl,hr2,ha2⟩;have bq:=hr2;have eg:=(eq.next ha2);replace en:=hide (Open.later en ha2 bW.out);have z:=N8 (∀{G}(h:G:=by
   cases aa:Pn c.l F.st d (bR+1) with
   | out=>
    exact Rl
   | bad er p=>
    have aj:=(aaG ah w2.drew d (bR+1) bq.drew (by rw[aa];nofun))
    rw[aa] at aj a';simp only[O9] at a';clear aa;go_wp2_with fail;have z:=N8 (∀{G}(h:G:=by
    refine wt 5 (O1 c) ?_;refine wt 6 (O1 c) ?_;refine wt 7 (.func (.func 160) #[O1 c] #[]) ?_;refine wr2 4 8 (fun K D=>?_) fun K D=>?_
    ·go_simp;refine D _ _ ?_;clear D K;refine QF 8 fun K D=>?_;exact aD4
    ·exact aD4),G);exact aar
   | ok lF hn=>
    have aj:=(aaG ah w2.drew d (bR+1) bq.drew (by rw[aa];nofun))
    rw[aa] at aj a';simp only[bind_ok] at a';clear aa;go_wp2_with fail;refine ace (H:=fun aD cw=>Ap c.R w2.heap.size w2 aD/\PI c aD hn d/\PO (From w2.heap.size) aD lF cw) (G:=?G1) (fun dD=>?_) ?_;rotate_left
    ·have z:=N8 (∀{G}(h:G:=by
     refine wt 5 (O1 c) ?_;refine wt 6 (O1 c) ?_;refine wt 7 (.func (.func 160) #[O1 c] #[]) ?_;refine wr2 4 8 (fun K D=>?_) fun K D=>?_
     ·go_simp;refine D _ _ ?_;clear D K;refine QF 8 fun K D=>?_;have z:=N8 (∀{G}(h:G:=by
      have z:=N8 (∀{G}(h:G:=by
      obtain⟨gu,gv,hD⟩:=(Open.later en dr bW.out).cell;exact axP),G);exact aEY),G);exact ahn
     ·have z:=N8 (∀{G}(h:G:=by
      have z:=N8 (∀{G}(h:G:=by
      obtain⟨gu,gv,hD⟩:=(Open.later en dr bW.out).cell;exact ayh),G);exact aEY),G);exact ahn),G);exact aar
    intro aD cw bJ;obtain⟨dr,ba,jR⟩:=bJ;have e3:=(eg.next dr);have eA:=(Open.later en dr bW.out);have m2:=(Open.apart en eg.size dr bW.out (Oz.cons jR Oz.nil));obtain⟨gu,gv,hD⟩:=eA.cell;have hlen:=Oz.length _ _ eA.kids;have hown:=eA.row;rw[hlen] at hown;have da:=e3.size;have cI:cy.kids.length<=3:=by rw[jG.out];decide
    clear hlen;refine QF 10 fun K D=>?_;refine step_append_lies _ rfl _ _ 38 rfl w.heap.size 22 i0 QS 1 8 underlying38 dW dw b8 cn rfl Ol _ _ _ rfl (hown.alloc _) (N9 aD.heap.size 0) 1 1 [N7 cw] rfl rfl (Rq aD cw _ rfl) (one_one cw) Ol (by unfold maxLen;omega) Oe QY (aD.heap.size+1) OW ?_
    intro g cap aq hown3 eU c9 _;refine D _ _ ?_;clear D K;have gD:=hide (YQ eA m2 ba e3 iw.out hown3 eU c9);have gi:aq.cell? (N9 aU 3)=aD.cell? (N9 aU 3)/\aq.frozen? (N9 aU 3)=aD.frozen? (N9 aU 3):=ap5
    obtain⟨gM,gN⟩:=gi;rw[gu] at gM;rw[gv 3] at gN;clear c9;refine wt 11 (N7 aU) ?_;refine wt 12 (Oy aU 3) ?_;refine QF 13 fun K D=>?_;go_simp;refine D _ _ ?_;clear D K gM gN gu gv hD;refine wpAny_done Pe ?_ _;go_simp;have⟨cO,cP,db⟩:=NZ gD;go_wp2;go_ret;exact Tz a'.out.symm cO.nv cP db),G);exact aqf
  ·rw[if_neg ac] at a';have aj:=(TA c af6 w1 bR d bN ac);clear ac;go_wp2_with fail;refine cm aj ?_;rintro e w2 ⟨rfl,aE⟩;have bq:=(bN.later aE);have eg:=(eq.next (Ap.of aE));replace en:=hide (Open.later en (Ap.of aE) bW.out);go_wp2;go_ret;exact Tz a'.out.symm en.ev.nv bq eg),G);exact XM),G);exact amL),G);exact amN
def aqG {c:Ctx}{F:Sv}(ah:FC c F)(w:Og)(d i:Nat)(r:PR Tr)(E:(OX c.l i).kd≠6)(ab:XW c.l F d i=r)(aO:r≠.out)(h:PI c w i d):Oq 147 #[O1 c] w (P9 c w d (NV w.heap.size) r):=by
 have jx:=Rh c.R 224;have ov:=hide E;have z:=N8 (∀{G}(h:G:=by
 clear E;have z:=N8 (∀{G}(h:G:=by
 unfold XW at ab;have a':=hide ab;have dp:=hide aO;clear h ab aO;go_enter func147,ntmps147;have z:=N8 (∀{G}(h:G:=by
 cases aa:nameP c.l (i+1) with
 | out=>
  exact Rl
 | bad er p=>
  have aj:=(name_any c wk (i+1) d iV);exact aDV
 | ok cy bR=>
  have aj:=(name_any c wk (i+1) d iV);have z:=N8 (∀{G}(h:G:=by
  intro e w1 al;obtain⟨⟨v1,rfl,rfl⟩,ba,ay⟩:=al;have eq:=(tp.next ay);have bN:=ba;have aj:=(PG hd cy Qv w1 ⟨_,_,_,rfl⟩);go_wp2_with fail;refine cm aj ?_;rintro e BL ⟨rfl,rfl⟩;have⟨cO,cP,db⟩:=aaF bN eq (KV.nil _ _) hd cy _ rfl;have⟨t0,jT⟩:=xE (.mk hd cy 0 []:Tr);have z:=N8 (∀{G}(h:G:=by
  have iF:aU=w1.heap.size:=by simpa[N7] using gO.symm
  have z:=N8 (∀{G}(h:G:=by
  have⟨e8,im⟩:=xE (w1.alloc (O7 hd cy 0 Qv));rw[<-im] at en jK kg iS uu;rw[<-iF] at en iS uu;rw[<-im,<-iF];clear im iF
  by_cases aN:hd=4
  ·have oF:(hd==4)=true:=beq_iff_eq.2 aN;have aj:=(RV c e8 bR d jK)
   by_cases ac:fx c.l bR=tEq
   ·rw[if_neg (fun hh=>hh.2 ac)] at a';have sF:((fx c.l bR).toList==[61])=true:=Vz (b:=tEq) rfl ac;clear aN;have z:=N8 (∀{G}(h:G:=by
    clear ac
    by_cases hy:fx c.l bR=tEq
    ·rw[if_pos hy] at a';have aj:=(RU c tEq dF bR d j3 hy Ol);clear hy;go_wp2_with fail;refine cm aj ?_;rintro e gV ⟨rfl,A',wa⟩;have rb:=A';have pe:=(jD.next wa);replace ci:=(Open.later ci wa bW.out);have z:=N8 (∀{G}(h:G:=by
     cases aa:Pn c.l F.vl d (bR+1) with
     | out=>
      exact Rl
     | bad er p=>
      exact aDC
     | ok lF hn=>
      have aj:=(Vx ah gV.drew d (bR+1) rb.drew (by rw[aa];nofun))
      rw[aa] at aj a';simp only[bind_ok] at a';clear aa;go_wp2_with fail;refine ace (H:=fun aD cw=>Ap c.R gV.heap.size gV aD/\PI c aD hn d/\PO (From gV.heap.size) aD lF cw) (G:=?G1) (fun dD=>?_) ?_;rotate_left
      ·exact aE8
      intro aD cw bJ;obtain⟨dr,ba,jR⟩:=bJ;have e3:=(pe.next dr);have fR:=ba;have eA:=(Open.later ci dr bW.out);have m2:=(Open.apart ci pe.size dr bW.out (Oz.cons jR Oz.nil));obtain⟨gu,gv,hD⟩:=eA.cell;have hlen:=Oz.length _ _ eA.kids;have hown:=eA.row;rw[hlen] at hown;have HOWN:=hown;have da:=e3.size;have cI:t0.kids.length<=3:=by rw[jG.out];decide
      clear hlen;refine QF 10 fun K D=>?_;refine step_append_lies _ rfl _ _ 38 rfl w.heap.size 22 i0 QS 1 8 underlying38 dW dw b8 cn rfl Ol _ _ _ rfl (HOWN.alloc _) (N9 aD.heap.size 0) 1 1 [N7 cw] rfl rfl (Rq aD cw _ rfl) (one_one cw) Ol (by unfold maxLen;omega) Oe QY (aD.heap.size+1) OW ?_
      intro g cap aq hown3 eU c9 _;refine D _ _ ?_;clear D K;have gD:=hide (YQ eA m2 fR e3 iw.out hown3 eU c9);have gi:aq.cell? (N9 aU 3)=aD.cell? (N9 aU 3)/\aq.frozen? (N9 aU 3)=aD.frozen? (N9 aU 3):=ap5
      obtain⟨gM,gN⟩:=gi;rw[gu] at gM;rw[gv 3] at gN;clear c9;refine wt 11 (N7 aU) ?_;refine wt 12 (Oy aU 3) ?_;refine QF 13 fun K D=>?_;go_simp;refine D _ _ ?_;clear D K gM gN gu gv hD;refine wpAny_done Pe ?_ _;go_simp;have⟨cO,cP,db⟩:=NZ gD;have jH:=cO;have cU:=cP;have iO:=db
      cases aa:O6 c.l PY hn with
      | out=>
       exact Rl
      | bad er p=>
       exact atF
      | ok dO cr=>
       exact aFd),G);exact aqc
    ·rw[if_neg hy] at a';have aj:=(TA c tEq dF bR d j3 hy);clear hy;go_wp2_with fail;refine cm aj ?_;rintro e gV ⟨rfl,g6⟩;have rb:=(j3.later g6);have pe:=(jD.next (Ap.of g6));exact aFa),G);exact atQ
   ·rw[if_pos ⟨aN,ac⟩] at a';have sF:((fx c.l bR).toList==[61])=false:=U6 (b:=tEq) rfl ac;clear aN ac;have z:=N8 (∀{G}(h:G:=by
    have aj:=(Vb c 3 dF bR d j3);go_wp2_with fail;refine cm aj ?_;rintro e kH ⟨rfl,mz⟩;exact⟨rfl,Qc a'.out.symm (jD.next (Ap.of mz))⟩),G);exact atQ
  ·have oF:(hd==4)=false:=beq_eq_false_iff_ne.2 aN;rw[if_neg (fun hh=>aN hh.1)] at a';clear aN;have ci:=en
   by_cases hy:fx c.l bR=tEq
   ·rw[if_pos hy] at a';have aj:=(RU c tEq e8 bR d jK hy Ol);clear hy;go_wp2_with fail;refine cm aj ?_;rintro e gV ⟨rfl,A',wa⟩;have rb:=A';have pe:=(kg.next wa);replace ci:=(Open.later ci wa bW.out);have z:=N8 (∀{G}(h:G:=by
    cases aa:Pn c.l F.vl d (bR+1) with
    | out=>
     exact Rl
    | bad er p=>
     exact aDC
    | ok lF hn=>
     have aj:=(Vx ah gV.drew d (bR+1) rb.drew (by rw[aa];nofun))
     rw[aa] at aj a';simp only[bind_ok] at a';clear aa;go_wp2_with fail;refine ace (H:=fun aD cw=>Ap c.R gV.heap.size gV aD/\PI c aD hn d/\PO (From gV.heap.size) aD lF cw) (G:=?G2) (fun dD=>?_) ?_;rotate_left
     ·exact aE8
     intro aD cw bJ;obtain⟨dr,ba,jR⟩:=bJ;have e3:=(pe.next dr);have fR:=ba;have eA:=(Open.later ci dr bW.out);have m2:=(Open.apart ci pe.size dr bW.out (Oz.cons jR Oz.nil));obtain⟨gu,gv,hD⟩:=eA.cell;have hlen:=Oz.length _ _ eA.kids;have hown:=eA.row;rw[hlen] at hown;have HOWN:=hown;have da:=e3.size;have cI:t0.kids.length<=3:=by rw[jG.out];decide
     clear hlen;refine QF 10 fun K D=>?_;refine step_append_lies _ rfl _ _ 38 rfl w.heap.size 22 i0 QS 1 8 underlying38 dW dw b8 cn rfl Ol _ _ _ rfl (HOWN.alloc _) (N9 aD.heap.size 0) 1 1 [N7 cw] rfl rfl (Rq aD cw _ rfl) (one_one cw) Ol (by unfold maxLen;omega) Oe QY (aD.heap.size+1) OW ?_
     intro g cap aq hown3 eU c9 _;refine D _ _ ?_;clear D K;have gD:=hide (YQ eA m2 fR e3 iw.out hown3 eU c9);have gi:aq.cell? (N9 aU 3)=aD.cell? (N9 aU 3)/\aq.frozen? (N9 aU 3)=aD.frozen? (N9 aU 3):=ap5
     obtain⟨gM,gN⟩:=gi;rw[gu] at gM;rw[gv 3] at gN;clear c9;refine wt 11 (N7 aU) ?_;refine wt 12 (Oy aU 3) ?_;refine QF 13 fun K D=>?_;go_simp;refine D _ _ ?_;clear D K gM gN gu gv hD;refine wpAny_done Pe ?_ _;go_simp;have⟨cO,cP,db⟩:=NZ gD;have jH:=cO;have cU:=cP;have iO:=db
     cases aa:O6 c.l PY hn with
     | out=>
      exact Rl
     | bad er p=>
      exact atF
     | ok dO cr=>
      exact aFd),G);exact aqc
   ·rw[if_neg hy] at a';have aj:=(TA c tEq e8 bR d jK hy);clear hy;go_wp2_with fail;refine cm aj ?_;rintro e gV ⟨rfl,g6⟩;have rb:=(jK.later g6);have pe:=(kg.next (Ap.of g6));exact aFa),G);exact aE1),G);exact aEI),G);exact XM),G);exact aEF),G);exact amL),G);exact amN
def aqF {c:Ctx}{b:Nat}{w1 gG:Og}{i d:Nat}{v0 v1 v2 v3:Ot}(h:PI c w1 i d)(n1:c.lo<=b)(p1:w1.heap[b]? = some SY)
  (a6:gG=(((w1.setCell (N9 b 0) v0).setCell (N9 b 1) v1).setCell (N9 b 2) v2).setCell (N9 b 3) v3) :
  PI c gG i d/\Below b w1 gG/\ajH b gG v0 v1 v2 v3:=by
 have a1:Below b w1 gG:=by
  rw[a6];exact((((Below.refl _ w1).setCell (p:=(N9 b 0)) Pg v0).setCell (p:=(N9 b 1)) Pg v1).setCell (p:=(N9 b 2)) Pg v2).setCell (p:=(N9 b 3)) Pg v3
 refine⟨h.ap a1 n1,a1,c160 ?_⟩;rw[a6];exact aai p1 v0 v1 v2 v3
section
variable {c:Ctx} (w:Og) (d i:Nat)
include c w d i
def aup (E:(OX c.l i).kd=1)(h:PI c w i d):Oq 348 #[O1 c] w fun e w'=>e=OA (Om true)/\Oo w w':=by
 have yJ:=(Below.refl w.heap.size w);have dn:((OX c.l i).kd==1)=true:=by rw[E];decide
 have em:((OX c.l i).kd==3)=false:=by rw[E];decide
 have oF:((OX c.l i).kd==4)=false:=by rw[E];decide
 exact axU
def ayx (E:(OX c.l i).kd=3)(h:PI c w i d):Oq 348 #[O1 c] w fun e w'=>e=OA (Om true)/\Oo w w':=by
 have yJ:=(Below.refl w.heap.size w);have dn:((OX c.l i).kd==1)=false:=by rw[E];decide
 have em:((OX c.l i).kd==3)=true:=by rw[E];decide
 have oF:((OX c.l i).kd==4)=false:=by rw[E];decide
 exact axU
def ayy (E:(OX c.l i).kd=4)(h:PI c w i d):Oq 348 #[O1 c] w fun e w'=>e=OA (Om true)/\Oo w w':=by
 have yJ:=(Below.refl w.heap.size w);have dn:((OX c.l i).kd==1)=false:=by rw[E];decide
 have em:((OX c.l i).kd==3)=false:=by rw[E];decide
 have oF:((OX c.l i).kd==4)=true:=by rw[E];decide
 exact axU
end
section
variable {c:Ctx} (w:Og) (d i:Nat) (h1:(OX c.l i).kd≠1) (av:(OX c.l i).kd≠3) (aN:(OX c.l i).kd≠4)
include c w d i h1 av aN
def ayz (q:Nat)(ag:QC SE (fx c.l i)=some q)(h:PI c w i d):Oq 348 #[O1 c] w fun e w'=>e=OA (Om true)/\Oo w w':=by
 have z:=N8 (∀{G}(h:G:=by
 have dX:Hid (∀ W:Og,PI c W i d->(Instr.lookup 231 (.map (some c.mV)) (Oj (fx c.l i)) true).run prog W=.ok (.tuple #[.func (.func (afX q)) #[Oy c.R 0] #[],Om true]) W):=fun W a6=>aDI
 clear h h1 av aN ag;have z:=N8 (∀{G}(h:G:=by
 have z:=N8 (∀{G}(h:G:=by
 have z:=N8 (∀{G}(h:G:=by
 refine D.out _ _ eQ (fun _=>?_);clear D K;refine wg 6 (.tuple #[.func (.func (afX q)) #[Oy c.R 0] #[],Om true]) rfl (Or.inl ⟨by kernel_rfl,fun W a6=>by have hh:=dX.out W a6;go_simp⟩) eQ ?_
 refine wh 7 (.tuple #[.func (.func (afX q)) #[Oy c.R 0] #[],Om true]) eQ ?_;refine wh 8 (.func (.func (afX q)) #[Oy c.R 0] #[]) eQ ?_;refine wh 9 (Om true) eQ ?_;refine wh 10 (.func (.func (afX q)) #[Oy c.R 0] #[]) eQ ?_;refine wh 11 (Om true) eQ ?_;refine wpAnyH_done Pe ?_ _;go_simp;go_wp2;go_ret;exact⟨rfl,r2⟩),G);exact ax1),G);exact aa2),G);exact ax6),G);exact ax4
def auq (ag:QC SE (fx c.l i)=none)(e6:Zn (fx c.l i)=none)(h:PI c w i d):Oq 348 #[O1 c] w fun e w'=>e=OA (Om false)/\Oo w w':=by
 have z:=N8 (∀{G}(h:G:=by
 have z:=N8 (∀{G}(h:G:=by
 have fe:Hid (∀ W:Og,PI c W i d->(Instr.lookup 229 (.map (some c.mS)) (Oj (fx c.l i)) true).run prog W=.ok (.tuple #[.agg #[Pm,NY 0,NY 0,NY 0],Om false]) W):=fun W a6=>by
  have:=Xv c (fx c.l i) W a6.base.signs;rw[e6] at this;exact this
 clear h h1 av aN ag e6;have z:=N8 (∀{G}(h:G:=by
 have z:=N8 (∀{G}(h:G:=by
 have z:=N8 (∀{G}(h:G:=by
 have z:=N8 (∀{G}(h:G:=by
 have iw:=hide eQ.base.size;have z:=N8 (∀{G}(h:G:=by
 have z:=N8 (∀{G}(h:G:=by
 refine wpAnyH_ready (rs:=[5,10]) Pe OW (AllReadyH.cons rfl (fun K D=>?_) (AllReadyH.cons rfl (fun K D=>?_) AllReadyH.nil))
 ·have z:=N8 (∀{G}(h:G:=by
  refine wg 6 (.tuple #[.agg #[Pm,NY 0,NY 0,NY 0],Om false]) rfl (Or.inl ⟨by kernel_rfl,fun W a6=>by have hh:=fe.out W a6;go_simp⟩) bN ?_
  have z:=N8 (∀{G}(h:G:=by
  have z:=N8 (∀{G}(h:G:=by
  have bq:=(bN.alloc (.cells #[Pm,NY 0,NY 0,NY 0] 275));have bo:=(eE.alloc eE.size (.cells #[Pm,NY 0,NY 0,NY 0] 275));exact aDY),G);exact aqd),G);exact atT),G);exact aEH
 ·have z:=N8 (∀{G}(h:G:=by
  refine wg 6 (.tuple #[.agg #[Pm,NY 0,NY 0,NY 0],Om false]) rfl (Or.inl ⟨by kernel_rfl,fun W a6=>by have hh:=fe.out W a6;go_simp⟩) bN ?_
  have z:=N8 (∀{G}(h:G:=by
  refine XL 11 fun K D=>?_;go_simp;clear cS bY cg eo eO rlt;have⟨gG,iB⟩:=xE ((((w1.setCell (N9 fA.heap.size 0) (Pm)).setCell (N9 fA.heap.size 1) (NY 0)).setCell (N9 fA.heap.size 2) (NY 0)).setCell (N9 fA.heap.size 3) (NY 0));obtain⟨hr2,aE,⟨jA,kD,s2,pb,tj,tk⟩⟩:=aqF (v0:=Pm) (v1:=NY 0) (v2:=NY 0) (v3:=NY 0) bN iw.out tT.out iB;have bq:=hr2;have bo:=(eE.trans (aE.mono r2.size));rw[<-iB];clear iB;exact aDY),G);exact atT),G);exact aEr),G);exact aEC),G);exact aa2),G);exact aEd),G);exact ax1),G);exact aa2),G);exact ax6),G);exact aEl),G);exact ax4
def aur (x:Sg)(ag:QC SE (fx c.l i)=none)(e6:Zn (fx c.l i)=some x)(h:PI c w i d):Oq 348 #[O1 c] w fun e w'=>e=OA (Om (decide (x.parts<2)))/\Oo w w':=by
 have z:=N8 (∀{G}(h:G:=by
 have z:=N8 (∀{G}(h:G:=by
 have fe:Hid (∀ W:Og,PI c W i d->(Instr.lookup 229 (.map (some c.mS)) (Oj (fx c.l i)) true).run prog W=.ok (.tuple #[.agg #[Oj x.tx,NY x.kd,NY x.parts,NY x.str],Om true]) W):=fun W a6=>by
  have:=Xv c (fx c.l i) W a6.base.signs;rw[e6] at this;exact this
 clear h h1 av aN ag e6;have z:=N8 (∀{G}(h:G:=by
 have z:=N8 (∀{G}(h:G:=by
 have z:=N8 (∀{G}(h:G:=by
 have z:=N8 (∀{G}(h:G:=by
 have iw:=hide eQ.base.size;have z:=N8 (∀{G}(h:G:=by
 have z:=N8 (∀{G}(h:G:=by
 refine wpAnyH_ready (rs:=[5,10]) Pe OW (AllReadyH.cons rfl (fun K D=>?_) (AllReadyH.cons rfl (fun K D=>?_) AllReadyH.nil))
 ·have z:=N8 (∀{G}(h:G:=by
  have z:=N8 (∀{G}(h:G:=by
  have z:=N8 (∀{G}(h:G:=by
  have z:=N8 (∀{G}(h:G:=by
  have bq:=(bN.alloc (.cells #[Oj x.tx,NY x.kd,NY x.parts,NY x.str] 275));have bo:=(eE.alloc eE.size (.cells #[Oj x.tx,NY x.kd,NY x.parts,NY x.str] 275));exact aDX),G);exact aqd),G);exact aEf),G);exact aE0),G);exact aEH
 ·have z:=N8 (∀{G}(h:G:=by
  have z:=N8 (∀{G}(h:G:=by
  have z:=N8 (∀{G}(h:G:=by
  refine XL 11 fun K D=>?_;go_simp;clear cS bY cg eo eO rlt;have⟨gG,iB⟩:=xE ((((w1.setCell (N9 fA.heap.size 0) (Oj x.tx)).setCell (N9 fA.heap.size 1) (NY x.kd)).setCell (N9 fA.heap.size 2) (NY x.parts)).setCell (N9 fA.heap.size 3) (NY x.str));obtain⟨hr2,aE,⟨jA,kD,s2,pb,tj,tk⟩⟩:=aqF (v0:=Oj x.tx) (v1:=NY x.kd) (v2:=NY x.parts) (v3:=NY x.str) bN iw.out tT.out iB;have bq:=hr2;have bo:=(eE.trans (aE.mono r2.size));rw[<-iB];clear iB hr2 aE;exact aDX),G);exact aEf),G);exact aE0),G);exact aEr),G);exact aEC),G);exact aa2),G);exact aEd),G);exact ax1),G);exact aa2),G);exact ax6),G);exact aEl),G);exact ax4
end
def ahp (c:Ctx):Asks c 348 (isVal c.l):=by
 intro w d i h;unfold isVal
 by_cases h1:(OX c.l i).kd=1
 ·rw[h1];exact aup w d i h1 h
 ·by_cases av:(OX c.l i).kd=3
  ·rw[av];exact ayx w d i av h
  ·by_cases aN:(OX c.l i).kd=4
   ·rw[aN];exact ayy w d i aN h
   ·rw[beq_eq_false_iff_ne.2 h1,beq_eq_false_iff_ne.2 av,beq_eq_false_iff_ne.2 aN];simp only[Bool.false_or]
    cases ag:QC SE (fx c.l i) with
    | some q=>exact ayz w d i h1 av aN q ag h
    | none=>
     cases e6:Zn (fx c.l i) with
     | none=>exact auq w d i h1 av aN ag e6 h
     | some x=>
      have ac:=aur w d i h1 av aN x ag e6 h
      cases al:decide (x.parts<2) with
      | true=>rw[al] at ac;simpa[Option.filter,al] using ac
      | false=>rw[al] at ac;simpa[Option.filter,al] using ac
def aFh {c:Ctx}{w w1:Og}{j d:Nat}{t:Tr}{p:Nat}{u:Ot}{ps:List Nat}(ew:Open w.heap.size w1 t p u ps)(dj:PI c w1 j d)(be:Ap c.R w.heap.size w w1)(n1:c.lo<=w.heap.size) :
  EV w.heap.size (w1.setCell (N9 p 3) u) (.mk t.kd t.tx t.n (t.kids++[])) (N7 p)/\PI c (w1.setCell (N9 p 3) u) j d/\Ap c.R w.heap.size w (w1.setCell (N9 p 3) u):=by
 have hset:∀ b,b≠p->(w1.setCell (N9 p 3) u).heap[b]? = w1.heap[b]?:=fun b A=>Below.heap_setCell w1 (N9 p 3) _ b A;have a1:Below w.heap.size w1 (w1.setCell (N9 p 3) u):=QI.setCell (p:=(N9 p 3)) ew.low _;refine⟨?_,dj.ap a1 n1,be.trans (Ap.of a1)⟩;rw[List.append_nil];refine⟨p,u,ps,rfl,ew.low,by rw[heap_set ew.blk];rfl,?_,ew.own,Oz.later (fun b A _=>hset b A.2.1) _ _ ew.kids⟩
 exact Q8 (I:=fun b=>b≠p) (fun b A _=>hset b A) (fun g hg e=>ew.own (by rw[hg,e])) ew.row
def aFi {c:Ctx}{w w1 aq:Og}{j d:Nat}{t:Tr}{fq:List Tr}{p g cap m:Nat}{u:Ot}{ps dI:List Nat}(ew:Open w.heap.size w1 t p u ps)(ac:Oz (fun b=>w.heap.size<=b/\b≠p/\u.ownBlock≠some b) w1 (t.kids++fq) (ps++dI))(dj:PI c w1 j d)(be:Ap c.R w.heap.size w w1)(n1:c.lo<=w.heap.size)
  (hown:aq.ownsRow w.heap.size 22 1 (.slice (some (N9 g 0)) m cap) m (ps.map N7++dI.map N7)) (aR:m=ps.length+dI.length) (dd:w1.grownBy aq u.ownBlock) (hg:u.ownBlock=some g\/g=w1.heap.size) :
  EV w.heap.size (aq.setCell (N9 p 3) (.slice (some (N9 g 0)) m cap)) (.mk t.kd t.tx t.n (t.kids++fq)) (N7 p) /\
  PI c (aq.setCell (N9 p 3) (.slice (some (N9 g 0)) m cap)) j d /\
  Ap c.R w.heap.size w (aq.setCell (N9 p 3) (.slice (some (N9 g 0)) m cap)):=by
 have hrow:∀ k,u.ownBlock=some k->w.heap.size<=k:=fun k E=>(P6 ew.row k E).2;have hgrow:Below w.heap.size w1 aq:=(Below.refl w.heap.size w1).grown dd be.size hrow;have hset:Below w.heap.size w1 (aq.setCell (N9 p 3) (.slice (some (N9 g 0)) m cap)):=hgrow.setCell (p:=(N9 p 3)) ew.low _;refine⟨?_,dj.ap hset n1,be.trans (Ap.of hset)⟩;exact ald ew.low ew.blk ew.own ac (by rw[List.map_append];exact hown) (by rw[aR,List.length_append]) dd hg
def aET:VH 348:=fun _ _=>by kernel_rfl
def aEU:VH 349:=fun _ _=>by kernel_rfl
def LV.many {B:Nat}{w:Og}{ap:List Tr}{v:Ot}(h:LV B w ap v)(cC:ap≠[]):∃ g cap dI,v=.slice (some (N9 g 0)) ap.length cap/\dI.length=ap.length/\Oz (From B) w ap dI/\(∀ j u,(dI.map N7)[j]? = some u->w.cell? (((N9 g 0):Addr).add j)=some u):=by
 obtain⟨⟨dI,aa,E⟩,_,_⟩:=h;have hl:=Oz.length _ _ E;have al:0<dI.length:=by rw[hl];exact List.length_pos_iff.2 cC
 have⟨g,cap,am,ai⟩:=WS aa al;refine⟨g,cap,dI,by rw[am,hl],hl,Oz.mono (fun b A _=>A.1) _ _ E,fun j u aS=>?_⟩;rw[Addr.add_mid,Nat.zero_add];rw[List.getElem?_map] at aS
 cases ag:dI[j]? with
 | none=>rw[ag] at aS;cases aS
 | some q=>
  rw[ag] at aS;obtain⟨aM,ao⟩:=List.getElem?_eq_some_iff.1 ag;rw[ai j aM,ao];exact aS
def at6 (dI:List Nat):∀ u ∈ dI.map N7,u.oneCell'=true:=by
 intro u aQ;obtain⟨q,_,rfl⟩:=List.mem_map.1 aQ;rfl
def Open.cap {B:Nat}{w:Og}{t:Tr}{p:Nat}{cV:Option Addr}{n uc:Nat}{ps:List Nat}(h:Open B w t p (.slice cV n uc) ps)(al:0<t.kids.length):n<=uc/\∃ g,cV=some (N9 g 0):=by
 have hl:=Oz.length _ _ h.kids
 rcases h.row.2 with ax|⟨g,cap,ck,am,_,_,h1,_⟩
 ·omega
 ·simp only[Value.slice.injEq] at am;obtain⟨rfl,rfl,rfl⟩:=am;exact⟨h1,g,rfl⟩
def am0 {c:Ctx}{F:Sv}(ah:FC c F)(hN:∃ k,FNx c.l k F)(D:FOk F):Does c 333 NV (TS c.l F):=by
 have jx:=Rh c.R 348;have Eb:=Rh c.R 349;intro w d i r ab aO h;have iw:=hide h.base.size;have dB:=h.base.ends;have dX:=hide h.base.len;have⟨i0,dW,dw,b8,cn⟩:=info_parts info22;have nJ:=hide hN;have z:=N8 (∀{G}(h:G:=by
 unfold TS at ab;have a':=hide ab;have dp:=hide aO;clear h ab aO;go_enter func333,ntmps333
 cases aa:Ur c.l F d i with
 | out=>
  exact Rl
 | bad er p=>
  have aj:=(ad4 ah hN D w d i _ rfl (by rw[aa];nofun) bA)
  exact aa1
 | ok cy bR=>
  have aj:=(ad4 ah hN D w d i _ rfl (by rw[aa];nofun) bA)
  have z:=N8 (∀{G}(h:G:=by
  intro e w1 al;obtain⟨⟨v1,rfl,p1,rfl,f9⟩,ba,ay⟩:=al;have eq:=(eZ.next ay);have bN:=ba;have ec:=(Sr f9 eZ.size);clear ay;clear hN D;go_wp2_with fail
  go_loopw [3] (fun v wr=>∃ k t j p,v=N7 p/\QJ c.l F d k t j=r/\PI c wr j d/\Ap c.R w.heap.size w wr/\PO (From w.heap.size) wr t p) (fun _ wr=>c.l.length - nxt c wr)
  case atStart=>exact⟨F.fuel,cy,bR,p1,rfl,a'.out,bN,eq,ec⟩
  case round=>
   obtain⟨k,t,j,aU,rfl,ag,ba,gx,eG⟩:=hrel
   cases k with
   | zero=>exact absurd ag.symm dp.out
   | succ k=>
    have GK:=ba;have oA:=ba;have ni:=ba.lt;have dA:=NZ dX;unfold QJ at ag;have a':=hide ag;have aj:=(RV c wr j d ba);clear ag
    by_cases ac:fx c.l j=arU
    ·rw[if_pos ac] at a';have sF:((fx c.l j).toList==[46])=true:=Vz (b:=arU) rfl ac;have az:=Wl dB ni ac Ol;clear ac;have z:=N8 (∀{G}(h:G:=by
     have fN:=j3.c1;have he:=j3.fz;have dE:=j3.rlt;have⟨o1,j7⟩:=stepped j3 jD az;replace eG:=hide (RX (c:=c) eG (Ap.setCell (R:=c.R) (Ap.refl _ _ _) (p:=(N9 c.R 1)) (Or.inr rfl) (NY ((j:Int)+1))) bW.out)
     cases aa:nameP c.l (j+1) with
     | out=>
      exact Rl
     | bad er p=>
      have aj:=(name_any c (dF.setCell (N9 c.R 1) (NY ((j:Int)+1))) (j+1) d o1);rw[aa] at aj a';simp only[O9] at a';clear aa;have z:=N8 (∀{G}(h:G:=by
      exact⟨rfl,Qc a'.out.symm (j7.next ay)⟩),G);exact XK
     | ok dO cr=>
      have kr:=((Vo (q:=True) dB az).2 _ _ aa).1;have aj:=(name_any c (dF.setCell (N9 c.R 1) (NY ((j:Int)+1))) (j+1) d o1);have z:=N8 (∀{G}(h:G:=by
      intro e w2 al;obtain⟨⟨v2,rfl,rfl⟩,ba,ay⟩:=al;have eg:=(j7.next ay);have bq:=ba;replace eG:=hide (RX eG ay bW.out);clear ay;have hlt2:=bq.lt;have aj:=(PG 36 dO (.slice (some (N9 w2.heap.size 0)) 1 1) (w2.alloc (.cells #[N7 aU] 22)) ⟨_,_,_,rfl⟩);go_wp2_with fail;refine cm aj ?_;rintro e e8 ⟨rfl,rfl⟩;have⟨cO,cP,db⟩:=made bq eg (Oz.cons eG Oz.nil) (by simp[maxLen]) #[N7 aU] rfl 1 rfl 36 dO (w2.heap.size+1) rfl;obtain⟨th,rE,ws⟩:=cO.nv;have gO:th=w2.heap.size+1:=by simpa[N7] using rE.symm
      subst gO;have jH:=ws;have cU:=cP;have iO:=db;clear rE;go_wp2
      go_roundw
      case rel=>exact⟨k,.mk 36 dO 0 [t],cr,w2.heap.size+1,by simp,a'.out,cU,iO,jH⟩
      case measure=>rw[UW cU,UW oA];omega),G);exact XM),G);exact ax8
    ·rw[if_neg ac] at a';have sF:((fx c.l j).toList==[46])=false:=U6 (b:=arU) rfl ac;clear ac
     by_cases hy:fx c.l j=RP
     ·rw[if_pos hy] at a';have Hq:((fx c.l j).toList==[40])=true:=Vz (b:=RP) rfl hy;clear hy;have z:=N8 (∀{G}(h:G:=by
      have aj:=(PG 35 Oh (.slice (some (N9 dF.heap.size 0)) 1 1) (dF.alloc (.cells #[N7 aU] 22)) ⟨_,_,_,rfl⟩);go_wp2_with fail;refine cm aj ?_;rintro e BL ⟨rfl,rfl⟩;have⟨cO,cP,db⟩:=made j3 jD (Oz.cons eG Oz.nil) (by simp[maxLen]) #[N7 aU] rfl 1 rfl 35 Oh (dF.heap.size+1) rfl;have⟨t0,jT⟩:=xE (.mk 35 Oh 0 [t]:Tr);rw[<-jT] at cO;have jG:Hid (t0.kids.length=1):=by
       show _=_
       rw[jT];rfl
      have pp:=hide jT;obtain⟨h',hp,BD,gO,en⟩:=cO.opens;have iF:h'=dF.heap.size+1:=by simpa[N7] using gO.symm
      rw[iF] at en;have jK:=cP;have kg:=db;clear gO jT;have⟨e8,im⟩:=xE ((dF.alloc (.cells #[N7 aU] 22)).alloc (O7 35 Oh 0 (.slice (some (N9 dF.heap.size 0)) 1 1)));rw[<-im] at en jK kg;rw[<-iF] at en;rw[show (dF.alloc (.cells #[N7 aU] 22)).heap.size=h' by rw[iF];simp,<-im]
      clear im iF;have z:=N8 (∀{G}(h:G:=by
      have⟨j9,cL⟩:=NZ nJ
      cases aa:Vm c.l RP TV (isVal c.l) (acZ c.l F d) F.fuel j with
      | out=>
       exact Rl
      | bad er p=>
       have z:=N8 (∀{G}(h:G:=by
       rw[aa] at aj a';simp only[O9] at a';have z:=N8 (∀{G}(h:G:=by
       refine wr2 4 10 (fun K D=>?_) fun K D=>?_
       ·go_simp;refine D _ _ ?_;clear D K;refine QF 10 fun K D=>?_;exact atH
       ·exact atH),G);exact aEu),G);exact aES
      | ok fq cr=>
       have z:=N8 (∀{G}(h:G:=by
       have kr:=((Zo (q:=False) dB ni Ol Ol (fun h=>h.elim) (fun bR _ h1=>aem cL h1 (fun h=>h.elim))).2 _ _ aa).1;rw[aa] at aj a';simp only[bind_ok] at a';have z:=N8 (∀{G}(h:G:=by
       refine wr2 4 10 (fun K D=>?_) fun K D=>?_
       ·go_simp;refine D _ _ ?_;clear D K;refine QF 10 fun K D=>?_;have z:=N8 (∀{G}(h:G:=by
        clear ay;exact aFg),G);exact aEv
       ·have z:=N8 (∀{G}(h:G:=by
        clear ay;refine D _ _ ?_;clear D K;refine QF 4 fun K D=>?_;go_simp;exact aFg),G);exact aEv),G);exact aEu),G);exact aES),G);exact aqf),G);exact ax8
     ·rw[if_neg hy] at a';have Hq:((fx c.l j).toList==[40])=false:=U6 (b:=RP) rfl hy;clear hy;have z:=N8 (∀{G}(h:G:=by
      go_wp2;go_ret;exact Tz a'.out.symm ⟨aU,rfl,eG⟩ j3 jD),G);exact ax8),G);exact XM),G);exact amL
def bind_assoc {α β γ:Type}(r:PR α)(f:α->Nat->PR β)(g:β->Nat->PR γ):(r.bind f).bind g=r.bind fun x i=>(f x i).bind g:=by cases r <;> rfl
def aHp {c:Ctx}{F:Sv}(ah:FC c F)(hN:∃ k,FNx c.l k F)(w:Og)(d i i0:Nat)(h:PI c w i d)(aR:O6 c.l abu i=.ok () i0)(er:Int)(p:Nat)(A:PV c.l F d i0=.bad er p):Oq 154 #[O1 c] w (P9 c w d (NV w.heap.size) (.bad er p)):=by
 have⟨s9,dW,dw,b8,cn⟩:=info_parts info22;have eZ:=(Ap.refl c.R w.heap.size w);have z:=N8 (∀{G}(h:G:=by
 have xk:=(eZ.next ay);have aj:=(QL ah hN ef d i0 _ rfl (by rw[A];nofun) ba)
 rw[A] at aj;have z:=N8 (∀{G}(h:G:=by
 exact⟨rfl,Qc rfl (xk.next ay)⟩),G);exact XK),G);exact aEV
section
variable {c:Ctx} {F:Sv} (ah:FC c F) (hN:∃ k,FNx c.l k F) (w:Og) (d i i0:Nat) (h:PI c w i d) (aR:O6 c.l abu i=.ok () i0) (b:Tr) (a8:Nat) (A:PV c.l F d i0=.ok b a8)
include c F ah hN w d i i0 h aR b a8 A
def aus (ai:fx c.l a8≠VA)(aF:fx c.l a8≠Ru):Oq 154 #[O1 c] w (P9 c w d (NV w.heap.size) (.bad 3 (OX c.l a8).pl)):=by
 have⟨s9,dW,dw,b8,cn⟩:=info_parts info22;have eZ:=(Ap.refl c.R w.heap.size w);have bW:=hide h.rlt;have z:=N8 (∀{G}(h:G:=by
 have bL:=N8 (∀{G}(h:G:=by
 have bL:=N8 (∀{G}(h:G:=by
 have⟨cO,cP,db⟩:=made ba rY (Oz.cons rB Oz.nil) (by simp[maxLen]) #[N7 bc] rfl 1 rfl 12 Oh (fs.heap.size+1) rfl;have bL:=N8 (∀{G}(h:G:=by
 have z:=N8 (∀{G}(h:G:=by
 rw[<-im] at en cP db;rw[<-iF] at en;have z:=N8 (∀{G}(h:G:=by
 have z:=N8 (∀{G}(h:G:=by
 have aj:=(TA c Ru aD a8 d fR aF);go_wp2_with fail;refine cm aj ?_;rintro e dF ⟨rfl,A⟩;have j3:=(fR.later A);have jD:=(e3.next (Ap.of A));replace en:=hide (Open.later en (Ap.of A) bW.out);clear A;have z:=N8 (∀{G}(h:G:=by
 rw[jG.out] at lp;have aj:=(Vb c 3 dF a8 d j3);go_wp2_with fail;refine cm aj ?_;rintro e kH ⟨rfl,mz⟩;exact⟨rfl,Qc rfl (jD.next (Ap.of mz))⟩),G);exact aqf),G);exact aEG),G);exact atO),G);exact atM),G);exact ztt),G);exact ztu),G);exact aD7),G);exact aEV
def ayA (ai:fx c.l a8≠VA)(aF:fx c.l a8=Ru)(b2:Tr)(i2:Nat)(aE:PV c.l F d (a8+1)=.ok b2 i2):Oq 154 #[O1 c] w (P9 c w d (NV w.heap.size) (.ok (.mk 12 Oh 0 [b,.mk 14 Oh 0 [b2]]) i2)):=by
 have iw:=hide h.base.size;have z:=N8 (∀{G}(h:G:=by
 have ci:=en;have jK:=cP;have kg:=db;have z:=N8 (∀{G}(h:G:=by
 rw[<-im] at ci jK kg;rw[<-iF] at ci;have z:=N8 (∀{G}(h:G:=by
 have aj:=(TA c VA e8 a8 d jK ai);go_wp2_with fail;refine cm aj ?_;rintro e aD ⟨rfl,A⟩;have fR:=(jK.later A);have e3:=(kg.next (Ap.of A));replace ci:=(Open.later ci (Ap.of A) bW.out);clear A;have aj:=(RU c Ru aD a8 d fR aF Ol);go_wp2_with fail;refine cm aj ?_;rintro e dF ⟨rfl,ba,ay⟩;have j3:=ba;have jD:=(e3.next ay);replace ci:=(Open.later ci (ay) bW.out);have jE:=(QL ah hN dF.drew d (a8+1) _ rfl (by rw[aE];nofun) j3.drew)
 rw[aE] at jE;have z:=N8 (∀{G}(h:G:=by
 go_wp2_with fail;refine ace (H:=fun aD cw=>Ap c.R dF.heap.size dF aD/\PI c aD i2 d/\PO (From dF.heap.size) aD b2 cw) (G:=?G1) (fun dD=>?_) ?_;rotate_left
 ·have z:=N8 (∀{G}(h:G:=by
  refine wt 5 (O1 c) ?_;refine wr2 4 6 (fun K D=>?_) fun K D=>?_
  ·have z:=N8 (∀{G}(h:G:=by
   have z:=N8 (∀{G}(h:G:=by
   have dr:=((Ap.refl c.R dF.heap.size dF).drew).next ay;have kP:Hid (Ap c.R dF.heap.size dF aD/\PI c aD i2 d/\PO (From dF.heap.size) aD b2 cw):=⟨dr,ba,hx⟩;exact aE9),G);exact amM),G);exact atW
  ·go_simp;refine cm jE ?_;have z:=N8 (∀{G}(h:G:=by
   have dr:=((Ap.refl c.R dF.heap.size dF).drew).next ay;have kP:Hid (Ap c.R dF.heap.size dF aD/\PI c aD i2 d/\PO (From dF.heap.size) aD b2 cw):=⟨dr,ba,hx⟩;exact aE7),G);exact amM),G);exact aar
 intro aD cw bJ;obtain⟨dr,ba,hx⟩:=bJ;have e3:=(jD.next dr);have fR:=ba;have eA:=(Open.later ci dr bW.out);obtain⟨gu,gv,hD⟩:=eA.cell;have pB:aU<aD.heap.size+1:=Oe;have pC:aU<aD.heap.size+1+1:=Oe;have⟨bT,cY,hA⟩:=made (w:=dF) fR dr (Oz.cons hx Oz.nil) (by simp[maxLen]) #[N7 cw] rfl 1 rfl 14 Oh (aD.heap.size+1) rfl;have d1:Oo aD ((aD.alloc (.cells #[N7 cw] 22)).alloc (O7 14 Oh 0 (.slice (some (N9 aD.heap.size 0)) 1 1))):=PE.alloc OW _
 have⟨wd,e7⟩:=xE ((aD.alloc (.cells #[N7 cw] 22)).alloc (O7 14 Oh 0 (.slice (some (N9 aD.heap.size 0)) 1 1)));have ag:(aD.alloc (.cells #[N7 cw] 22)).heap.size=aD.heap.size+1:=by simp
 have⟨q,iG⟩:=xE (aD.heap.size+1);obtain⟨h',mG,ik⟩:=bT.nv;have gO:h'=aD.heap.size+1:=by simpa[N7] using mG.symm
 subst gO;have gQ:wd.heap.size=q+1:=by rw[e7,iG];simp
 rw[<-e7] at ik cY hA d1
 try rw[ag]
 rw[<-iG] at ik
 try rw[<-iG]
 try rw[<-e7]
 have ie:=(Open.later eA (Ap.of d1) bW.out);have jX:=(e3.next (Ap.of d1));have qc:=(Open.apart ci jD.size hA bW.out (Oz.cons ik Oz.nil));obtain⟨mu,mv,py⟩:=ie.cell;clear mG e7 iG ag gu gv hD pB pC;have hlen:=Oz.length _ _ ie.kids;have hown:=ie.row;rw[hlen] at hown;have da:=jX.size;have cI:t0.kids.length<=3:=by rw[jG.out];decide
 clear hlen;refine QF 10 fun K D=>?_;refine step_append_lies _ rfl _ _ 38 rfl w.heap.size 22 s9 QS 1 8 underlying38 dW dw b8 cn rfl Ol _ _ _ rfl (hown.alloc _) (N9 (q+1) 0) 1 1 [N7 q] rfl rfl (Rq wd q _ gQ) (one_one q) Ol (by unfold maxLen;omega) Oe QY (wd.heap.size+1) OW ?_
 clear gQ;intro g cap aq hown3 eU c9 _;refine D _ _ ?_;clear D K;have gD:=hide (YQ ie qc cY jX iw.out hown3 eU c9);have gi:aq.cell? (N9 aU 3)=wd.cell? (N9 aU 3)/\aq.frozen? (N9 aU 3)=wd.frozen? (N9 aU 3):=ap4
 obtain⟨gM,gN⟩:=gi;rw[mu] at gM;rw[mv 3] at gN;clear c9;refine wt 11 (N7 aU) ?_;refine wt 12 (Oy aU 3) ?_;refine QF 13 fun K D=>?_;go_simp;refine D _ _ ?_;clear D K gM gN mu mv py;refine wpAny_done Pe ?_ _;go_simp;have⟨cO,cP,db⟩:=NZ gD;obtain⟨kF,eN⟩:∃ qU:Tr,qU=.mk t0.kd t0.tx t0.n (t0.kids++[.mk 14 Oh 0 [b2]]):=⟨_,rfl⟩;rw[<-eN] at cO;have q3:Hid (kF.kids.length=t0.kids.length+1):=by
  show _=_
  rw[eN];simp[Tr.kids]
 have vv:=hide eN;obtain⟨pz,uz,yA,iU,hopz⟩:=cO.opens;have mH:pz=aU:=by simpa[N7] using iU.symm
 rw[mH] at hopz;have⟨bD,fH⟩:=xE ((aq.setCell (N9 aU 3) (.slice (some (N9 g 0)) (t0.kids.length+1) cap)));rw[<-fH] at hopz cP db;rw[<-fH];have ci:=hopz;clear iU fH mH eN;obtain⟨lp,pJ,dE⟩:=ci.cell;obtain⟨cV,uc,l1⟩:=ci.shape;subst l1;have eK:kF.kids.length=2:=by rw[q3.out,jG.out]
 rw[eK] at lp;clear eK;go_wp2;go_ret;have aI:=NZ pp;have aw:=NZ vv;have n4:=ci.ev.nv;rw[aw,aI] at n4;exact Tz rfl n4 cP db),G);exact aqc),G);exact atO),G);exact atM),G);exact zsj
def am1 (ai:fx c.l a8≠VA)(aF:fx c.l a8=Ru)(er:Int)(p:Nat)(aE:PV c.l F d (a8+1)=.bad er p):Oq 154 #[O1 c] w (P9 c w d (NV w.heap.size) (.bad er p)):=by
 have z:=N8 (∀{G}(h:G:=by
 have z:=N8 (∀{G}(h:G:=by
 rw[<-im] at en cP db;rw[<-iF] at en;have z:=N8 (∀{G}(h:G:=by
 have z:=N8 (∀{G}(h:G:=by
 have aj:=(RU c Ru aD a8 d fR aF Ol);go_wp2_with fail;refine cm aj ?_;rintro e dF ⟨rfl,ba,ay⟩;have jD:=(e3.next ay);replace en:=hide (Open.later en (ay) bW.out);have jE:=(QL ah hN dF.drew d (a8+1) _ rfl (by rw[aE];nofun) ba.drew)
 rw[aE] at jE;have z:=N8 (∀{G}(h:G:=by
 go_wp2_with fail;have z:=N8 (∀{G}(h:G:=by
 refine wt 5 (O1 c) ?_;refine wr2 4 6 (fun K D=>?_) fun K D=>?_
 ·have z:=N8 (∀{G}(h:G:=by
  intro e aD al;obtain⟨rfl,ay⟩:=al;exact⟨rfl,Qc rfl (jD.drew.next ay)⟩),G);exact atW
 ·go_simp;refine cm jE ?_;intro e aD al;obtain⟨rfl,ay⟩:=al;exact⟨rfl,Qc rfl (jD.drew.next ay)⟩),G);exact aar),G);exact aqf),G);exact aEG),G);exact atO),G);exact atM),G);exact zsj
def abf (ai:fx c.l a8=VA)(er:Int)(p:Nat)(ag:O6 c.l RP (a8+1)=.bad er p\/∃ i2,O6 c.l RP (a8+1)=.ok () i2/\(nameP c.l i2=.bad er p\/∃ s i3,nameP c.l i2=.ok s i3/\(O6 c.l TV i3=.bad er p\/∃ i4,O6 c.l TV i3=.ok () i4/\PV c.l F d i4=.bad er p))):Oq 154 #[O1 c] w (P9 c w d (NV w.heap.size) (.bad er p)):=by
 have bj:=hide ag;clear ag;have z:=N8 (∀{G}(h:G:=by
 have z:=N8 (∀{G}(h:G:=by
 rw[<-im] at en cP db;rw[<-iF] at en;have z:=N8 (∀{G}(h:G:=by
 have aj:=(RU c VA e8 a8 d cP ai Ol);go_wp2_with fail;refine cm aj ?_;rintro e aD ⟨rfl,ba,ay⟩;have fR:=ba;have e3:=(db.next ay);replace en:=hide (Open.later en (ay) bW.out);have aj:=(O5 c RP aD (a8+1) d fR Ol)
 rcases bj.out with U|⟨i2,U,ag⟩
 ·rw[U] at aj;have z:=N8 (∀{G}(h:G:=by
  exact⟨rfl,Qc rfl (e3.next ay)⟩),G);exact XK
 have bj:=hide ag;clear ag;rw[U] at aj;go_wp2_with fail;refine cm aj ?_;intro e wd al;obtain⟨⟨KG,rfl,rfl⟩,ba,ay⟩:=al;have oB:=ba;have jX:=(e3.next ay);replace en:=hide (Open.later en (ay) bW.out);have aj:=(name_any c wd i2 d oB)
 rcases bj.out with av|⟨s,i3,av,ag⟩
 ·rw[av] at aj;have z:=N8 (∀{G}(h:G:=by
  exact⟨rfl,Qc rfl (jX.next ay)⟩),G);exact XK
 have bj:=hide ag;clear ag;rw[av] at aj;go_wp2_with fail;refine cm aj ?_;intro e BK al;obtain⟨⟨KH,rfl,rfl⟩,ba,ay⟩:=al;have zr:=ba;have xl:=(jX.next ay);replace en:=hide (Open.later en (ay) bW.out);have aj:=(O5 c TV BK i3 d zr Ol)
 rcases bj.out with aN|⟨i4,aN,bx⟩
 ·rw[aN] at aj;have z:=N8 (∀{G}(h:G:=by
  exact⟨rfl,Qc rfl (xl.next ay)⟩),G);exact XK
 rw[aN] at aj;go_wp2_with fail;refine cm aj ?_;intro e jW al;obtain⟨⟨KI,rfl,rfl⟩,ba,ay⟩:=al;have qY:=(xl.next ay);replace en:=hide (Open.later en (ay) bW.out);have gc:=(QL ah hN jW.drew d i4 _ rfl (by rw[bx];nofun) ba.drew)
 rw[bx] at gc;have z:=N8 (∀{G}(h:G:=by
 go_wp2_with fail;have z:=N8 (∀{G}(h:G:=by
 refine wt 5 (Oj s) ?_;refine wt 6 (O1 c) ?_;refine wr2 4 7 (fun K D=>?_) fun K D=>?_
 ·go_simp;refine D _ _ ?_;clear D K;refine QF 7 fun K D=>?_;exact aD6
 ·exact aD6),G);exact aar),G);exact aqf),G);exact atO),G);exact atM),G);exact zsj
def aqH (ai:fx c.l a8=VA)(i2:Nat)(U:O6 c.l RP (a8+1)=.ok () i2)(s:Ou)(i3:Nat)(av:nameP c.l i2=.ok s i3)(i4:Nat)(aN:O6 c.l TV i3=.ok () i4)(b2:Tr)(i5:Nat)(bx:PV c.l F d i4=.ok b2 i5)(aF:fx c.l i5≠Ru):Oq 154 #[O1 c] w (P9 c w d (NV w.heap.size) (.ok (.mk 12 Oh 0 [b,.mk 13 s 0 [b2]]) i5)):=by
 have iw:=hide h.base.size;have z:=N8 (∀{G}(h:G:=by
 have z:=N8 (∀{G}(h:G:=by
 refine ace (H:=fun aD cw=>Ap c.R jW.heap.size jW aD/\PI c aD i5 d/\PO (From jW.heap.size) aD b2 cw) (G:=?G2) (fun dD=>?_) ?_;rotate_left
 ·exact ayl
 intro aD cw bJ;obtain⟨dr,ba,hx⟩:=bJ;have e3:=(qY.next dr);have fR:=ba;have eA:=(Open.later ci dr bW.out);obtain⟨gu,gv,hD⟩:=eA.cell;have pB:aU<aD.heap.size+1:=Oe;have pC:aU<aD.heap.size+1+1:=Oe;have⟨bT,cY,hA⟩:=made (w:=jW) fR dr (Oz.cons hx Oz.nil) (by simp[maxLen]) #[N7 cw] rfl 1 rfl 13 s (aD.heap.size+1) rfl;have d1:Oo aD ((aD.alloc (.cells #[N7 cw] 22)).alloc (O7 13 s 0 (.slice (some (N9 aD.heap.size 0)) 1 1))):=PE.alloc OW _
 have⟨wd,e7⟩:=xE ((aD.alloc (.cells #[N7 cw] 22)).alloc (O7 13 s 0 (.slice (some (N9 aD.heap.size 0)) 1 1)));have ag:(aD.alloc (.cells #[N7 cw] 22)).heap.size=aD.heap.size+1:=by simp
 have⟨q,iG⟩:=xE (aD.heap.size+1);obtain⟨h',mG,ik⟩:=bT.nv;have gO:h'=aD.heap.size+1:=by simpa[N7] using mG.symm
 subst gO;have gQ:wd.heap.size=q+1:=by rw[e7,iG];simp
 rw[<-e7] at ik cY hA d1
 try rw[ag]
 rw[<-iG] at ik
 try rw[<-iG]
 try rw[<-e7]
 have ie:=(Open.later eA (Ap.of d1) bW.out);have jX:=(e3.next (Ap.of d1));have oB:=cY;have qc:=(Open.apart ci qY.size hA bW.out (Oz.cons ik Oz.nil));obtain⟨mu,mv,py⟩:=ie.cell;clear mG e7 iG ag gu gv hD pB pC;have hlen:=Oz.length _ _ ie.kids;have hown:=ie.row;rw[hlen] at hown;have da:=jX.size;have cI:t0.kids.length<=3:=by rw[jG.out];decide
 clear hlen;refine QF 11 fun K D=>?_;refine step_append_lies _ rfl _ _ 38 rfl w.heap.size 22 s9 QS 1 8 underlying38 dW dw b8 cn rfl Ol _ _ _ rfl (hown.alloc _) (N9 (q+1) 0) 1 1 [N7 q] rfl rfl (Rq wd q _ gQ) (one_one q) Ol (by unfold maxLen;omega) Oe QY (wd.heap.size+1) OW ?_
 clear gQ;intro g cap aq hown3 eU c9 _;refine D _ _ ?_;clear D K;have gD:=hide (YQ ie qc oB jX iw.out hown3 eU c9);have gi:aq.cell? (N9 aU 3)=wd.cell? (N9 aU 3)/\aq.frozen? (N9 aU 3)=wd.frozen? (N9 aU 3):=ap4
 obtain⟨gM,gN⟩:=gi;rw[mu] at gM;rw[mv 3] at gN;clear c9;refine wt 12 (N7 aU) ?_;refine wt 13 (Oy aU 3) ?_;refine QF 14 fun K D=>?_;go_simp;refine D _ _ ?_;clear D K gM gN mu mv py;refine wpAny_done Pe ?_ _;go_simp;have⟨cO,cP,db⟩:=NZ gD;obtain⟨kF,eN⟩:∃ qU:Tr,qU=.mk t0.kd t0.tx t0.n (t0.kids++[.mk 13 s 0 [b2]]):=⟨_,rfl⟩;rw[<-eN] at cO;have q3:Hid (kF.kids.length=t0.kids.length+1):=by
  show _=_
  rw[eN];simp[Tr.kids]
 have vv:=hide eN;obtain⟨pz,uz,yA,iU,hopz⟩:=cO.opens;have mH:pz=aU:=by simpa[N7] using iU.symm
 rw[mH] at hopz;have⟨bD,fH⟩:=xE ((aq.setCell (N9 aU 3) (.slice (some (N9 g 0)) (t0.kids.length+1) cap)));rw[<-fH] at hopz cP db;rw[<-fH];have ci:=hopz;clear iU fH mH eN;have aj:=(TA c Ru bD i5 d cP aF);go_wp2_with fail;refine cm aj ?_;rintro e wz ⟨rfl,A⟩;have zs:=(cP.later A);have r0:=(db.next (Ap.of A));replace ci:=(Open.later ci (Ap.of A) bW.out);clear A;obtain⟨lp,pJ,dE⟩:=ci.cell;obtain⟨cV,uc,l1⟩:=ci.shape;subst l1;have eK:kF.kids.length=2:=by rw[q3.out,jG.out]
 rw[eK] at lp;clear eK;go_wp2;go_ret;have aI:=NZ pp;have aw:=NZ vv;have n4:=ci.ev.nv;rw[aw,aI] at n4;exact Tz rfl n4 zs r0),G);exact zsx),G);exact zsj
