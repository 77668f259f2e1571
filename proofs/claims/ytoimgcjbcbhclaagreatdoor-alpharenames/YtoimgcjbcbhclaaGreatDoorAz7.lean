import Derived.Test.YtoimgcjbcbhclaaGreatDoorAz5
import Derived.Deep.MidRow
import Derived.Laws.AppendOwnNone
import Derived.Recover
import Derived.Defers
set_option maxRecDepth 100000
set_option maxHeartbeats 0
set_option linter.all false
namespace Go.Proofs.YtoimgcjbcbhclaaGreatDoor
open Go.RowKit Go.Proofs.Tryz
def UC:Array LY:=(YU.flatMap λe=>[LQ e.tx,LJ e.kd,LJ e.parts,LJ e.str]).toArray
def avH:UC.size=56:=by decide +kernel
def aEu (k:Nat)(N:k<14)(L:LK):(Instr.index 190 (.agg UC) (LJ (k:Int))).run prog L=.ok (sgV (YU.getD k ⟨LH,0,0,0⟩)) L:=by
 have h:k=0\/k=1\/k=2\/k=3\/k=4\/k=5\/k=6\/k=7\/k=8\/k=9\/k=10\/k=11\/k=12\/k=13:=LM
 rcases h with rfl|rfl|rfl|rfl|rfl|rfl|rfl|rfl|rfl|rfl|rfl|rfl|rfl|rfl <;> (show _=_;kernel_rfl)
def sgL (j:Nat):List (LW × LY):=(YU.take j).map λe=>(e.tx,sgV e)
def aj2 {j:Nat}(aT:j<=14):(sgL j).length=j:=by
 unfold sgL;rw[zalag,zalbe];have:YU.length=14:=rfl;omega
def aoy {j:Nat}(aT:j<14):sgL (j+1)=sgL j++[((YU.getD j ⟨LH,0,0,0⟩).tx,sgV (YU.getD j ⟨LH,0,0,0⟩))]:=by
 have h:j=0\/j=1\/j=2\/j=3\/j=4\/j=5\/j=6\/j=7\/j=8\/j=9\/j=10\/j=11\/j=12\/j=13:=LM
 rcases h with rfl|rfl|rfl|rfl|rfl|rfl|rfl|rfl|rfl|rfl|rfl|rfl|rfl|rfl <;> rfl
def arD {j:Nat}(aT:j<14):(sgL j).find? (λe=>decide ((YU.getD j ⟨LH,0,0,0⟩).tx=e.1))=none:=by
 have key:∀ j,j<14->((YU.take j).map (·.tx)).find? (λe=>decide ((YU.getD j ⟨LH,0,0,0⟩).tx=e))=none:=by decide +kernel
 have:=key j aT;unfold sgL;rw[zalfk] at this ⊢;simpa[zalex] using this
def aah (w:LK)(t:TypeId)(fr:Nat × Nat)(hg:w.heap[2]? = some (.cells UC t fr)) :
  MC 162 #[] w λe w'=>e=MN (.map (some w.heap.size))/\w'.heap[w.heap.size]? = some (.map aju 14)/\LX w w':=by
 have f3:Hid ((w.alloc (.map #[] 0)).heap[2]? = some (.cells UC t fr)):=(zalaa w _ 2 (lt_of_heap hg)).trans hg;obtain⟨bl,f7⟩:∃ bl,bl=UC:=⟨_,rfl⟩;have ki:∀ k:Nat,k<14->∀ L,(Instr.index 190 (.agg bl) (LJ (k:Int))).run prog L=.ok (sgV (YU.getD k ⟨LH,0,0,0⟩)) L:=by rw[f7];exact aEu
 have bK:bl.size=56:=by rw[f7];exact avH
 rw[<-f7] at f3;have l7:=hide ki;have p9:=hide bK;have r5:=mkMap 199;clear hg ki f7 bK;go_enter func162,ntmps162
 go_wp2_with (refine zalgh rfl 190 _ rfl 2 rfl t bl fr _ f3.out underlying190 rfl (by rw[p9.out];kernel_rfl) ?_)
 go_loopw [6] (λi wr=>∃ j:Nat,j<=14/\i=LJ j/\wr.heap[w.heap.size]? = some (.map (mapOf (sgL j)) j)/\LX w wr) (λi _=>14 - (intOf i).toNat)
 case atStart=>exact⟨0,zalae _,rfl,LP _ _,Qn⟩
 case round=>
  obtain⟨j,aT,rfl,aA,D⟩:=hrel;have hZ:=hide aA;have aV:=hide D;clear aA
  by_cases aC:j<14
  ·have dU:=Lu l7 j aC;obtain⟨x,af⟩:∃ x,x=YU.getD j ⟨LH,0,0,0⟩:=⟨_,rfl⟩;have r4:(wr.alloc (.cells #[LQ x.tx,LJ x.kd,LJ x.parts,LJ x.str] 189)).heap[w.heap.size]? = some (.map (mapOf (sgL j)) (sgL j).length):=by
    rw[aj2 LM];exact(zalaa _ _ _ (lt_of_heap hZ.out)).trans hZ.out
   have pj:=Wj 199 189 w.heap.size (sgL j) x.tx (sgV x) _ underlying199 r4 (by rw[af];exact arD aC)
   rw[<-af] at dU;have cy:=hide af;simp only[sgV] at dU pj;clear af r4;go_wp2
   go_roundw
   case rel=>
    refine⟨j+1,by omega,by go_num,?_,Wi (aV.out.alloc aV.out.size _) Nh⟩;rw[TY (by simp;have:=aV.out.size;omega),aoy aC,<-cy.out,aj2 LM]
    rfl
   case measure=>simp[intOf];omega
  ·have Hk:j=14:=LM;subst Hk;go_wp2;go_ret;exact⟨rfl,hZ.out,aV.out⟩
def aei (L:LK)(m:Nat)(a b:Obj):NS (NS L m a) m b=NS L m b:=by simp[NS]
def upd (cE fF:TypeId)(m:Nat)(L:LK)(l:List (LW × LY))(s:LW)(v:LY)(ce:prog.underlying cE=some (.map 9 fF))(aA:m<L.heap.size)(av:l.find? (λe=>decide (s=e.1))=none) :
  (Instr.mapUpdate cE (.map (some m)) (LQ s) v).run prog (NS L m (.map (mapOf l) l.length))=.ok () (NS L m (.map (mapOf (l++[(s,v)])) (l.length+1))):=by
 rw[Wj cE fF m l s v _ ce (TY aA) av,aei]
def aEv (cE fF:TypeId)(m:Nat)(L:LK)(s:LW)(v:LY)(ce:prog.underlying cE=some (.map 9 fF))(aA:L.heap[m]? = some (.map #[] 0)) :
  (Instr.mapUpdate cE (.map (some m)) (LQ s) v).run prog L=.ok () (NS L m (.map (mapOf [(s,v)]) 1)):=
 Wj cE fF m [] s v L ce aA rfl
def agD {w w1 X Y Z V:LK}{l:List Tk}{tb cap R mS:Nat}{cj:Array LY}(a3:Ends l)(aJ:0<l.length)(ab:l.length<=3001)(aH:w.heap[tb]? = some (NK cj 138))(hcap:l.length<=cap/\cap<=maxLen/\cj.size=cap * 4/\cj.toList.take (l.length * 4)=OI l)
  (a2:∃ t fr,w.heap[3]? = some (.cells Ue t fr)) (eb:w1.heap[mS]? = some (.map aju 14)) (J1:mS=w.heap.size) (D:LX w w1) (a7:R=w1.heap.size)
  (aB:X=NS ((w1.alloc (.cells #[.slice (some (LD tb 0)) l.length cap,LJ 0,LJ 0,.map (some mS),.map none,.map none] 203)).alloc (.map #[] 0)) (R+1) (.map (ae8 R) 12))
  (dC:Y=X.setCell (LD R 4) (.map (some (R+1)))) (qo:Z=NS (Y.alloc (.map #[] 0)) (R+2) (.map (ajv R) 3)) (e6:V=Z.setCell (LD R 5) (.map (some (R+2)))) :
  Ol ⟨R,l,tb,cap,mS,R+1,R+2,R+3⟩ V 0 0/\LX w V:=by
 have bK:=D.size;have Io:=lt_of_heap aH;obtain⟨Dy,xy,a2⟩:=a2;have Ig:=lt_of_heap a2;have KM:=lt_of_heap eb;have Iv:X.heap.size=R+2:=by rw[aB,Td,a7];simp
 have Iw:Y.heap.size=R+2:=by rw[dC,zales,Iv]
 have Ix:Z.heap.size=R+3:=by rw[qo,Td];simp[Iw]
 have K2:V.heap.size=R+3:=by rw[e6,zales,Ix]
 have zL:∀ b,b<R->X.heap[b]? = w1.heap[b]?:=λb D=>by
  rw[aB,OH LM,zalaa _ _ b OM,zalaa _ _ b LM]
 have sv:X.heap[R]? = some (NK #[.slice (some (LD tb 0)) l.length cap,LJ 0,LJ 0,.map (some mS),.map none,.map none] 203):=by
  rw[aB,OH LM,zalaa _ _ R OM,a7];exact LP _ _
 have ur:X.heap[R+1]? = some (.map (ae8 R) 12):=by rw[aB,TY OM]
 have vl:∀ b,b<R->V.heap[b]? = w1.heap[b]?:=λb D=>by
  rw[e6,zalap Z (LD R 5) _ b OM,qo,OH LM,zalaa _ _ b LM,dC,zalap X (LD R 4) _ b OM];exact zL b D
 have uu:Z.heap[R]? = some (NK #[.slice (some (LD tb 0)) l.length cap,LJ 0,LJ 0,.map (some mS),.map (some (R+1)),.map none] 203):=by
  rw[qo,OH LM,zalaa _ _ R LM,dC,heap_set sv];rfl
 have IC:V.heap[R]? = some (NK #[.slice (some (LD tb 0)) l.length cap,LJ 0,LJ 0,.map (some mS),.map (some (R+1)),.map (some (R+2))] 203):=by
  rw[e6,heap_set uu];rfl
 have ID:V.heap[R+1]? = some (.map (ae8 R) 12):=by
  rw[e6,zalap Z (LD R 5) _ (R+1) MP,qo,OH LM,zalaa _ _ (R+1) LM,dC,zalap X (LD R 4) _ (R+1) MP];exact ur
 have IE:V.heap[R+2]? = some (.map (ajv R) 3):=by
  rw[e6,zalap Z (LD R 5) _ (R+2) MP,qo,TY OM]
 have lw:∀ b,b<w.heap.size->V.heap[b]? = w.heap[b]?:=λb h=>(vl b LM).trans (D.block b h);refine⟨⟨⟨a3,⟨cj,(lw tb Io).trans aH,hcap⟩,?_,(vl mS LM).trans eb,?_,ID,?_,IE,?_,ab,⟨Dy,xy,(lw 3 Ig).trans a2⟩,?_,?_,?_⟩,IC,aJ,by decide⟩,?_⟩
 ·show tb≠R;omega
 ·show mS≠R;omega
 ·show R+1≠R;omega
 ·show R+2≠R;omega
 ·show 3≠R;omega
 ·show tb<R+3/\mS<R+3/\R+1<R+3/\R+2<R+3/\3<R+3/\R<R+3;omega
 ·show R+3<=V.heap.size;omega
 ·have FO:LX w X:=by rw[aB];exact Wi ((D.alloc bK _).alloc OM _) LM
  have Bd:LX w Y:=by rw[dC];exact FO.setCell (p:=(LD R 4)) (by show w.heap.size<=R;omega) _
  have FP:LX w Z:=by rw[qo];exact Wi (Bd.alloc Bd.size _) LM
  rw[e6];exact FP.setCell (p:=(LD R 5)) (by show w.heap.size<=R;omega) _
def acd (w:LK)(l:List Tk)(tb cap:Nat)(cj:Array LY)(a3:Ends l)(aJ:0<l.length)(ab:l.length<=3001)(aH:w.heap[tb]? = some (NK cj 138))(hcap:l.length<=cap/\cap<=maxLen/\cj.size=cap * 4/\cj.toList.take (l.length * 4)=OI l)
  (a2:∃ t fr,w.heap[3]? = some (.cells Ue t fr)) (g5:∃ t fr,w.heap[2]? = some (.cells UC t fr)) :
  MC 102 #[.slice (some (LD tb 0)) l.length cap] w λe w'=>∃ c:Ctx,e=MN (Nz c)/\c.l=l/\w.heap.size<=c.R/\Ol c w' 0 0/\LX w w':=by
 obtain⟨lX,Ga,g5⟩:=g5;have ag:=hide (aah w lX Ga g5);have Ah:=λ(w1 X Y Z V:LK) (R:Nat)=>agD (w:=w) (w1:=w1) (X:=X) (Y:=Y) (Z:=Z) (V:=V) (R:=R) (mS:=w.heap.size) a3 aJ ab aH hcap a2;have Ew:=hide Ah;have r5:=mkMap 201;clear g5 Ah aJ ab aH hcap a2;go_enter func102,ntmps102;go_wp2_with fail;refine NJ ?_;rintro e w1 ⟨rfl,iR,bz⟩;have fL:=hide iR;have ba:=hide bz;clear iR
 have gP:((w1.alloc (.cells #[.slice (some (LD tb 0)) l.length cap,LJ 0,LJ 0,.map (some w.heap.size),.map none,.map none] 203)).alloc (.map #[] 0)).heap.size=w1.heap.size+2:=by simp
 have m':((w1.alloc (.cells #[.slice (some (LD tb 0)) l.length cap,LJ 0,LJ 0,.map (some w.heap.size),.map none,.map none] 203)).alloc (.map #[] 0)).heap[w1.heap.size+1]? = some (.map #[] 0):=by
  have:=LP (w1.alloc (.cells #[.slice (some (LD tb 0)) l.length cap,LJ 0,LJ 0,.map (some w.heap.size),.map none,.map none] 203)) (.map #[] 0);simpa using this
 have Dw:(w1.alloc (.cells #[.slice (some (LD tb 0)) l.length cap,LJ 0,LJ 0,.map (some w.heap.size),.map none,.map none] 203)).heap[w1.heap.size]? = some (.cells #[.slice (some (LD tb 0)) l.length cap,LJ 0,LJ 0,.map (some w.heap.size),.map none,.map none] 203):=LP _ _;obtain⟨kR,x0⟩:∃ X,X=NS ((w1.alloc (.cells #[.slice (some (LD tb 0)) l.length cap,LJ 0,LJ 0,.map (some w.heap.size),.map none,.map none] 203)).alloc (.map #[] 0)) (w1.heap.size+1) (.map (mapOf [(Oo,.func (.func 163) #[Mc w1.heap.size 0] #[])]) 1):=⟨_,rfl⟩
 have u1:(Instr.mapUpdate 201 (.map (some (w1.heap.size+1))) (LQ Oo) (.func (.func 163) #[Mc w1.heap.size 0] #[])).run prog ((w1.alloc (.cells #[.slice (some (LD tb 0)) l.length cap,LJ 0,LJ 0,.map (some w.heap.size),.map none,.map none] 203)).alloc (.map #[] 0))=.ok () kR:=by rw[x0];exact aEv 201 261 (w1.heap.size+1) _ _ _ zalch m'
 obtain⟨xn,x4⟩:∃ X,X=NS ((w1.alloc (.cells #[.slice (some (LD tb 0)) l.length cap,LJ 0,LJ 0,.map (some w.heap.size),.map none,.map none] 203)).alloc (.map #[] 0)) (w1.heap.size+1) (.map (mapOf [(Oo,.func (.func 163) #[Mc w1.heap.size 0] #[]),(Ov,.func (.func 163) #[Mc w1.heap.size 0] #[])]) 2):=⟨_,rfl⟩
 have u2:(Instr.mapUpdate 201 (.map (some (w1.heap.size+1))) (LQ Ov) (.func (.func 163) #[Mc w1.heap.size 0] #[])).run prog kR=.ok () xn:=by rw[x0,x4];exact upd 201 261 (w1.heap.size+1) _ [(Oo,.func (.func 163) #[Mc w1.heap.size 0] #[])] _ _ zalch (by rw[gP];omega) (by rfl)
 obtain⟨rB,x5⟩:∃ X,X=NS ((w1.alloc (.cells #[.slice (some (LD tb 0)) l.length cap,LJ 0,LJ 0,.map (some w.heap.size),.map none,.map none] 203)).alloc (.map #[] 0)) (w1.heap.size+1) (.map (mapOf [(Oo,.func (.func 163) #[Mc w1.heap.size 0] #[]),(Ov,.func (.func 163) #[Mc w1.heap.size 0] #[]),(MS,.func (.func 163) #[Mc w1.heap.size 0] #[])]) 3):=⟨_,rfl⟩
 have u3:(Instr.mapUpdate 201 (.map (some (w1.heap.size+1))) (LQ MS) (.func (.func 163) #[Mc w1.heap.size 0] #[])).run prog xn=.ok () rB:=by rw[x4,x5];exact upd 201 261 (w1.heap.size+1) _ [(Oo,.func (.func 163) #[Mc w1.heap.size 0] #[]),(Ov,.func (.func 163) #[Mc w1.heap.size 0] #[])] _ _ zalch (by rw[gP];omega) (by rfl)
 obtain⟨s5,x6⟩:∃ X,X=NS ((w1.alloc (.cells #[.slice (some (LD tb 0)) l.length cap,LJ 0,LJ 0,.map (some w.heap.size),.map none,.map none] 203)).alloc (.map #[] 0)) (w1.heap.size+1) (.map (mapOf [(Oo,.func (.func 163) #[Mc w1.heap.size 0] #[]),(Ov,.func (.func 163) #[Mc w1.heap.size 0] #[]),(MS,.func (.func 163) #[Mc w1.heap.size 0] #[]),(MI,.func (.func 164) #[Mc w1.heap.size 0] #[])]) 4):=⟨_,rfl⟩
 have u4:(Instr.mapUpdate 201 (.map (some (w1.heap.size+1))) (LQ MI) (.func (.func 164) #[Mc w1.heap.size 0] #[])).run prog rB=.ok () s5:=by rw[x5,x6];exact upd 201 261 (w1.heap.size+1) _ [(Oo,.func (.func 163) #[Mc w1.heap.size 0] #[]),(Ov,.func (.func 163) #[Mc w1.heap.size 0] #[]),(MS,.func (.func 163) #[Mc w1.heap.size 0] #[])] _ _ zalch (by rw[gP];omega) (by rfl)
 obtain⟨rC,x7⟩:∃ X,X=NS ((w1.alloc (.cells #[.slice (some (LD tb 0)) l.length cap,LJ 0,LJ 0,.map (some w.heap.size),.map none,.map none] 203)).alloc (.map #[] 0)) (w1.heap.size+1) (.map (mapOf [(Oo,.func (.func 163) #[Mc w1.heap.size 0] #[]),(Ov,.func (.func 163) #[Mc w1.heap.size 0] #[]),(MS,.func (.func 163) #[Mc w1.heap.size 0] #[]),(MI,.func (.func 164) #[Mc w1.heap.size 0] #[]),(Nc,.func (.func 165) #[Mc w1.heap.size 0] #[])]) 5):=⟨_,rfl⟩
 have u5:(Instr.mapUpdate 201 (.map (some (w1.heap.size+1))) (LQ Nc) (.func (.func 165) #[Mc w1.heap.size 0] #[])).run prog s5=.ok () rC:=by rw[x6,x7];exact upd 201 261 (w1.heap.size+1) _ [(Oo,.func (.func 163) #[Mc w1.heap.size 0] #[]),(Ov,.func (.func 163) #[Mc w1.heap.size 0] #[]),(MS,.func (.func 163) #[Mc w1.heap.size 0] #[]),(MI,.func (.func 164) #[Mc w1.heap.size 0] #[])] _ _ zalch (by rw[gP];omega) (by rfl)
 obtain⟨vi,x8⟩:∃ X,X=NS ((w1.alloc (.cells #[.slice (some (LD tb 0)) l.length cap,LJ 0,LJ 0,.map (some w.heap.size),.map none,.map none] 203)).alloc (.map #[] 0)) (w1.heap.size+1) (.map (mapOf [(Oo,.func (.func 163) #[Mc w1.heap.size 0] #[]),(Ov,.func (.func 163) #[Mc w1.heap.size 0] #[]),(MS,.func (.func 163) #[Mc w1.heap.size 0] #[]),(MI,.func (.func 164) #[Mc w1.heap.size 0] #[]),(Nc,.func (.func 165) #[Mc w1.heap.size 0] #[]),(Nb,.func (.func 166) #[Mc w1.heap.size 0] #[])]) 6):=⟨_,rfl⟩
 have u6:(Instr.mapUpdate 201 (.map (some (w1.heap.size+1))) (LQ Nb) (.func (.func 166) #[Mc w1.heap.size 0] #[])).run prog rC=.ok () vi:=by rw[x7,x8];exact upd 201 261 (w1.heap.size+1) _ [(Oo,.func (.func 163) #[Mc w1.heap.size 0] #[]),(Ov,.func (.func 163) #[Mc w1.heap.size 0] #[]),(MS,.func (.func 163) #[Mc w1.heap.size 0] #[]),(MI,.func (.func 164) #[Mc w1.heap.size 0] #[]),(Nc,.func (.func 165) #[Mc w1.heap.size 0] #[])] _ _ zalch (by rw[gP];omega) (by rfl)
 obtain⟨s6,x9⟩:∃ X,X=NS ((w1.alloc (.cells #[.slice (some (LD tb 0)) l.length cap,LJ 0,LJ 0,.map (some w.heap.size),.map none,.map none] 203)).alloc (.map #[] 0)) (w1.heap.size+1) (.map (mapOf [(Oo,.func (.func 163) #[Mc w1.heap.size 0] #[]),(Ov,.func (.func 163) #[Mc w1.heap.size 0] #[]),(MS,.func (.func 163) #[Mc w1.heap.size 0] #[]),(MI,.func (.func 164) #[Mc w1.heap.size 0] #[]),(Nc,.func (.func 165) #[Mc w1.heap.size 0] #[]),(Nb,.func (.func 166) #[Mc w1.heap.size 0] #[]),(tIf,.func (.func 167) #[Mc w1.heap.size 0] #[])]) 7):=⟨_,rfl⟩
 have u7:(Instr.mapUpdate 201 (.map (some (w1.heap.size+1))) (LQ tIf) (.func (.func 167) #[Mc w1.heap.size 0] #[])).run prog vi=.ok () s6:=by rw[x8,x9];exact upd 201 261 (w1.heap.size+1) _ [(Oo,.func (.func 163) #[Mc w1.heap.size 0] #[]),(Ov,.func (.func 163) #[Mc w1.heap.size 0] #[]),(MS,.func (.func 163) #[Mc w1.heap.size 0] #[]),(MI,.func (.func 164) #[Mc w1.heap.size 0] #[]),(Nc,.func (.func 165) #[Mc w1.heap.size 0] #[]),(Nb,.func (.func 166) #[Mc w1.heap.size 0] #[])] _ _ zalch (by rw[gP];omega) (by rfl)
 obtain⟨rD,x'⟩:∃ X,X=NS ((w1.alloc (.cells #[.slice (some (LD tb 0)) l.length cap,LJ 0,LJ 0,.map (some w.heap.size),.map none,.map none] 203)).alloc (.map #[] 0)) (w1.heap.size+1) (.map (mapOf [(Oo,.func (.func 163) #[Mc w1.heap.size 0] #[]),(Ov,.func (.func 163) #[Mc w1.heap.size 0] #[]),(MS,.func (.func 163) #[Mc w1.heap.size 0] #[]),(MI,.func (.func 164) #[Mc w1.heap.size 0] #[]),(Nc,.func (.func 165) #[Mc w1.heap.size 0] #[]),(Nb,.func (.func 166) #[Mc w1.heap.size 0] #[]),(tIf,.func (.func 167) #[Mc w1.heap.size 0] #[]),(QN,.func (.func 168) #[Mc w1.heap.size 0] #[])]) 8):=⟨_,rfl⟩
 have u8:(Instr.mapUpdate 201 (.map (some (w1.heap.size+1))) (LQ QN) (.func (.func 168) #[Mc w1.heap.size 0] #[])).run prog s6=.ok () rD:=by rw[x9,x'];exact upd 201 261 (w1.heap.size+1) _ [(Oo,.func (.func 163) #[Mc w1.heap.size 0] #[]),(Ov,.func (.func 163) #[Mc w1.heap.size 0] #[]),(MS,.func (.func 163) #[Mc w1.heap.size 0] #[]),(MI,.func (.func 164) #[Mc w1.heap.size 0] #[]),(Nc,.func (.func 165) #[Mc w1.heap.size 0] #[]),(Nb,.func (.func 166) #[Mc w1.heap.size 0] #[]),(tIf,.func (.func 167) #[Mc w1.heap.size 0] #[])] _ _ zalch (by rw[gP];omega) (by rfl)
 obtain⟨s7,ya⟩:∃ X,X=NS ((w1.alloc (.cells #[.slice (some (LD tb 0)) l.length cap,LJ 0,LJ 0,.map (some w.heap.size),.map none,.map none] 203)).alloc (.map #[] 0)) (w1.heap.size+1) (.map (mapOf [(Oo,.func (.func 163) #[Mc w1.heap.size 0] #[]),(Ov,.func (.func 163) #[Mc w1.heap.size 0] #[]),(MS,.func (.func 163) #[Mc w1.heap.size 0] #[]),(MI,.func (.func 164) #[Mc w1.heap.size 0] #[]),(Nc,.func (.func 165) #[Mc w1.heap.size 0] #[]),(Nb,.func (.func 166) #[Mc w1.heap.size 0] #[]),(tIf,.func (.func 167) #[Mc w1.heap.size 0] #[]),(QN,.func (.func 168) #[Mc w1.heap.size 0] #[]),(QU,.func (.func 168) #[Mc w1.heap.size 0] #[])]) 9):=⟨_,rfl⟩
 have u9:(Instr.mapUpdate 201 (.map (some (w1.heap.size+1))) (LQ QU) (.func (.func 168) #[Mc w1.heap.size 0] #[])).run prog rD=.ok () s7:=by rw[x',ya];exact upd 201 261 (w1.heap.size+1) _ [(Oo,.func (.func 163) #[Mc w1.heap.size 0] #[]),(Ov,.func (.func 163) #[Mc w1.heap.size 0] #[]),(MS,.func (.func 163) #[Mc w1.heap.size 0] #[]),(MI,.func (.func 164) #[Mc w1.heap.size 0] #[]),(Nc,.func (.func 165) #[Mc w1.heap.size 0] #[]),(Nb,.func (.func 166) #[Mc w1.heap.size 0] #[]),(tIf,.func (.func 167) #[Mc w1.heap.size 0] #[]),(QN,.func (.func 168) #[Mc w1.heap.size 0] #[])] _ _ zalch (by rw[gP];omega) (by rfl)
 obtain⟨rA,x1⟩:∃ X,X=NS ((w1.alloc (.cells #[.slice (some (LD tb 0)) l.length cap,LJ 0,LJ 0,.map (some w.heap.size),.map none,.map none] 203)).alloc (.map #[] 0)) (w1.heap.size+1) (.map (mapOf [(Oo,.func (.func 163) #[Mc w1.heap.size 0] #[]),(Ov,.func (.func 163) #[Mc w1.heap.size 0] #[]),(MS,.func (.func 163) #[Mc w1.heap.size 0] #[]),(MI,.func (.func 164) #[Mc w1.heap.size 0] #[]),(Nc,.func (.func 165) #[Mc w1.heap.size 0] #[]),(Nb,.func (.func 166) #[Mc w1.heap.size 0] #[]),(tIf,.func (.func 167) #[Mc w1.heap.size 0] #[]),(QN,.func (.func 168) #[Mc w1.heap.size 0] #[]),(QU,.func (.func 168) #[Mc w1.heap.size 0] #[]),(QO,.func (.func 169) #[Mc w1.heap.size 0] #[])]) 10):=⟨_,rfl⟩
 have u10:(Instr.mapUpdate 201 (.map (some (w1.heap.size+1))) (LQ QO) (.func (.func 169) #[Mc w1.heap.size 0] #[])).run prog s7=.ok () rA:=by rw[ya,x1];exact upd 201 261 (w1.heap.size+1) _ [(Oo,.func (.func 163) #[Mc w1.heap.size 0] #[]),(Ov,.func (.func 163) #[Mc w1.heap.size 0] #[]),(MS,.func (.func 163) #[Mc w1.heap.size 0] #[]),(MI,.func (.func 164) #[Mc w1.heap.size 0] #[]),(Nc,.func (.func 165) #[Mc w1.heap.size 0] #[]),(Nb,.func (.func 166) #[Mc w1.heap.size 0] #[]),(tIf,.func (.func 167) #[Mc w1.heap.size 0] #[]),(QN,.func (.func 168) #[Mc w1.heap.size 0] #[]),(QU,.func (.func 168) #[Mc w1.heap.size 0] #[])] _ _ zalch (by rw[gP];omega) (by rfl)
 obtain⟨A',x2⟩:∃ X,X=NS ((w1.alloc (.cells #[.slice (some (LD tb 0)) l.length cap,LJ 0,LJ 0,.map (some w.heap.size),.map none,.map none] 203)).alloc (.map #[] 0)) (w1.heap.size+1) (.map (mapOf [(Oo,.func (.func 163) #[Mc w1.heap.size 0] #[]),(Ov,.func (.func 163) #[Mc w1.heap.size 0] #[]),(MS,.func (.func 163) #[Mc w1.heap.size 0] #[]),(MI,.func (.func 164) #[Mc w1.heap.size 0] #[]),(Nc,.func (.func 165) #[Mc w1.heap.size 0] #[]),(Nb,.func (.func 166) #[Mc w1.heap.size 0] #[]),(tIf,.func (.func 167) #[Mc w1.heap.size 0] #[]),(QN,.func (.func 168) #[Mc w1.heap.size 0] #[]),(QU,.func (.func 168) #[Mc w1.heap.size 0] #[]),(QO,.func (.func 169) #[Mc w1.heap.size 0] #[]),(Ut,.func (.func 169) #[Mc w1.heap.size 0] #[])]) 11):=⟨_,rfl⟩
 have u11:(Instr.mapUpdate 201 (.map (some (w1.heap.size+1))) (LQ Ut) (.func (.func 169) #[Mc w1.heap.size 0] #[])).run prog rA=.ok () A':=by rw[x1,x2];exact upd 201 261 (w1.heap.size+1) _ [(Oo,.func (.func 163) #[Mc w1.heap.size 0] #[]),(Ov,.func (.func 163) #[Mc w1.heap.size 0] #[]),(MS,.func (.func 163) #[Mc w1.heap.size 0] #[]),(MI,.func (.func 164) #[Mc w1.heap.size 0] #[]),(Nc,.func (.func 165) #[Mc w1.heap.size 0] #[]),(Nb,.func (.func 166) #[Mc w1.heap.size 0] #[]),(tIf,.func (.func 167) #[Mc w1.heap.size 0] #[]),(QN,.func (.func 168) #[Mc w1.heap.size 0] #[]),(QU,.func (.func 168) #[Mc w1.heap.size 0] #[]),(QO,.func (.func 169) #[Mc w1.heap.size 0] #[])] _ _ zalch (by rw[gP];omega) (by rfl)
 obtain⟨kS,ty⟩:∃ X,X=NS ((w1.alloc (.cells #[.slice (some (LD tb 0)) l.length cap,LJ 0,LJ 0,.map (some w.heap.size),.map none,.map none] 203)).alloc (.map #[] 0)) (w1.heap.size+1) (.map (mapOf [(Oo,.func (.func 163) #[Mc w1.heap.size 0] #[]),(Ov,.func (.func 163) #[Mc w1.heap.size 0] #[]),(MS,.func (.func 163) #[Mc w1.heap.size 0] #[]),(MI,.func (.func 164) #[Mc w1.heap.size 0] #[]),(Nc,.func (.func 165) #[Mc w1.heap.size 0] #[]),(Nb,.func (.func 166) #[Mc w1.heap.size 0] #[]),(tIf,.func (.func 167) #[Mc w1.heap.size 0] #[]),(QN,.func (.func 168) #[Mc w1.heap.size 0] #[]),(QU,.func (.func 168) #[Mc w1.heap.size 0] #[]),(QO,.func (.func 169) #[Mc w1.heap.size 0] #[]),(Ut,.func (.func 169) #[Mc w1.heap.size 0] #[]),(Uu,.func (.func 170) #[Mc w1.heap.size 0] #[])]) 12):=⟨_,rfl⟩
 have u12:(Instr.mapUpdate 201 (.map (some (w1.heap.size+1))) (LQ Uu) (.func (.func 170) #[Mc w1.heap.size 0] #[])).run prog A'=.ok () kS:=by rw[x2,ty];exact upd 201 261 (w1.heap.size+1) _ [(Oo,.func (.func 163) #[Mc w1.heap.size 0] #[]),(Ov,.func (.func 163) #[Mc w1.heap.size 0] #[]),(MS,.func (.func 163) #[Mc w1.heap.size 0] #[]),(MI,.func (.func 164) #[Mc w1.heap.size 0] #[]),(Nc,.func (.func 165) #[Mc w1.heap.size 0] #[]),(Nb,.func (.func 166) #[Mc w1.heap.size 0] #[]),(tIf,.func (.func 167) #[Mc w1.heap.size 0] #[]),(QN,.func (.func 168) #[Mc w1.heap.size 0] #[]),(QU,.func (.func 168) #[Mc w1.heap.size 0] #[]),(QO,.func (.func 169) #[Mc w1.heap.size 0] #[]),(Ut,.func (.func 169) #[Mc w1.heap.size 0] #[])] _ _ zalch (by rw[gP];omega) (by rfl)
 have sv:kS.heap[w1.heap.size]? = some (.cells #[.slice (some (LD tb 0)) l.length cap,LJ 0,LJ 0,.map (some w.heap.size),.map none,.map none] 203):=by rw[ty,OH LM,zalaa _ _ _ MP];exact Dw
 have zD:kS.heap.size=w1.heap.size+2:=by rw[ty,Td,gP]
 have DF:(kS.setCell (LD w1.heap.size 4) (.map (some (w1.heap.size+1)))).heap[w1.heap.size]? = some (.cells #[.slice (some (LD tb 0)) l.length cap,LJ 0,LJ 0,.map (some w.heap.size),.map (some (w1.heap.size+1)),.map none] 203):=by rw[heap_set sv];rfl
 have kA:((kS.setCell (LD w1.heap.size 4) (.map (some (w1.heap.size+1)))).alloc (.map #[] 0)).heap.size=w1.heap.size+3:=by simp[zD]
 have jm:((kS.setCell (LD w1.heap.size 4) (.map (some (w1.heap.size+1)))).alloc (.map #[] 0)).heap[w1.heap.size+2]? = some (.map #[] 0):=by
  have:=LP (kS.setCell (LD w1.heap.size 4) (.map (some (w1.heap.size+1)))) (.map #[] 0);rw[zales,zD] at this;exact this
 obtain⟨i6,yb⟩:∃ Z,Z=NS ((kS.setCell (LD w1.heap.size 4) (.map (some (w1.heap.size+1)))).alloc (.map #[] 0)) (w1.heap.size+2) (.map (mapOf [(NZ,.func (.func 171) #[Mc w1.heap.size 0] #[])]) 1):=⟨_,rfl⟩;have v1:(Instr.mapUpdate 201 (.map (some (w1.heap.size+2))) (LQ NZ) (.func (.func 171) #[Mc w1.heap.size 0] #[])).run prog ((kS.setCell (LD w1.heap.size 4) (.map (some (w1.heap.size+1)))).alloc (.map #[] 0))=.ok () i6:=by rw[yb];exact aEv 201 261 (w1.heap.size+2) _ _ _ zalch jm
 obtain⟨jR,kh⟩:∃ Z,Z=NS ((kS.setCell (LD w1.heap.size 4) (.map (some (w1.heap.size+1)))).alloc (.map #[] 0)) (w1.heap.size+2) (.map (mapOf [(NZ,.func (.func 171) #[Mc w1.heap.size 0] #[]),(Nc,.func (.func 172) #[Mc w1.heap.size 0] #[])]) 2):=⟨_,rfl⟩;have v2:(Instr.mapUpdate 201 (.map (some (w1.heap.size+2))) (LQ Nc) (.func (.func 172) #[Mc w1.heap.size 0] #[])).run prog i6=.ok () jR:=by rw[yb,kh];exact upd 201 261 (w1.heap.size+2) _ [(NZ,.func (.func 171) #[Mc w1.heap.size 0] #[])] _ _ zalch (by rw[kA];omega) (by rfl)
 obtain⟨s8,vB⟩:∃ Z,Z=NS ((kS.setCell (LD w1.heap.size 4) (.map (some (w1.heap.size+1)))).alloc (.map #[] 0)) (w1.heap.size+2) (.map (mapOf [(NZ,.func (.func 171) #[Mc w1.heap.size 0] #[]),(Nc,.func (.func 172) #[Mc w1.heap.size 0] #[]),(MI,.func (.func 173) #[Mc w1.heap.size 0] #[])]) 3):=⟨_,rfl⟩
 have v3:(Instr.mapUpdate 201 (.map (some (w1.heap.size+2))) (LQ MI) (.func (.func 173) #[Mc w1.heap.size 0] #[])).run prog jR=.ok () s8:=by rw[kh,vB];exact upd 201 261 (w1.heap.size+2) _ [(NZ,.func (.func 171) #[Mc w1.heap.size 0] #[]),(Nc,.func (.func 172) #[Mc w1.heap.size 0] #[])] _ _ zalch (by rw[kA];omega) (by rfl)
 have uu:s8.heap[w1.heap.size]? = some (.cells #[.slice (some (LD tb 0)) l.length cap,LJ 0,LJ 0,.map (some w.heap.size),.map (some (w1.heap.size+1)),.map none] 203):=by rw[vB,OH LM,zalaa _ _ _ (by rw[zales,zD];omega)];exact DF
 have mg:kS.cell? (LD w1.heap.size 4)=some (.map none):=by rw[cell_of sv];rfl
 have IV:=Ny sv 4;have oS:s8.cell? (LD w1.heap.size 5)=some (.map none):=by rw[cell_of uu];rfl
 have IW:=Ny uu 5;have nq:=hide (Ew.out w1 kS _ s8 (s8.setCell (LD w1.heap.size 5) (.map (some (w1.heap.size+2)))) w1.heap.size fL.out (by first|rfl|trivial) ba.out rfl (by rw[ty];rfl) rfl (by rw[vB];rfl) rfl)
 have ny:Hid (w.heap.size<=w1.heap.size):=ba.out.size;clear x0 x4 x5 x6 x7 x8 x9 x' ya x1 x2 ty yb kh vB sv DF uu Dw m' jm kA gP;go_wp2;go_ret;obtain⟨bZ,cf⟩:=Lu nq;exact⟨_,rfl,rfl,ny.out,bZ,cf⟩
def afX {c:Ctx}{F:OQ}(ai:FC c F)(aN:∃ k,VW c.l k F)(U:ZK F)(w:LK)(r:PR Tr)(W:PZ c.l F=r)(ay:r≠.out)(h:Ol c w 0 0):MC 103 #[Nz c] w (OV c w 0 (NV w.heap.size) r):=by
 have iv:=Po c.R 176;have cO:=hide h;have cQ:=hide h.base.len;have A{G}(h:G:=by
 have fG:=hide (Ap.refl c.R w.heap.size w);have a1:=hide h.SB;have nu:=hide ai;have gV:=hide aN;have wQ:=hide U;unfold PZ at W;have aF:=hide W;have bb:=hide ay;clear h W ay aN;go_enter func103,ntmps103;go_wp2_with fail
 go_loopw [3] (λv wr=>∃ k au j,(Oa c.l F k au j).bind (λts i=>PR.ok (Qg (.mk 1 LH 0 ts)) i)=r/\Ol c wr j 0/\Ap c.R w.heap.size w wr/\KV w.heap.size wr au v/\au.length<=j/\∀ t ∈ au,t.kd=15->∃ v r,t.kids=v::r) (λ_ wr=>c.l.length - nxt c wr)
 case atStart=>exact⟨F.fuel,[],0,aF.out,cO.out,fG.out,KV.nil _ _,zalae _,λ_ aS=>absurd aS MP⟩
 case round=>
  obtain⟨k,au,j,ac,aY,dq,e7,dE,g1⟩:=hrel;have z2:=hide g1;clear g1
  cases k with
  | zero=>exact absurd ac.symm bb.out
  | succ k=>
   have A{G}(h:G:=by
   have fC:=ad3 (MJ c.l j)
   by_cases af:(MJ c.l j).kd=6
   ·have aG:Hid (PR.ok (Qg (.mk 1 LH 0 au)) j=r):=by
     unfold Oa at ac;rw[zalak af,bind_ok] at ac;exact ac
    have cR:((MJ c.l j).kd != 6)=false:=by rw[af];rfl
    have ag:=hide (QC c wr j 0 aY);unfold tkV at ag;obtain⟨va,ck,rfl⟩:=e7.shape;clear ac dE af;have A{G}(h:G:=by
    have em:=hide (KV.later e3.out (Ap.of bx) a1.out);have ag:=hide (Oi 1 LH (.slice va au.length ck) aq ⟨_,_,_,rfl⟩);go_wp2_with fail;refine NJ ?_;rintro e d0 ⟨rfl,rfl⟩;obtain⟨bZ,cf,cx⟩:=ZM f5.out b1.out em.out 1 LH _ rfl;have ag:=hide (aa1 w.heap.size (.mk 1 LH 0 au) (LC aq.heap.size) _ bZ (λa9 e8 hl eX=>Lu z2 a9 (by have cq:au=a9::e8:=hl;rw[cq];simp) eX))
    have f4:=hide cf;have hL:=hide cx;go_wp2_with fail;refine NJ ?_;rintro e bn ⟨rfl,lH,g0⟩;have i3:=hide lH;have gX:=hide (f4.out.ap g0 dl.out);have eg:=hide (hL.out.trans (Ap.of g0));go_wp2;go_ret;exact RF aG.out.symm i3.out.nv gX.out eg.out):=LG h;exact alI
   ·have aG:Hid ((MO c.l F.st 0 j).bind (λt az=>(Oa c.l F k (au++[t]) az).bind λts i=>PR.ok (Qg (.mk 1 LH 0 ts)) i)=r):=by
     unfold Oa at ac;rw[zalah af] at ac;rw[<-ac]
     cases MO c.l F.st 0 j <;> rfl
    have cR:((MJ c.l j).kd != 6)=true:=zaleg.2 af;have ag:=hide (QC c wr j 0 aY);unfold tkV at ag;clear ac dE af
    cases T:MO c.l F.st 0 j with
    | out=>
     exact atO
    | bad er p=>
     have dv:=hide T;rw[T] at aG;simp only[Oc] at aG;clear T;have A{G}(h:G:=by
     have ag:=hide (ZO nu.out aq 0 j f5.out (by rw[dv.out];nofun))
     exact ayX):=LG h;exact alI
    | ok t a8=>
     have dv:=hide T;rw[T] at aG;simp only[bind_ok] at aG;clear T;have A{G}(h:G:=by
     have em:=hide (KV.later e3.out (Ap.of bx) a1.out);have ag:=hide (ZO nu.out aq 0 j f5.out (by rw[dv.out];nofun))
     rw[dv.out] at ag;have A{G}(h:G:=by
     have hlt2:=aY.lt;have hR:j<a8:=by
      obtain⟨jl,cA⟩:=Lu gV;exact((Pm (l:=c.l) (d:=0) (cA.st (0+1) j hj)).2 t a8 dv.out).1
     clear aa;have A{G}(h:G:=by
     have dE:=Lu ny;have A{G}(h:G:=by
     have A{G}(h:G:=by
     go_wp2
     go_roundw
     case rel=>exact⟨k,au++[t],a8,aG.out,gX.out,eg.out,hJ.out,by simp;omega,λu aS=>by
       rcases zalat.1 aS with aS|aS
       ·exact Lu z2 u aS
       ·rw[zalaf] at aS;subst aS;exact Lu wQ _ _ _ _ (agE dv.out)⟩
     case measure=>rw[TG gX.out,TG nK.out];omega):=LG h;exact aub):=LG h;exact ais):=LG h;exact an3):=LG h;exact aul):=LG h;exact alI):=LG h;exact auB):=LG h;exact alN
def catch_idle (p q:Addr)(w:LK) :
  CallsD prog 101 #[.pointer (some p),.pointer (some q)] .returning w λe pB w'=>e=MN (.tuple #[])/\pB=.returning/\w'=w:=by
 refine callsD_of_wpS func101 rfl λc₀ bl aS=>?_;apply zalgv;apply zalha;simp[wpOpsS,go_sem,recoverD,aS,ntmps101,Exit.thenS];apply zalgv;apply zalgv;apply zalha;simp[wpOpsS,go_sem,Exit.thenS];refine wpS_cond (t:=true) (by simp[Act.eval,Array.replicate]) ?_;simp only[zaleh];refine wpS_of_wp ?_;refine wp_ret ?_;cases c₀
 simp_all [bodyPostS,results,results101,Exit.thenS]
def agF (p q:Nat)(er:Int)(pl:Nat)(w:LK)(a b:LY)(ae:w.cell? (LD p 0)=some a)(pc:∀ o,w.frozen? (LD p o)=false)(ac:w.cell? (LD q 0)=some b)(Kq:∀ o,w.frozen? (LD q o)=false)(Kr:¬ q=p)(bF:p<w.heap.size)(eZ:q<w.heap.size) :
  CallsD prog 101 #[Mc p 0,Mc q 0] (.panicking (YV er pl)) w λe pB w'=>
   e=MN (.tuple #[])/\pB=.panicking [{ v:=.iface 142 (.agg #[LJ er,LJ (pl:Int)]),recovered:=true }]/\w'=((((w.setCell (LD p 0) Pe).setCell (LD q 0) (.iface 144 (Mc (w.heap.size+1) 0))).alloc (.cells #[LJ er,LJ (pl:Int)] 142)).alloc (.cells #[LJ er,LJ (pl:Int)] 145)).drew:=by
 refine callsD_of_wpS func101 rfl λc₀ bl aS=>?_;unfold YV at aS;have pA:∀ L:LK,(Instr.typeAssert (.iface 142 (.agg #[LJ er,LJ (pl:Int)])) 20 142 true).run prog L=.ok (.tuple #[.agg #[LJ er,LJ (pl:Int)],L9 true]) L:=λL=>by kernel_rfl
 rw[ntmps101];rw[show (#[Mc p 0,Mc q 0]:Array LY)++Array.replicate (23 - (#[Mc p 0,Mc q 0]:Array LY).size) undef=#[Mc p 0,Mc q 0,undef,undef,undef,undef,undef,undef,undef,undef,undef,undef,undef,undef,undef,undef,undef,undef,undef,undef,undef,undef,undef] from by kernel_rfl];apply zalgv;apply zalha;simp[wpOpsS,go_sem,recoverD,aS,Exit.thenS];apply zalgv;apply zalgv;apply zalha;simp[wpOpsS,go_sem,Exit.thenS];refine wpS_cond (t:=false) (by simp[Act.eval]) ?_;refine aln ?_;refine wpS_of_wp (wp_skip ?_)
 simp only[Exit.thenS];apply zalgv;apply zalha;simp[wpOpsS,go_sem,Exit.thenS,pA];apply zalgv;refine wpS_of_wp ?_;go_wp2_with fail;simp only[Exit.thenS];refine wpS_of_wp ?_
 go_region
 simp[bodyPostS,results,results101]
def abl (r:PR Tr)(w:LK)(e:Ending)(w':LK):Prop:=
 match r with
 | .ok t _=>∃ p,e=MN (.tuple #[LC p,.nilIface])/\Nj (From w.heap.size) w' t p/\LX w w'
 | .bad er pl=>∃ b,e=MN (.tuple #[.pointer none,.iface 144 (Mc b 0)])/\w'.heap[b]? = some (NK #[LJ er,LJ (pl:Int)] 145)/\w.heap.size<=b/\LX w w'
 | .out=>True
abbrev RW (w:LK):LK:=(w.alloc (.cells #[.pointer none] 22)).alloc (.cells #[.nilIface] 28)
def arC (w:LK)(l:List Tk)(tb cap:Nat)(t:Tr)(j:Nat)
  (b3:MC 102 #[.slice (some (LD tb 0)) l.length cap] (RW w) λe w'=>∃ c:Ctx,e=MN (Nz c)/\c.l=l/\(RW w).heap.size<=c.R/\Ol c w' 0 0/\Below (RW w).heap.size (RW w) w')
  (bk:∀ (c:Ctx) (L:LK),c.l=l->Ol c L 0 0->MC 103 #[Nz c] L (OV c L 0 (NV L.heap.size) (.ok t j))) :
  MC 43 #[.slice (some (LD tb 0)) l.length cap] w (abl (.ok t j) w):=by
 have A{G}(h:G:=by
 obtain⟨⟨v,rfl,p,rfl,av⟩,aY,aa⟩:=ae;have A{G}(h:G:=by
 have e4:=hide av;have ib:Hid (w.heap.size+2<=w2.heap.size):=by show _<=_;omega
 clear c0 c1 bk C7 hsz2 a7;go_wp2_with fail;refine leaves_cons (f:=101) (args:=#[Mc w.heap.size 0,Mc (w.heap.size+1) 0]) MP (by simp[go_sem]) ?_;refine(catch_idle (LD w.heap.size 0) (LD (w.heap.size+1) 0) _).mono ?_;rintro e pB nh ⟨rfl,rfl,rfl⟩
 show Leaves _ _ _ _ [] .returning _
 refine⟨.tuple #[LC p,nIZ],by simp[results,results43,go_sem,ct,d1],p,rfl,?_,?_⟩
 ·refine Nj.mono (J:=From w.heap.size) (λb D _=>?_) _ _ (Nj.later (I:=λb=>w2.heap.size<=b) (λb D _=>?_) _ _ e4.out)
  ·have O:=Lu ib;have ao:w2.heap.size<=b:=D
   show w.heap.size<=b
   omega
  ·have O:=Lu ib;have ao:w2.heap.size<=b:=D;rw[zalap _ (LD (w.heap.size+1) 0) _ b (by show b≠w.heap.size+1;omega),zalap _ (LD w.heap.size 0) _ b (by show b≠w.heap.size;omega)]
 ·exact(cB.out.setCell (p:=(LD w.heap.size 0)) Nh _).setCell (p:=(LD (w.heap.size+1) 0)) (Nat.le_succ _) _):=LG h;exact aAq):=LG h;exact aAX
def aow (w:LK)(l:List Tk)(tb cap:Nat)(er:Int)(pl:Nat)
  (b3:MC 102 #[.slice (some (LD tb 0)) l.length cap] (RW w) λe w'=>∃ c:Ctx,e=MN (Nz c)/\c.l=l/\(RW w).heap.size<=c.R/\Ol c w' 0 0/\Below (RW w).heap.size (RW w) w')
  (bk:∀ (c:Ctx) (L:LK),c.l=l->Ol c L 0 0->MC 103 #[Nz c] L (OV c L 0 (NV L.heap.size) (.bad er pl))) :
  MC 43 #[.slice (some (LD tb 0)) l.length cap] w (abl (.bad er pl) w):=by
 have A{G}(h:G:=by
 obtain⟨rfl,aa⟩:=ae;have A{G}(h:G:=by
 have ib:Hid (w.heap.size+2<=w2.heap.size):=by show _<=_;omega
 have Gl:w.heap.size+1<aq.heap.size:=lt_of_heap c1;have DI:=hide c0;have wx:=hide c1;clear c0 c1 bk C7 hsz2 a7;refine leaves_cons (f:=101) (args:=#[Mc w.heap.size 0,Mc (w.heap.size+1) 0]) MP (by simp[go_sem]) ?_;refine(agF w.heap.size (w.heap.size+1) er pl aq _ _ ct FZ d1 F0 LM LM Gl).mono ?_;rintro e pB nh ⟨rfl,rfl,rfl⟩
 show Leaves _ _ _ _ [] .returning _
 have fN:((((aq.setCell (LD w.heap.size 0) Pe).setCell (LD (w.heap.size+1) 0) (.iface 144 (Mc (aq.heap.size+1) 0))).alloc (.cells #[LJ er,LJ (pl:Int)] 142)).alloc (.cells #[LJ er,LJ (pl:Int)] 145)).drew.heap[w.heap.size]? = some (NK #[Pe] 22):=by
  show ((((aq.setCell (LD w.heap.size 0) Pe).setCell (LD (w.heap.size+1) 0) (.iface 144 (Mc (aq.heap.size+1) 0))).alloc (.cells #[LJ er,LJ (pl:Int)] 142)).alloc (.cells #[LJ er,LJ (pl:Int)] 145)).heap[w.heap.size]? = _
  rw[zalaa _ _ _ OM,zalaa _ _ _ OM,zalap _ (LD (w.heap.size+1) 0) _ _ (by show w.heap.size≠w.heap.size+1;omega),heap_set DI.out]
  rfl
 have fc:((((aq.setCell (LD w.heap.size 0) Pe).setCell (LD (w.heap.size+1) 0) (.iface 144 (Mc (aq.heap.size+1) 0))).alloc (.cells #[LJ er,LJ (pl:Int)] 142)).alloc (.cells #[LJ er,LJ (pl:Int)] 145)).drew.heap[w.heap.size+1]? = some (NK #[.iface 144 (Mc (aq.heap.size+1) 0)] 28):=by
  show ((((aq.setCell (LD w.heap.size 0) Pe).setCell (LD (w.heap.size+1) 0) (.iface 144 (Mc (aq.heap.size+1) 0))).alloc (.cells #[LJ er,LJ (pl:Int)] 142)).alloc (.cells #[LJ er,LJ (pl:Int)] 145)).heap[w.heap.size+1]? = _
  have W:(aq.setCell (LD w.heap.size 0) Pe).heap[w.heap.size+1]? = some (NK #[nIZ] 28):=by
   rw[zalap _ (LD w.heap.size 0) _ _ (by show w.heap.size+1≠w.heap.size;omega)];exact Lu wx
  rw[zalaa _ _ _ OM,zalaa _ _ _ OM,heap_set W];rfl
 have dH:((((aq.setCell (LD w.heap.size 0) Pe).setCell (LD (w.heap.size+1) 0) (.iface 144 (Mc (aq.heap.size+1) 0))).alloc (.cells #[LJ er,LJ (pl:Int)] 142)).alloc (.cells #[LJ er,LJ (pl:Int)] 145)).drew.cell? (LD w.heap.size 0)=some Pe:=by rw[cell_of fN];rfl
 have aW:((((aq.setCell (LD w.heap.size 0) Pe).setCell (LD (w.heap.size+1) 0) (.iface 144 (Mc (aq.heap.size+1) 0))).alloc (.cells #[LJ er,LJ (pl:Int)] 142)).alloc (.cells #[LJ er,LJ (pl:Int)] 145)).drew.cell? (LD (w.heap.size+1) 0)=some (.iface 144 (Mc (aq.heap.size+1) 0)):=by rw[cell_of fc];rfl
 obtain⟨A9,xZ⟩:∃ A9,A9=((((aq.setCell (LD w.heap.size 0) Pe).setCell (LD (w.heap.size+1) 0) (.iface 144 (Mc (aq.heap.size+1) 0))).alloc (.cells #[LJ er,LJ (pl:Int)] 142)).alloc (.cells #[LJ er,LJ (pl:Int)] 145)).drew:=⟨_,rfl⟩;rw[<-xZ] at dH aW;rw[<-xZ];refine⟨.tuple #[Pe,.iface 144 (Mc (aq.heap.size+1) 0)],by simp[results,results43,go_sem,dH,aW],aq.heap.size+1,rfl,?_,by omega,?_⟩
 all_goals rw[xZ]
 ·have:=LP (((aq.setCell (LD w.heap.size 0) Pe).setCell (LD (w.heap.size+1) 0) (.iface 144 (Mc (aq.heap.size+1) 0))).alloc (.cells #[LJ er,LJ (pl:Int)] 142)) (.cells #[LJ er,LJ (pl:Int)] 145);rw[show ((((aq.setCell (LD w.heap.size 0) Pe).setCell (LD (w.heap.size+1) 0) (.iface 144 (Mc (aq.heap.size+1) 0))).alloc (.cells #[LJ er,LJ (pl:Int)] 142)).heap.size)=aq.heap.size+1 by simp] at this;exact this
 ·have W:=cB.out.size;exact(((((cB.out.setCell (p:=(LD w.heap.size 0)) Nh _).setCell (p:=(LD (w.heap.size+1) 0)) (Nat.le_succ _) _).alloc (by simpa using W) _).alloc OM _).drew)):=LG h;exact aAq):=LG h;exact aAX
def aiV {c:Ctx}{F:OQ}(ai:FC c F)(w:LK)(d i:Nat)(r:PR Tr)(N:(MJ c.l i).kd≠6)(W:Qm c.l F d i=r)(ay:r≠.out)(h:Ol c w i d):MC 169 #[Nz c] w (OV c w d (NV w.heap.size) r):=by
 have iv:=Po c.R 243;have jM:=hide N;have A{G}(h:G:=by
 clear N;have A{G}(h:G:=by
 have a1:=hide h.SB;unfold Qm at W;have aF:=hide W;have bb:=hide ay;clear h W ay;go_enter func169,ntmps169;have A{G}(h:G:=by
 have ag:=hide (Oi aD LH QJ wk ⟨_,_,_,rfl⟩);go_wp2_with fail;refine NJ ?_;rintro e zJ ⟨rfl,rfl⟩;obtain⟨bZ,cf,cx⟩:=ZM rt.out q2.out (KV.nil _ _) aD LH _ rfl;obtain⟨cg,gg⟩:∃ cg:Tr,cg=.mk aD LH 0 []:=⟨_,rfl⟩;have A{G}(h:G:=by
 have iT:bq=wk.heap.size:=by simpa[LC] using gL.symm
 have A{G}(h:G:=by
 obtain⟨d0,j2⟩:∃ d0,d0=wk.alloc (MB aD LH 0 QJ):=⟨_,rfl⟩;rw[<-j2] at pV iI jp hk r2;rw[<-iT] at pV hk r2;rw[<-j2,<-iT];clear j2 iT
 by_cases mP:aD=11
 ·rw[zalak (zalad mP)] at aF;have FL:(aD==11)=true:=zalbz.2 mP;clear mP;have bI:=hide pV.out;have A{G}(h:G:=by
  cases T:MO c.l F.vl d (i+1) with
  | out=>
   exact Qe
  | bad er p=>
   have ag:=hide (Uk ai d0.drew d (i+1) iI.out.drew (by rw[T];nofun))
   have A{G}(h:G:=by
   refine zlb ?_;refine zlx ?_;refine wr2 4 8 (λK U=>?_) λK U=>?_
   ·go_simp;refine Qd ?_;clear U K;refine O7 8 λK U=>?_;go_simp;exact ars
   ·go_simp;exact ars):=LG h;exact alF
  | ok jJ hV=>
   have ag:=hide (Uk ai d0.drew d (i+1) iI.out.drew (by rw[T];nofun))
   have A{G}(h:G:=by
   refine WG (H:=λax bu=>Ap c.R d0.heap.size d0 ax/\Ol c ax hV d/\Nj (From d0.heap.size) ax jJ bu) (G:=?G1) (λez=>?_) ?_;rotate_left
   ·refine zlb ?_;refine zlx ?_;refine wr2 4 8 (λK U=>?_) λK U=>?_
    ·go_simp;refine Qd ?_;clear U K;refine O7 8 λK U=>?_;have A{G}(h:G:=by
     have cW:=((Ap.refl c.R d0.heap.size d0).drew).next aa;have fb:Hid (Ap c.R d0.heap.size d0 ax/\Ol c ax hV d/\Nj (From d0.heap.size) ax jJ bu):=⟨cW,aY,fd⟩;exact avc):=LG h;go_simp;exact af6
    ·have A{G}(h:G:=by
     have cW:=((Ap.refl c.R d0.heap.size d0).drew).next aa;have fb:Hid (Ap c.R d0.heap.size d0 ax/\Ol c ax hV d/\Nj (From d0.heap.size) ax jJ bu):=⟨cW,aY,fd⟩;exact avd):=LG h;go_simp;exact af6
   intro ax bu dC;obtain⟨cW,aY,fd⟩:=dC;have dh:=hide (jp.out.next cW);have fi:=hide aY;have b':=hide (Open.later bI.out cW a1.out);have g7:=hide (Open.apart bI.out jp.out.size cW a1.out (LU.cons fd LU.nil));obtain⟨dW,dX,d3⟩:=b'.out.cell;have hlen:=LU.length _ _ b'.out.kids;have hown:=b'.out.row;rw[hlen] at hown;have HOWN:=hide hown;have bK:=dh.out.size;have ex:cg.kids.length<=3:=by rw[fv.out];decide
   clear hlen;refine O7 10 λK U=>?_;refine step_append_lies _ rfl _ _ 46 rfl w.heap.size 22 a6 Pe 1 8 zalbk b4 bL bM bP rfl MK _ _ _ rfl (HOWN.out.alloc _) (LD ax.heap.size 0) 1 1 [LC bu] rfl rfl (OT ax bu _ rfl) (one_one bu) MK (by unfold maxLen;omega) LM OM (ax.heap.size+1) MP ?_
   intro g cap aq hown3 dD dc _;refine U _ _ ?_;clear U K;have cD:=hide (XH b'.out g7.out fi.out dh.out dl.out hown3 dD dc);have df:aq.cell? (LD bq 3)=ax.cell? (LD bq 3)/\aq.frozen? (LD bq 3)=ax.frozen? (LD bq 3):=aoc
   obtain⟨ek,el⟩:=df;rw[dW] at ek;rw[dX 3] at el;clear dc;refine wt 11 (LC bq) ?_;refine wt 12 (Mc bq 3) ?_;refine O7 13 λK U=>?_;go_simp;refine U _ _ ?_;clear U K ek el dW dX d3;refine zalec Nw ?_ _;go_simp;obtain⟨bZ,cf,cx⟩:=Lu cD;have fL:=hide bZ;have f4:=hide cf;have hL:=hide cx
   cases T:MG c.l Nb hV with
   | out=>
    exact Qe
   | bad er p=>
    exact arl
   | ok dg bH=>
    exact aD9):=LG h;exact zsz):=LG h;exact ab5
 ·have FL:(aD==11)=false:=zalaj.2 mP;have ag:=hide (QD c d0 (i+1) d iI.out)
  by_cases af:fx c.l (i+1)=Nb
  ·rw[zalah (λa2=>a2.elim mP (λO=>O af))] at aF;have qc:((fx c.l (i+1)).toList==[59])=true:=RX (b:=Nb) rfl af;clear mP af;have A{G}(h:G:=by
   have fL:=hide bI.out.ev
   cases T:MG c.l Nb (i+1) with
   | out=>
    exact Qe
   | bad er p=>
    have ag:=hide (NR c Nb cT (i+1) d ig.out MK);rw[T] at ag aF;simp only[Oc] at aF;clear T;have A{G}(h:G:=by
    exact⟨rfl,O3 aF.out.symm (iH.out.next aa)⟩):=LG h;exact U8
   | ok dg bH=>
    have ag:=hide (NR c Nb cT (i+1) d ig.out MK);have A{G}(h:G:=by
    intro e w1 ae;obtain⟨⟨v1,rfl,rfl⟩,aY,aa⟩:=ae;have b7:=hide (iH.out.next aa);exact aDi):=LG h;exact WC):=LG h;exact aqK
  ·rw[zalak (zalal af)] at aF;have qc:((fx c.l (i+1)).toList==[59])=false:=RY (b:=Nb) rfl af;clear mP af;have A{G}(h:G:=by
   have A{G}(h:G:=by
   cases T:MO c.l F.vl d (i+1) with
   | out=>
    exact Qe
   | bad er p=>
    have ag:=hide (Uk ai cT.drew d (i+1) ig.out.drew (by rw[T];nofun))
    have A{G}(h:G:=by
    refine zlb ?_;refine zlx ?_;refine wr2 4 8 (λK U=>?_) λK U=>?_
    ·go_simp;refine Qd ?_;clear U K;refine O7 8 λK U=>?_;go_simp;exact ay7
    ·go_simp;exact ay7):=LG h;exact alF
   | ok jJ hV=>
    have ag:=hide (Uk ai cT.drew d (i+1) ig.out.drew (by rw[T];nofun))
    have A{G}(h:G:=by
    refine WG (H:=λax bu=>Ap c.R cT.heap.size cT ax/\Ol c ax hV d/\Nj (From cT.heap.size) ax jJ bu) (G:=?G2) (λez=>?_) ?_;rotate_left
    ·refine zlb ?_;refine zlx ?_;refine wr2 4 8 (λK U=>?_) λK U=>?_
     ·go_simp;refine Qd ?_;clear U K;refine O7 8 λK U=>?_;have A{G}(h:G:=by
      have cW:=((Ap.refl c.R cT.heap.size cT).drew).next aa;have fb:Hid (Ap c.R cT.heap.size cT ax/\Ol c ax hV d/\Nj (From cT.heap.size) ax jJ bu):=⟨cW,aY,fd⟩;exact avc):=LG h;go_simp;exact af6
     ·have A{G}(h:G:=by
      have cW:=((Ap.refl c.R cT.heap.size cT).drew).next aa;have fb:Hid (Ap c.R cT.heap.size cT ax/\Ol c ax hV d/\Nj (From cT.heap.size) ax jJ bu):=⟨cW,aY,fd⟩;exact avd):=LG h;go_simp;exact af6
    intro ax bu dC;obtain⟨cW,aY,fd⟩:=dC;have dh:=hide (iH.out.next cW);have fi:=hide aY;have b':=hide (Open.later bI.out cW a1.out);have g7:=hide (Open.apart bI.out iH.out.size cW a1.out (LU.cons fd LU.nil));obtain⟨dW,dX,d3⟩:=b'.out.cell;have hlen:=LU.length _ _ b'.out.kids;have hown:=b'.out.row;rw[hlen] at hown;have HOWN:=hide hown;have bK:=dh.out.size;have ex:cg.kids.length<=3:=by rw[fv.out];decide
    clear hlen;refine O7 10 λK U=>?_;refine step_append_lies _ rfl _ _ 46 rfl w.heap.size 22 a6 Pe 1 8 zalbk b4 bL bM bP rfl MK _ _ _ rfl (HOWN.out.alloc _) (LD ax.heap.size 0) 1 1 [LC bu] rfl rfl (OT ax bu _ rfl) (one_one bu) MK (by unfold maxLen;omega) LM OM (ax.heap.size+1) MP ?_
    intro g cap aq hown3 dD dc _;refine U _ _ ?_;clear U K;have cD:=hide (XH b'.out g7.out fi.out dh.out dl.out hown3 dD dc);have df:aq.cell? (LD bq 3)=ax.cell? (LD bq 3)/\aq.frozen? (LD bq 3)=ax.frozen? (LD bq 3):=aoc
    obtain⟨ek,el⟩:=df;rw[dW] at ek;rw[dX 3] at el;clear dc;refine wt 11 (LC bq) ?_;refine wt 12 (Mc bq 3) ?_;refine O7 13 λK U=>?_;go_simp;refine U _ _ ?_;clear U K ek el dW dX d3;refine zalec Nw ?_ _;go_simp;obtain⟨bZ,cf,cx⟩:=Lu cD;have fL:=hide bZ;have f4:=hide cf;have hL:=hide cx
    cases T:MG c.l Nb hV with
    | out=>
     exact Qe
    | bad er p=>
     exact arl
    | ok dg bH=>
     exact aD9):=LG h;exact zsz):=LG h;exact ab5):=LG h;exact aqK):=LG h;exact aBy):=LG h;exact aBr):=LG h;exact aA3):=LG h;exact TL):=LG h;exact alN
def aoK {c:Ctx}{F:OQ}(ai:FC c F)(w:LK)(d i:Nat)(r:PR Tr)(N:(MJ c.l i).kd≠6)(W:UA c.l F d i=r)(ay:r≠.out)(h:Ol c w i d):MC 163 #[Nz c] w (OV c w d (NV w.heap.size) r):=by
 have iv:=Po c.R 243;have jM:=hide N;have A{G}(h:G:=by
 clear N;have A{G}(h:G:=by
 have a1:=hide h.SB;unfold UA at W;have aF:=hide W;have bb:=hide ay;clear h W ay;go_enter func163,ntmps163;have A{G}(h:G:=by
 cases T:nameP c.l (i+1) with
 | out=>
  exact Qe
 | bad er p=>
  have ag:=hide (name_any c wk (i+1) d rt.out);exact ayO
 | ok dg bH=>
  have ag:=hide (name_any c wk (i+1) d rt.out);have A{G}(h:G:=by
  intro e w1 ae;obtain⟨⟨v1,rfl,rfl⟩,aY,aa⟩:=ae;have b7:=hide (q2.out.next aa);have cd:=hide aY;have ag:=hide (Oi aD dg QJ w1 ⟨_,_,_,rfl⟩);go_wp2_with fail;refine NJ ?_;rintro e zJ ⟨rfl,rfl⟩;obtain⟨bZ,cf,cx⟩:=ZM cd.out b7.out (KV.nil _ _) aD dg _ rfl;obtain⟨cg,gg⟩:∃ cg:Tr,cg=.mk aD dg 0 []:=⟨_,rfl⟩;have A{G}(h:G:=by
  have iT:bq=w1.heap.size:=by simpa[LC] using gL.symm
  have A{G}(h:G:=by
  obtain⟨d0,j2⟩:∃ d0,d0=w1.alloc (MB aD dg 0 QJ):=⟨_,rfl⟩;rw[<-j2] at pV iI jp hk r2;rw[<-iT] at pV hk r2;rw[<-j2,<-iT];clear j2 iT
  by_cases aM:aD=4
  ·have il:(aD==4)=true:=zalbz.2 aM;have ag:=hide (QD c d0 bH d iI.out)
   by_cases af:fx c.l bH=Xr
   ·rw[zalah (λa2=>a2.2 af)] at aF;have qc:((fx c.l bH).toList==[61])=true:=RX (b:=Xr) rfl af;clear aM;have A{G}(h:G:=by
    clear af
    by_cases hy:fx c.l bH=Xr
    ·rw[zalak hy] at aF;have ag:=hide (RD c Xr cT bH d ig.out hy MK);clear hy;go_wp2_with fail;refine NJ ?_;rintro e gn ⟨rfl,r9,n4⟩;have oO:=hide r9;have mF:=hide (iH.out.next n4);replace bI:=hide (Open.later bI.out n4 a1.out);have A{G}(h:G:=by
     cases T:MO c.l F.vl d (bH+1) with
     | out=>
      exact Qe
     | bad er p=>
      exact aDX
     | ok jJ hV=>
      have ag:=hide (Uk ai gn.drew d (bH+1) oO.out.drew (by rw[T];nofun))
      have A{G}(h:G:=by
      refine WG (H:=λax bu=>Ap c.R gn.heap.size gn ax/\Ol c ax hV d/\Nj (From gn.heap.size) ax jJ bu) (G:=?G1) (λez=>?_) ?_;rotate_left
      ·exact aCJ
      intro ax bu dC;obtain⟨cW,aY,fd⟩:=dC;have dh:=hide (mF.out.next cW);have fi:=hide aY;have b':=hide (Open.later bI.out cW a1.out);have g7:=hide (Open.apart bI.out mF.out.size cW a1.out (LU.cons fd LU.nil));obtain⟨dW,dX,d3⟩:=b'.out.cell;have hlen:=LU.length _ _ b'.out.kids;have hown:=b'.out.row;rw[hlen] at hown;have HOWN:=hide hown;have bK:=dh.out.size;have ex:cg.kids.length<=3:=by rw[fv.out];decide
      clear hlen;refine O7 10 λK U=>?_;refine step_append_lies _ rfl _ _ 46 rfl w.heap.size 22 a6 Pe 1 8 zalbk b4 bL bM bP rfl MK _ _ _ rfl (HOWN.out.alloc _) (LD ax.heap.size 0) 1 1 [LC bu] rfl rfl (OT ax bu _ rfl) (one_one bu) MK (by unfold maxLen;omega) LM OM (ax.heap.size+1) MP ?_
      intro g cap aq hown3 dD dc _;refine U _ _ ?_;clear U K;have cD:=hide (XH b'.out g7.out fi.out dh.out dl.out hown3 dD dc);have df:aq.cell? (LD bq 3)=ax.cell? (LD bq 3)/\aq.frozen? (LD bq 3)=ax.frozen? (LD bq 3):=aoc
      obtain⟨ek,el⟩:=df;rw[dW] at ek;rw[dX 3] at el;clear dc;refine wt 11 (LC bq) ?_;refine wt 12 (Mc bq 3) ?_;refine O7 13 λK U=>?_;go_simp;refine U _ _ ?_;clear U K ek el dW dX d3;refine zalec Nw ?_ _;go_simp;obtain⟨bZ,cf,cx⟩:=Lu cD;have fL:=hide bZ;have f4:=hide cf;have hL:=hide cx
      cases T:MG c.l Nb hV with
      | out=>
       exact Qe
      | bad er p=>
       exact arl
      | ok gA a8=>
       exact aC8):=LG h;exact zsz):=LG h;exact ab5
    ·rw[zalah hy] at aF;have ag:=hide (Sr c Xr cT bH d ig.out hy);clear hy;go_wp2_with fail;refine NJ ?_;rintro e gn ⟨rfl,mZ⟩;have oO:=hide (ig.out.later mZ);have mF:=hide (iH.out.next (Ap.of mZ));exact aC2):=LG h;exact aqK
   ·rw[zalak ⟨aM,af⟩] at aF;have qc:((fx c.l bH).toList==[61])=false:=RY (b:=Xr) rfl af;clear aM af;have A{G}(h:G:=by
    have ag:=hide (UE c 3 cT bH d ig.out);go_wp2_with fail;refine NJ ?_;rintro e gm ⟨rfl,mX⟩;exact⟨rfl,O3 aF.out.symm (iH.out.next (Ap.of mX))⟩):=LG h;exact aqK
  ·have il:(aD==4)=false:=zalaj.2 aM;rw[zalah (λa2=>aM a2.1)] at aF;clear aM;have bI:=hide pV.out
   by_cases hy:fx c.l bH=Xr
   ·rw[zalak hy] at aF;have ag:=hide (RD c Xr d0 bH d iI.out hy MK);clear hy;go_wp2_with fail;refine NJ ?_;rintro e gn ⟨rfl,r9,n4⟩;have oO:=hide r9;have mF:=hide (jp.out.next n4);replace bI:=hide (Open.later bI.out n4 a1.out);have A{G}(h:G:=by
    cases T:MO c.l F.vl d (bH+1) with
    | out=>
     exact Qe
    | bad er p=>
     exact aDX
    | ok jJ hV=>
     have ag:=hide (Uk ai gn.drew d (bH+1) oO.out.drew (by rw[T];nofun))
     have A{G}(h:G:=by
     refine WG (H:=λax bu=>Ap c.R gn.heap.size gn ax/\Ol c ax hV d/\Nj (From gn.heap.size) ax jJ bu) (G:=?G2) (λez=>?_) ?_;rotate_left
     ·exact aCJ
     intro ax bu dC;obtain⟨cW,aY,fd⟩:=dC;have dh:=hide (mF.out.next cW);have fi:=hide aY;have b':=hide (Open.later bI.out cW a1.out);have g7:=hide (Open.apart bI.out mF.out.size cW a1.out (LU.cons fd LU.nil));obtain⟨dW,dX,d3⟩:=b'.out.cell;have hlen:=LU.length _ _ b'.out.kids;have hown:=b'.out.row;rw[hlen] at hown;have HOWN:=hide hown;have bK:=dh.out.size;have ex:cg.kids.length<=3:=by rw[fv.out];decide
     clear hlen;refine O7 10 λK U=>?_;refine step_append_lies _ rfl _ _ 46 rfl w.heap.size 22 a6 Pe 1 8 zalbk b4 bL bM bP rfl MK _ _ _ rfl (HOWN.out.alloc _) (LD ax.heap.size 0) 1 1 [LC bu] rfl rfl (OT ax bu _ rfl) (one_one bu) MK (by unfold maxLen;omega) LM OM (ax.heap.size+1) MP ?_
     intro g cap aq hown3 dD dc _;refine U _ _ ?_;clear U K;have cD:=hide (XH b'.out g7.out fi.out dh.out dl.out hown3 dD dc);have df:aq.cell? (LD bq 3)=ax.cell? (LD bq 3)/\aq.frozen? (LD bq 3)=ax.frozen? (LD bq 3):=aoc
     obtain⟨ek,el⟩:=df;rw[dW] at ek;rw[dX 3] at el;clear dc;refine wt 11 (LC bq) ?_;refine wt 12 (Mc bq 3) ?_;refine O7 13 λK U=>?_;go_simp;refine U _ _ ?_;clear U K ek el dW dX d3;refine zalec Nw ?_ _;go_simp;obtain⟨bZ,cf,cx⟩:=Lu cD;have fL:=hide bZ;have f4:=hide cf;have hL:=hide cx
     cases T:MG c.l Nb hV with
     | out=>
      exact Qe
     | bad er p=>
      exact arl
     | ok gA a8=>
      exact aC8):=LG h;exact zsz):=LG h;exact ab5
   ·rw[zalah hy] at aF;have ag:=hide (Sr c Xr d0 bH d iI.out hy);clear hy;go_wp2_with fail;refine NJ ?_;rintro e gn ⟨rfl,mZ⟩;have oO:=hide (iI.out.later mZ);have mF:=hide (jp.out.next (Ap.of mZ));exact aC2):=LG h;exact aBy):=LG h;exact aBr):=LG h;exact WC):=LG h;exact aA3):=LG h;exact TL):=LG h;exact alN
