import Derived.Test.YticfnaiehdpbmaaGreatDoorAg10
import Derived.MapKept
import Derived.Deep.MidRow
import Derived.Laws.AppendOwnNone
import Derived.Recover
import Derived.Defers
set_option maxRecDepth 100000
set_option maxHeartbeats 8000000
set_option linter.unusedVariables false
namespace Go.Proofs.YticfnaiehdpbmaaGreatDoor
open Go.RowKit Go.Proofs.Tryz
theorem ahX (l:List (NR × NP))(k:NR)(v:NP):(mapOf l).push { key:=ND k,val:=v,born:=l.length }=mapOf (l++[(k,v)]):=by
 unfold mapOf;rw[List.zipIdx_append,List.map_append];simp[mkE,List.zipIdx]
def OW (W:Ny)(m:Nat)(o:Obj):Ny:={ W with heap:=W.heap.setIfInBounds m o }
theorem Us (W:Ny)(m:Nat)(o:Obj):(OW W m o).heap.size=W.heap.size:=by simp[OW]
theorem VR {W:Ny}{m:Nat}{o:Obj}(h:m<W.heap.size):(OW W m o).heap[m]? = some o:=by simp[OW,h]
theorem PL {W:Ny}{m k:Nat}{o:Obj}(h:k≠m):(OW W m o).heap[k]? = W.heap[k]?:=by simp[OW,Ne.symm h]
theorem Wj {B:Nat}{w W:Ny}{m:Nat}{o:Obj}(h:Below B w W)(aV:B<=m):Below B w (OW W m o):=
 ⟨h.os,h.tape,h.output,by rw[Us];exact h.size,fun k E=>by rw[PL Nw];exact h.block k E⟩
theorem Yb (T kB:TypeId)(m:Nat)(l:List (NR × NP))(s:NR)(v:NP)(W:Ny)(dA:prog.underlying T=some (.map 9 kB))(aV:W.heap[m]? = some (.map (mapOf l) l.length))(aA:l.find? (fun e=>decide (s=e.1))=none) :
  (Instr.mapUpdate T (.map (some m)) (ND s) v).run prog W=.ok () (OW W m (.map (mapOf (l++[(s,v)])) (l.length+1))):=by
 obtain⟨o,h1,O⟩:=Zt s l 0 0;have hq:=underlying9;have aM:o=none:=by
  rw[aA] at O
  cases o with
  | none=>rfl
  | some y=>simp at O
 subst aM;have ax:(Instr.findKey 9 (ND s) (mapOf l).toList).run prog W=.ok none W:=by
  unfold Instr.findKey;rw[Sem.run_bind,run_underlying hq W];simp only[Result.andThen_ok,mapOf];rw[h1];rfl
 have eI:∀ b,(Instr.checkKey b 10000 9 (ND s)).run prog W=.ok () W:=by
  intro b;rw[Instr.checkKey,Sem.run_bind,run_underlying hq W];rfl
 have hg:(getObj m).run prog W=.ok (.map (mapOf l) l.length) W:=by simp[getObj,Sem.run,aV]
 unfold Instr.mapUpdate;rw[Sem.run_bind,run_underlying dA W];simp only[Result.andThen_ok,Sem.run_bind,hg,eI,ax];rw[ahX];simp[setObj,Sem.run,aV,OW]
theorem mkMap (T:TypeId)(W:Ny):(Instr.makeMap T none).run prog W=.ok (.map (some W.heap.size)) (W.alloc (.map #[] 0)):=rfl
def Vo:Array NP:=(sgs.flatMap fun e=>[ND e.tx,Nr e.kd,Nr e.parts,Nr e.str]).toArray
theorem avS:Vo.size=56:=by decide +kernel
theorem aCY (k:Nat)(E:k<14)(W:Ny):(Instr.index 276 (.agg Vo) (Nr (k:Int))).run prog W=.ok (sgV (sgs.getD k ⟨NC,0,0,0⟩)) W:=by
 have h:k=0\/k=1\/k=2\/k=3\/k=4\/k=5\/k=6\/k=7\/k=8\/k=9\/k=10\/k=11\/k=12\/k=13:=Nw
 rcases h with rfl|rfl|rfl|rfl|rfl|rfl|rfl|rfl|rfl|rfl|rfl|rfl|rfl|rfl <;> (show _=_;kernel_rfl)
def sgL (j:Nat):List (NR × NP):=(sgs.take j).map fun e=>(e.tx,sgV e)
theorem ai6 {j:Nat}(aT:j<=14):(sgL j).length=j:=by
 unfold sgL;rw[List.length_map,List.length_take];have:sgs.length=14:=rfl;omega
theorem an5 {j:Nat}(aT:j<14):sgL (j+1)=sgL j++[((sgs.getD j ⟨NC,0,0,0⟩).tx,sgV (sgs.getD j ⟨NC,0,0,0⟩))]:=by
 have h:j=0\/j=1\/j=2\/j=3\/j=4\/j=5\/j=6\/j=7\/j=8\/j=9\/j=10\/j=11\/j=12\/j=13:=Nw
 rcases h with rfl|rfl|rfl|rfl|rfl|rfl|rfl|rfl|rfl|rfl|rfl|rfl|rfl|rfl <;> rfl
theorem aq9 {j:Nat}(aT:j<14):(sgL j).find? (fun e=>decide ((sgs.getD j ⟨NC,0,0,0⟩).tx=e.1))=none:=by
 have key:∀ j,j<14->((sgs.take j).map (·.tx)).find? (fun e=>decide ((sgs.getD j ⟨NC,0,0,0⟩).tx=e))=none:=by decide +kernel
 have:=key j aT;unfold sgL;rw[List.find?_map] at this ⊢;simpa[Function.comp_def] using this
theorem Z8 (w:Ny)(t:TypeId)(fr:Nat × Nat)(hg:w.heap[3]? = some (.cells Vo t fr)) :
  NK 146 #[] w fun e w'=>e=NU (.map (some w.heap.size))/\w'.heap[w.heap.size]? = some (.map aiq 14)/\NJ w w':=by
 have gU:Hid ((w.alloc (.map #[] 0)).heap[3]? = some (.cells Vo t fr)):=(Below.heap_alloc w _ 3 (lt_of_heap hg)).trans hg;obtain⟨cs,fF⟩:=xE Vo;have oJ:∀ k:Nat,k<14->∀ W,(Instr.index 276 (.agg cs) (Nr (k:Int))).run prog W=.ok (sgV (sgs.getD k ⟨NC,0,0,0⟩)) W:=by rw[fF];exact aCY
 have c9:cs.size=56:=by rw[fF];exact avS
 rw[<-fF] at gU;have rU:=hide oJ;have sa:=hide c9;have sG:=mkMap 229;clear hg oJ fF c9;go_enter func146,ntmps146
 go_wp2_with (refine wpList_load_row rfl 276 _ rfl 3 rfl t cs fr _ gU.out underlying276 rfl (by rw[sa.out];kernel_rfl) ?_)
 go_loopw [6] (fun i wr=>∃ j:Nat,j<=14/\i=Nr j/\wr.heap[w.heap.size]? = some (.map (mapOf (sgL j)) j)/\NJ w wr) (fun i _=>14 - (intOf i).toNat)
 case atStart=>exact⟨0,Nat.zero_le _,rfl,NG _ _,OM⟩
 case round=>
  obtain⟨j,aT,rfl,aV,D⟩:=hrel;have hU:=hide aV;clear aV
  by_cases aQ:j<14
  ·have eI:=Ns rU j aQ;obtain⟨x,dS⟩:=xH (sgs.getD j ⟨NC,0,0,0⟩);have dc:(wr.alloc (.cells #[ND x.tx,Nr x.kd,Nr x.parts,Nr x.str] 275)).heap[w.heap.size]? = some (.map (mapOf (sgL j)) (sgL j).length):=by
    rw[ai6 Nw];exact(Below.heap_alloc _ _ _ (lt_of_heap hU.out)).trans hU.out
   have Jc:=Yb 229 275 w.heap.size (sgL j) x.tx (sgV x) _ underlying229 dc (by rw[dS.out];exact aq9 aQ)
   rw[<-dS.out] at eI;have dj:=hide dc;simp only[sgV] at eI Jc;clear dc;go_wp2_with fail
   go_roundw
   case rel=>
    refine⟨j+1,by omega,by go_num,?_,Wj (D.alloc D.size _) OH⟩;rw[VR (by simp;have:=D.size;omega),an5 aQ,<-dS.out,ai6 Nw]
    rfl
   case measure=>simp[intOf];omega
  ·have Iu:j=14:=Nw;subst Iu;go_wp2_with fail;go_ret;exact⟨rfl,hU.out,D⟩
theorem ad5 (W:Ny)(m:Nat)(a b:Obj):OW (OW W m a) m b=OW W m b:=by simp[OW]
theorem upd (T kB:TypeId)(m:Nat)(W:Ny)(l:List (NR × NP))(s:NR)(v:NP)(dA:prog.underlying T=some (.map 9 kB))(aV:m<W.heap.size)(aA:l.find? (fun e=>decide (s=e.1))=none) :
  (Instr.mapUpdate T (.map (some m)) (ND s) v).run prog (OW W m (.map (mapOf l) l.length))=.ok () (OW W m (.map (mapOf (l++[(s,v)])) (l.length+1))):=by
 rw[Yb T kB m l s v _ dA (VR aV) aA,ad5]
theorem aCZ (T kB:TypeId)(m:Nat)(W:Ny)(s:NR)(v:NP)(dA:prog.underlying T=some (.map 9 kB))(aV:W.heap[m]? = some (.map #[] 0)) :
  (Instr.mapUpdate T (.map (some m)) (ND s) v).run prog W=.ok () (OW W m (.map (mapOf [(s,v)]) 1)):=
 Yb T kB m [] s v W dA aV rfl
theorem af6 {w w1 X Y Z V:Ny}{l:List Tk}{tb cap R mS:Nat}{cl:Array NP}(aI:Ends l)(h0:0<l.length)(hl:l.length<=3001)(a':w.heap[tb]? = some (Og cl 144))(hcap:l.length<=cap/\cap<=maxLen/\cl.size=cap * 4/\cl.toList.take (l.length * 4)=Qh l)
  (hh:∃ t fr,w.heap[4]? = some (.cells UD t fr)) (gZ:w1.heap[mS]? = some (.map aiq 14)) (Lu:mS=w.heap.size) (D:NJ w w1) (cR:R=w1.heap.size)
  (aj:X=OW ((w1.alloc (.cells #[.slice (some (Nv tb 0)) l.length cap,Nr 0,Nr 0,.map (some mS),.map none,.map none] 233)).alloc (.map #[] 0)) (R+1) (.map (aeF R) 12))
  (cB:Y=X.setCell (Nv R 4) (.map (some (R+1)))) (iB:Z=OW (Y.alloc (.map #[] 0)) (R+2) (.map (air R) 3)) (fV:V=Z.setCell (Nv R 5) (.map (some (R+2)))) :
  OU ⟨R,l,tb,cap,mS,R+1,R+2,R+3⟩ V 0 0/\NJ w V:=by
 have c9:=D.size;have JD:=lt_of_heap a';obtain⟨t4,HE,hh⟩:=hh;have JC:=lt_of_heap hh;have MB:=lt_of_heap gZ;have J7:X.heap.size=R+2:=by rw[aj,Us,cR];simp
 have J8:Y.heap.size=R+2:=by rw[cB,World.size_setCell,J7]
 have J9:Z.heap.size=R+3:=by rw[iB,Us];simp[J8]
 have M7:V.heap.size=R+3:=by rw[fV,World.size_setCell,J9]
 have g5:∀ b,b<R->X.heap[b]? = w1.heap[b]?:=fun b D=>by
  rw[aj,PL Nw,Below.heap_alloc _ _ b Qa,Below.heap_alloc _ _ b Nw]
 have uq:X.heap[R]? = some (Og #[.slice (some (Nv tb 0)) l.length cap,Nr 0,Nr 0,.map (some mS),.map none,.map none] 233):=by
  rw[aj,PL Nw,Below.heap_alloc _ _ R Qa,cR];exact NG _ _
 have gk:X.heap[R+1]? = some (.map (aeF R) 12):=by rw[aj,VR Qa]
 have vl:∀ b,b<R->V.heap[b]? = w1.heap[b]?:=fun b D=>by
  rw[fV,Below.heap_setCell Z (Nv R 5) _ b Qa,iB,PL Nw,Below.heap_alloc _ _ b Nw,cB,Below.heap_setCell X (Nv R 4) _ b Qa];exact g5 b D
 have wQ:Z.heap[R]? = some (Og #[.slice (some (Nv tb 0)) l.length cap,Nr 0,Nr 0,.map (some mS),.map (some (R+1)),.map none] 233):=by
  rw[iB,PL Nw,Below.heap_alloc _ _ R Nw,cB,heap_set uq];rfl
 have Kg:V.heap[R]? = some (Og #[.slice (some (Nv tb 0)) l.length cap,Nr 0,Nr 0,.map (some mS),.map (some (R+1)),.map (some (R+2))] 233):=by
  rw[fV,heap_set wQ];rfl
 have Ki:V.heap[R+1]? = some (.map (aeF R) 12):=by
  rw[fV,Below.heap_setCell Z (Nv R 5) _ (R+1) Oq,iB,PL Nw,Below.heap_alloc _ _ (R+1) Nw,cB,Below.heap_setCell X (Nv R 4) _ (R+1) Oq];exact gk
 have Kj:V.heap[R+2]? = some (.map (air R) 3):=by
  rw[fV,Below.heap_setCell Z (Nv R 5) _ (R+2) Oq,iB,VR Qa]
 have lw:∀ b,b<w.heap.size->V.heap[b]? = w.heap[b]?:=fun b h=>(vl b Nw).trans (D.block b h);refine⟨⟨⟨aI,⟨cl,(lw tb JD).trans a',hcap⟩,?_,(vl mS Nw).trans gZ,?_,Ki,?_,Kj,?_,hl,⟨t4,HE,(lw 4 JC).trans hh⟩,?_,?_,?_⟩,Kg,h0,by decide⟩,?_⟩
 ·show tb≠R;omega
 ·show mS≠R;omega
 ·show R+1≠R;omega
 ·show R+2≠R;omega
 ·show 4≠R;omega
 ·show tb<R+3/\mS<R+3/\R+1<R+3/\R+2<R+3/\4<R+3/\R<R+3;omega
 ·show R+3<=V.heap.size;omega
 ·have Hf:NJ w X:=by rw[aj];exact Wj ((D.alloc c9 _).alloc Qa _) Nw
  have C8:NJ w Y:=by rw[cB];exact Hf.setCell (p:=(Nv R 4)) (by show w.heap.size<=R;omega) _
  have Hg:NJ w Z:=by rw[iB];exact Wj (C8.alloc C8.size _) Nw
  rw[fV];exact Hg.setCell (p:=(Nv R 5)) (by show w.heap.size<=R;omega) _
theorem ab4 (w:Ny)(l:List Tk)(tb cap:Nat)(cl:Array NP)(aI:Ends l)(h0:0<l.length)(hl:l.length<=3001)(a':w.heap[tb]? = some (Og cl 144))(hcap:l.length<=cap/\cap<=maxLen/\cl.size=cap * 4/\cl.toList.take (l.length * 4)=Qh l)
  (hh:∃ t fr,w.heap[4]? = some (.cells UD t fr)) (qz:∃ t fr,w.heap[3]? = some (.cells Vo t fr)) :
  NK 70 #[.slice (some (Nv tb 0)) l.length cap] w fun e w'=>∃ c:Ctx,e=NU (Ov c)/\c.l=l/\w.heap.size<=c.R/\OU c w' 0 0/\NJ w w':=by
 obtain⟨t3,zJ,qz⟩:=qz;have ah:=(Z8 w t3 zJ qz);have yZ:=fun(w1 X Y Z V:Ny) (R:Nat)=>af6 (w:=w) (w1:=w1) (X:=X) (Y:=Y) (Z:=Z) (V:=V) (R:=R) (mS:=w.heap.size) aI h0 hl a' hcap hh;have F6:=hide yZ;have sG:=mkMap 231;clear qz yZ h0 hl a' hcap hh;go_enter func70,ntmps70;go_wp2_with fail;refine cm ah ?_;rintro e w1 ⟨rfl,nO,b4⟩;have jB:=hide nO;clear nO
 have fZ:((w1.alloc (.cells #[.slice (some (Nv tb 0)) l.length cap,Nr 0,Nr 0,.map (some w.heap.size),.map none,.map none] 233)).alloc (.map #[] 0)).heap.size=w1.heap.size+2:=by simp
 have EO:((w1.alloc (.cells #[.slice (some (Nv tb 0)) l.length cap,Nr 0,Nr 0,.map (some w.heap.size),.map none,.map none] 233)).alloc (.map #[] 0)).heap[w1.heap.size+1]? = some (.map #[] 0):=by
  have:=NG (w1.alloc (.cells #[.slice (some (Nv tb 0)) l.length cap,Nr 0,Nr 0,.map (some w.heap.size),.map none,.map none] 233)) (.map #[] 0);simpa using this
 have EX:(w1.alloc (.cells #[.slice (some (Nv tb 0)) l.length cap,Nr 0,Nr 0,.map (some w.heap.size),.map none,.map none] 233)).heap[w1.heap.size]? = some (.cells #[.slice (some (Nv tb 0)) l.length cap,Nr 0,Nr 0,.map (some w.heap.size),.map none,.map none] 233):=NG _ _;obtain⟨CS,zW⟩:∃ X,X=OW ((w1.alloc (.cells #[.slice (some (Nv tb 0)) l.length cap,Nr 0,Nr 0,.map (some w.heap.size),.map none,.map none] 233)).alloc (.map #[] 0)) (w1.heap.size+1) (.map (mapOf [(TI,.func (.func 147) #[NM w1.heap.size 0] #[])]) 1):=⟨_,rfl⟩
 have g4:(Instr.mapUpdate 231 (.map (some (w1.heap.size+1))) (ND TI) (.func (.func 147) #[NM w1.heap.size 0] #[])).run prog ((w1.alloc (.cells #[.slice (some (Nv tb 0)) l.length cap,Nr 0,Nr 0,.map (some w.heap.size),.map none,.map none] 233)).alloc (.map #[] 0))=.ok () CS:=by rw[zW];exact aCZ 231 281 (w1.heap.size+1) _ _ _ underlying231 EO
 obtain⟨CV,zZ⟩:∃ X,X=OW ((w1.alloc (.cells #[.slice (some (Nv tb 0)) l.length cap,Nr 0,Nr 0,.map (some w.heap.size),.map none,.map none] 233)).alloc (.map #[] 0)) (w1.heap.size+1) (.map (mapOf [(TI,.func (.func 147) #[NM w1.heap.size 0] #[]),(UH,.func (.func 147) #[NM w1.heap.size 0] #[])]) 2):=⟨_,rfl⟩
 have gR:(Instr.mapUpdate 231 (.map (some (w1.heap.size+1))) (ND UH) (.func (.func 147) #[NM w1.heap.size 0] #[])).run prog CS=.ok () CV:=by rw[zW,zZ];exact upd 231 281 (w1.heap.size+1) _ [(TI,.func (.func 147) #[NM w1.heap.size 0] #[])] _ _ underlying231 (by rw[fZ];omega) (by rfl)
 obtain⟨CW,z1⟩:∃ X,X=OW ((w1.alloc (.cells #[.slice (some (Nv tb 0)) l.length cap,Nr 0,Nr 0,.map (some w.heap.size),.map none,.map none] 233)).alloc (.map #[] 0)) (w1.heap.size+1) (.map (mapOf [(TI,.func (.func 147) #[NM w1.heap.size 0] #[]),(UH,.func (.func 147) #[NM w1.heap.size 0] #[]),(QB,.func (.func 147) #[NM w1.heap.size 0] #[])]) 3):=⟨_,rfl⟩
 have j7:(Instr.mapUpdate 231 (.map (some (w1.heap.size+1))) (ND QB) (.func (.func 147) #[NM w1.heap.size 0] #[])).run prog CV=.ok () CW:=by rw[zZ,z1];exact upd 231 281 (w1.heap.size+1) _ [(TI,.func (.func 147) #[NM w1.heap.size 0] #[]),(UH,.func (.func 147) #[NM w1.heap.size 0] #[])] _ _ underlying231 (by rw[fZ];omega) (by rfl)
 obtain⟨CX,z6⟩:∃ X,X=OW ((w1.alloc (.cells #[.slice (some (Nv tb 0)) l.length cap,Nr 0,Nr 0,.map (some w.heap.size),.map none,.map none] 233)).alloc (.map #[] 0)) (w1.heap.size+1) (.map (mapOf [(TI,.func (.func 147) #[NM w1.heap.size 0] #[]),(UH,.func (.func 147) #[NM w1.heap.size 0] #[]),(QB,.func (.func 147) #[NM w1.heap.size 0] #[]),(Ol,.func (.func 148) #[NM w1.heap.size 0] #[])]) 4):=⟨_,rfl⟩
 have um:(Instr.mapUpdate 231 (.map (some (w1.heap.size+1))) (ND Ol) (.func (.func 148) #[NM w1.heap.size 0] #[])).run prog CW=.ok () CX:=by rw[z1,z6];exact upd 231 281 (w1.heap.size+1) _ [(TI,.func (.func 147) #[NM w1.heap.size 0] #[]),(UH,.func (.func 147) #[NM w1.heap.size 0] #[]),(QB,.func (.func 147) #[NM w1.heap.size 0] #[])] _ _ underlying231 (by rw[fZ];omega) (by rfl)
 obtain⟨CY,z7⟩:∃ X,X=OW ((w1.alloc (.cells #[.slice (some (Nv tb 0)) l.length cap,Nr 0,Nr 0,.map (some w.heap.size),.map none,.map none] 233)).alloc (.map #[] 0)) (w1.heap.size+1) (.map (mapOf [(TI,.func (.func 147) #[NM w1.heap.size 0] #[]),(UH,.func (.func 147) #[NM w1.heap.size 0] #[]),(QB,.func (.func 147) #[NM w1.heap.size 0] #[]),(Ol,.func (.func 148) #[NM w1.heap.size 0] #[]),(OV,.func (.func 149) #[NM w1.heap.size 0] #[])]) 5):=⟨_,rfl⟩
 have wN:(Instr.mapUpdate 231 (.map (some (w1.heap.size+1))) (ND OV) (.func (.func 149) #[NM w1.heap.size 0] #[])).run prog CX=.ok () CY:=by rw[z6,z7];exact upd 231 281 (w1.heap.size+1) _ [(TI,.func (.func 147) #[NM w1.heap.size 0] #[]),(UH,.func (.func 147) #[NM w1.heap.size 0] #[]),(QB,.func (.func 147) #[NM w1.heap.size 0] #[]),(Ol,.func (.func 148) #[NM w1.heap.size 0] #[])] _ _ underlying231 (by rw[fZ];omega) (by rfl)
 obtain⟨CZ,z8⟩:∃ X,X=OW ((w1.alloc (.cells #[.slice (some (Nv tb 0)) l.length cap,Nr 0,Nr 0,.map (some w.heap.size),.map none,.map none] 233)).alloc (.map #[] 0)) (w1.heap.size+1) (.map (mapOf [(TI,.func (.func 147) #[NM w1.heap.size 0] #[]),(UH,.func (.func 147) #[NM w1.heap.size 0] #[]),(QB,.func (.func 147) #[NM w1.heap.size 0] #[]),(Ol,.func (.func 148) #[NM w1.heap.size 0] #[]),(OV,.func (.func 149) #[NM w1.heap.size 0] #[]),(O5,.func (.func 150) #[NM w1.heap.size 0] #[])]) 6):=⟨_,rfl⟩
 have Kb:(Instr.mapUpdate 231 (.map (some (w1.heap.size+1))) (ND O5) (.func (.func 150) #[NM w1.heap.size 0] #[])).run prog CY=.ok () CZ:=by rw[z7,z8];exact upd 231 281 (w1.heap.size+1) _ [(TI,.func (.func 147) #[NM w1.heap.size 0] #[]),(UH,.func (.func 147) #[NM w1.heap.size 0] #[]),(QB,.func (.func 147) #[NM w1.heap.size 0] #[]),(Ol,.func (.func 148) #[NM w1.heap.size 0] #[]),(OV,.func (.func 149) #[NM w1.heap.size 0] #[])] _ _ underlying231 (by rw[fZ];omega) (by rfl)
 obtain⟨C0,z'⟩:∃ X,X=OW ((w1.alloc (.cells #[.slice (some (Nv tb 0)) l.length cap,Nr 0,Nr 0,.map (some w.heap.size),.map none,.map none] 233)).alloc (.map #[] 0)) (w1.heap.size+1) (.map (mapOf [(TI,.func (.func 147) #[NM w1.heap.size 0] #[]),(UH,.func (.func 147) #[NM w1.heap.size 0] #[]),(QB,.func (.func 147) #[NM w1.heap.size 0] #[]),(Ol,.func (.func 148) #[NM w1.heap.size 0] #[]),(OV,.func (.func 149) #[NM w1.heap.size 0] #[]),(O5,.func (.func 150) #[NM w1.heap.size 0] #[]),(tIf,.func (.func 151) #[NM w1.heap.size 0] #[])]) 7):=⟨_,rfl⟩
 have EZ:(Instr.mapUpdate 231 (.map (some (w1.heap.size+1))) (ND tIf) (.func (.func 151) #[NM w1.heap.size 0] #[])).run prog CZ=.ok () C0:=by rw[z8,z'];exact upd 231 281 (w1.heap.size+1) _ [(TI,.func (.func 147) #[NM w1.heap.size 0] #[]),(UH,.func (.func 147) #[NM w1.heap.size 0] #[]),(QB,.func (.func 147) #[NM w1.heap.size 0] #[]),(Ol,.func (.func 148) #[NM w1.heap.size 0] #[]),(OV,.func (.func 149) #[NM w1.heap.size 0] #[]),(O5,.func (.func 150) #[NM w1.heap.size 0] #[])] _ _ underlying231 (by rw[fZ];omega) (by rfl)
 obtain⟨C1,Aa⟩:∃ X,X=OW ((w1.alloc (.cells #[.slice (some (Nv tb 0)) l.length cap,Nr 0,Nr 0,.map (some w.heap.size),.map none,.map none] 233)).alloc (.map #[] 0)) (w1.heap.size+1) (.map (mapOf [(TI,.func (.func 147) #[NM w1.heap.size 0] #[]),(UH,.func (.func 147) #[NM w1.heap.size 0] #[]),(QB,.func (.func 147) #[NM w1.heap.size 0] #[]),(Ol,.func (.func 148) #[NM w1.heap.size 0] #[]),(OV,.func (.func 149) #[NM w1.heap.size 0] #[]),(O5,.func (.func 150) #[NM w1.heap.size 0] #[]),(tIf,.func (.func 151) #[NM w1.heap.size 0] #[]),(Ux,.func (.func 152) #[NM w1.heap.size 0] #[])]) 8):=⟨_,rfl⟩
 have Kc:(Instr.mapUpdate 231 (.map (some (w1.heap.size+1))) (ND Ux) (.func (.func 152) #[NM w1.heap.size 0] #[])).run prog C0=.ok () C1:=by rw[z',Aa];exact upd 231 281 (w1.heap.size+1) _ [(TI,.func (.func 147) #[NM w1.heap.size 0] #[]),(UH,.func (.func 147) #[NM w1.heap.size 0] #[]),(QB,.func (.func 147) #[NM w1.heap.size 0] #[]),(Ol,.func (.func 148) #[NM w1.heap.size 0] #[]),(OV,.func (.func 149) #[NM w1.heap.size 0] #[]),(O5,.func (.func 150) #[NM w1.heap.size 0] #[]),(tIf,.func (.func 151) #[NM w1.heap.size 0] #[])] _ _ underlying231 (by rw[fZ];omega) (by rfl)
 obtain⟨C2,Ab⟩:∃ X,X=OW ((w1.alloc (.cells #[.slice (some (Nv tb 0)) l.length cap,Nr 0,Nr 0,.map (some w.heap.size),.map none,.map none] 233)).alloc (.map #[] 0)) (w1.heap.size+1) (.map (mapOf [(TI,.func (.func 147) #[NM w1.heap.size 0] #[]),(UH,.func (.func 147) #[NM w1.heap.size 0] #[]),(QB,.func (.func 147) #[NM w1.heap.size 0] #[]),(Ol,.func (.func 148) #[NM w1.heap.size 0] #[]),(OV,.func (.func 149) #[NM w1.heap.size 0] #[]),(O5,.func (.func 150) #[NM w1.heap.size 0] #[]),(tIf,.func (.func 151) #[NM w1.heap.size 0] #[]),(Ux,.func (.func 152) #[NM w1.heap.size 0] #[]),(WJ,.func (.func 152) #[NM w1.heap.size 0] #[])]) 9):=⟨_,rfl⟩
 have Kd:(Instr.mapUpdate 231 (.map (some (w1.heap.size+1))) (ND WJ) (.func (.func 152) #[NM w1.heap.size 0] #[])).run prog C1=.ok () C2:=by rw[Aa,Ab];exact upd 231 281 (w1.heap.size+1) _ [(TI,.func (.func 147) #[NM w1.heap.size 0] #[]),(UH,.func (.func 147) #[NM w1.heap.size 0] #[]),(QB,.func (.func 147) #[NM w1.heap.size 0] #[]),(Ol,.func (.func 148) #[NM w1.heap.size 0] #[]),(OV,.func (.func 149) #[NM w1.heap.size 0] #[]),(O5,.func (.func 150) #[NM w1.heap.size 0] #[]),(tIf,.func (.func 151) #[NM w1.heap.size 0] #[]),(Ux,.func (.func 152) #[NM w1.heap.size 0] #[])] _ _ underlying231 (by rw[fZ];omega) (by rfl)
 obtain⟨CT,zX⟩:∃ X,X=OW ((w1.alloc (.cells #[.slice (some (Nv tb 0)) l.length cap,Nr 0,Nr 0,.map (some w.heap.size),.map none,.map none] 233)).alloc (.map #[] 0)) (w1.heap.size+1) (.map (mapOf [(TI,.func (.func 147) #[NM w1.heap.size 0] #[]),(UH,.func (.func 147) #[NM w1.heap.size 0] #[]),(QB,.func (.func 147) #[NM w1.heap.size 0] #[]),(Ol,.func (.func 148) #[NM w1.heap.size 0] #[]),(OV,.func (.func 149) #[NM w1.heap.size 0] #[]),(O5,.func (.func 150) #[NM w1.heap.size 0] #[]),(tIf,.func (.func 151) #[NM w1.heap.size 0] #[]),(Ux,.func (.func 152) #[NM w1.heap.size 0] #[]),(WJ,.func (.func 152) #[NM w1.heap.size 0] #[]),(Vf,.func (.func 153) #[NM w1.heap.size 0] #[])]) 10):=⟨_,rfl⟩
 have Na:(Instr.mapUpdate 231 (.map (some (w1.heap.size+1))) (ND Vf) (.func (.func 153) #[NM w1.heap.size 0] #[])).run prog C2=.ok () CT:=by rw[Ab,zX];exact upd 231 281 (w1.heap.size+1) _ [(TI,.func (.func 147) #[NM w1.heap.size 0] #[]),(UH,.func (.func 147) #[NM w1.heap.size 0] #[]),(QB,.func (.func 147) #[NM w1.heap.size 0] #[]),(Ol,.func (.func 148) #[NM w1.heap.size 0] #[]),(OV,.func (.func 149) #[NM w1.heap.size 0] #[]),(O5,.func (.func 150) #[NM w1.heap.size 0] #[]),(tIf,.func (.func 151) #[NM w1.heap.size 0] #[]),(Ux,.func (.func 152) #[NM w1.heap.size 0] #[]),(WJ,.func (.func 152) #[NM w1.heap.size 0] #[])] _ _ underlying231 (by rw[fZ];omega) (by rfl)
 obtain⟨CU,zY⟩:∃ X,X=OW ((w1.alloc (.cells #[.slice (some (Nv tb 0)) l.length cap,Nr 0,Nr 0,.map (some w.heap.size),.map none,.map none] 233)).alloc (.map #[] 0)) (w1.heap.size+1) (.map (mapOf [(TI,.func (.func 147) #[NM w1.heap.size 0] #[]),(UH,.func (.func 147) #[NM w1.heap.size 0] #[]),(QB,.func (.func 147) #[NM w1.heap.size 0] #[]),(Ol,.func (.func 148) #[NM w1.heap.size 0] #[]),(OV,.func (.func 149) #[NM w1.heap.size 0] #[]),(O5,.func (.func 150) #[NM w1.heap.size 0] #[]),(tIf,.func (.func 151) #[NM w1.heap.size 0] #[]),(Ux,.func (.func 152) #[NM w1.heap.size 0] #[]),(WJ,.func (.func 152) #[NM w1.heap.size 0] #[]),(Vf,.func (.func 153) #[NM w1.heap.size 0] #[]),(Y2,.func (.func 153) #[NM w1.heap.size 0] #[])]) 11):=⟨_,rfl⟩
 have Nc:(Instr.mapUpdate 231 (.map (some (w1.heap.size+1))) (ND Y2) (.func (.func 153) #[NM w1.heap.size 0] #[])).run prog CT=.ok () CU:=by rw[zX,zY];exact upd 231 281 (w1.heap.size+1) _ [(TI,.func (.func 147) #[NM w1.heap.size 0] #[]),(UH,.func (.func 147) #[NM w1.heap.size 0] #[]),(QB,.func (.func 147) #[NM w1.heap.size 0] #[]),(Ol,.func (.func 148) #[NM w1.heap.size 0] #[]),(OV,.func (.func 149) #[NM w1.heap.size 0] #[]),(O5,.func (.func 150) #[NM w1.heap.size 0] #[]),(tIf,.func (.func 151) #[NM w1.heap.size 0] #[]),(Ux,.func (.func 152) #[NM w1.heap.size 0] #[]),(WJ,.func (.func 152) #[NM w1.heap.size 0] #[]),(Vf,.func (.func 153) #[NM w1.heap.size 0] #[])] _ _ underlying231 (by rw[fZ];omega) (by rfl)
 obtain⟨mN,vB⟩:∃ X,X=OW ((w1.alloc (.cells #[.slice (some (Nv tb 0)) l.length cap,Nr 0,Nr 0,.map (some w.heap.size),.map none,.map none] 233)).alloc (.map #[] 0)) (w1.heap.size+1) (.map (mapOf [(TI,.func (.func 147) #[NM w1.heap.size 0] #[]),(UH,.func (.func 147) #[NM w1.heap.size 0] #[]),(QB,.func (.func 147) #[NM w1.heap.size 0] #[]),(Ol,.func (.func 148) #[NM w1.heap.size 0] #[]),(OV,.func (.func 149) #[NM w1.heap.size 0] #[]),(O5,.func (.func 150) #[NM w1.heap.size 0] #[]),(tIf,.func (.func 151) #[NM w1.heap.size 0] #[]),(Ux,.func (.func 152) #[NM w1.heap.size 0] #[]),(WJ,.func (.func 152) #[NM w1.heap.size 0] #[]),(Vf,.func (.func 153) #[NM w1.heap.size 0] #[]),(Y2,.func (.func 153) #[NM w1.heap.size 0] #[]),(ZL,.func (.func 154) #[NM w1.heap.size 0] #[])]) 12):=⟨_,rfl⟩
 have Nf:(Instr.mapUpdate 231 (.map (some (w1.heap.size+1))) (ND ZL) (.func (.func 154) #[NM w1.heap.size 0] #[])).run prog CU=.ok () mN:=by rw[zY,vB];exact upd 231 281 (w1.heap.size+1) _ [(TI,.func (.func 147) #[NM w1.heap.size 0] #[]),(UH,.func (.func 147) #[NM w1.heap.size 0] #[]),(QB,.func (.func 147) #[NM w1.heap.size 0] #[]),(Ol,.func (.func 148) #[NM w1.heap.size 0] #[]),(OV,.func (.func 149) #[NM w1.heap.size 0] #[]),(O5,.func (.func 150) #[NM w1.heap.size 0] #[]),(tIf,.func (.func 151) #[NM w1.heap.size 0] #[]),(Ux,.func (.func 152) #[NM w1.heap.size 0] #[]),(WJ,.func (.func 152) #[NM w1.heap.size 0] #[]),(Vf,.func (.func 153) #[NM w1.heap.size 0] #[]),(Y2,.func (.func 153) #[NM w1.heap.size 0] #[])] _ _ underlying231 (by rw[fZ];omega) (by rfl)
 have uq:mN.heap[w1.heap.size]? = some (.cells #[.slice (some (Nv tb 0)) l.length cap,Nr 0,Nr 0,.map (some w.heap.size),.map none,.map none] 233):=by rw[vB,PL Nw,Below.heap_alloc _ _ _ Oq];exact EX
 have BE:mN.heap.size=w1.heap.size+2:=by rw[vB,Us,fZ]
 have E4:(mN.setCell (Nv w1.heap.size 4) (.map (some (w1.heap.size+1)))).heap[w1.heap.size]? = some (.cells #[.slice (some (Nv tb 0)) l.length cap,Nr 0,Nr 0,.map (some w.heap.size),.map (some (w1.heap.size+1)),.map none] 233):=by rw[heap_set uq];rfl
 have z0:((mN.setCell (Nv w1.heap.size 4) (.map (some (w1.heap.size+1)))).alloc (.map #[] 0)).heap.size=w1.heap.size+3:=by simp[BE]
 have dm:((mN.setCell (Nv w1.heap.size 4) (.map (some (w1.heap.size+1)))).alloc (.map #[] 0)).heap[w1.heap.size+2]? = some (.map #[] 0):=by
  have:=NG (mN.setCell (Nv w1.heap.size 4) (.map (some (w1.heap.size+1)))) (.map #[] 0);rw[World.size_setCell,BE] at this;exact this
 obtain⟨C3,Ac⟩:∃ Z,Z=OW ((mN.setCell (Nv w1.heap.size 4) (.map (some (w1.heap.size+1)))).alloc (.map #[] 0)) (w1.heap.size+2) (.map (mapOf [(Qi,.func (.func 155) #[NM w1.heap.size 0] #[])]) 1):=⟨_,rfl⟩;have v1:(Instr.mapUpdate 231 (.map (some (w1.heap.size+2))) (ND Qi) (.func (.func 155) #[NM w1.heap.size 0] #[])).run prog ((mN.setCell (Nv w1.heap.size 4) (.map (some (w1.heap.size+1)))).alloc (.map #[] 0))=.ok () C3:=by rw[Ac];exact aCZ 231 281 (w1.heap.size+2) _ _ _ underlying231 dm
 obtain⟨C4,Ae⟩:∃ Z,Z=OW ((mN.setCell (Nv w1.heap.size 4) (.map (some (w1.heap.size+1)))).alloc (.map #[] 0)) (w1.heap.size+2) (.map (mapOf [(Qi,.func (.func 155) #[NM w1.heap.size 0] #[]),(OV,.func (.func 156) #[NM w1.heap.size 0] #[])]) 2):=⟨_,rfl⟩;have v2:(Instr.mapUpdate 231 (.map (some (w1.heap.size+2))) (ND OV) (.func (.func 156) #[NM w1.heap.size 0] #[])).run prog C3=.ok () C4:=by rw[Ac,Ae];exact upd 231 281 (w1.heap.size+2) _ [(Qi,.func (.func 155) #[NM w1.heap.size 0] #[])] _ _ underlying231 (by rw[z0];omega) (by rfl)
 obtain⟨ve,xz⟩:∃ Z,Z=OW ((mN.setCell (Nv w1.heap.size 4) (.map (some (w1.heap.size+1)))).alloc (.map #[] 0)) (w1.heap.size+2) (.map (mapOf [(Qi,.func (.func 155) #[NM w1.heap.size 0] #[]),(OV,.func (.func 156) #[NM w1.heap.size 0] #[]),(Ol,.func (.func 157) #[NM w1.heap.size 0] #[])]) 3):=⟨_,rfl⟩
 have v3:(Instr.mapUpdate 231 (.map (some (w1.heap.size+2))) (ND Ol) (.func (.func 157) #[NM w1.heap.size 0] #[])).run prog C4=.ok () ve:=by rw[Ae,xz];exact upd 231 281 (w1.heap.size+2) _ [(Qi,.func (.func 155) #[NM w1.heap.size 0] #[]),(OV,.func (.func 156) #[NM w1.heap.size 0] #[])] _ _ underlying231 (by rw[z0];omega) (by rfl)
 have wQ:ve.heap[w1.heap.size]? = some (.cells #[.slice (some (Nv tb 0)) l.length cap,Nr 0,Nr 0,.map (some w.heap.size),.map (some (w1.heap.size+1)),.map none] 233):=by rw[xz,PL Nw,Below.heap_alloc _ _ _ (by rw[World.size_setCell,BE];omega)];exact E4
 have a4:mN.cell? (Nv w1.heap.size 4)=some (.map none):=by rw[cell_of uq];rfl
 have Kx:=QM uq 4;have a5:ve.cell? (Nv w1.heap.size 5)=some (.map none):=by rw[cell_of wQ];rfl
 have Kz:=QM wQ 5;have Fc:=hide (F6.out w1 mN _ ve (ve.setCell (Nv w1.heap.size 5) (.map (some (w1.heap.size+2)))) w1.heap.size jB.out (by first|rfl|trivial) b4 rfl (by rw[vB];rfl) rfl (by rw[xz];rfl) rfl)
 have p2:Hid (w.heap.size<=w1.heap.size):=b4.size;clear zW zZ z1 z6 z7 z8 z' Aa Ab zX zY vB Ac Ae xz uq E4 wQ EX EO dm z0 fZ;go_wp2_with fail;go_ret;obtain⟨cO,cP⟩:=Ns Fc;exact⟨_,rfl,rfl,p2.out,cO,cP⟩
theorem afU {c:Ctx}{F:Rq}(ak:FC c F)(hN:∃ k,FNx c.l k F)(A:FOk F)(w:Ny)(r:PR Tr)(ae:Ui c.l F=r)(aM:r≠.out)(h:OU c w 0 0):NK 71 #[Ov c] w (Pm c w 0 (NV w.heap.size) r):=by
 have im:=PU c.R 160;have dw:=h.base.ends;have dV:=hide h.base.len;have z:=kk (∀{G}(h:G:=by
 have fA:=(Ap.refl c.R w.heap.size w);have bS:=hide h.YV;have ny:=hide hN;unfold Ui at ae;have ba:=hide ae;have dr:=hide aM;clear ae aM hN;go_enter func71,ntmps71;go_wp2_with fail
 go_loopw [3] (fun v wr=>∃ k be j,(Qj c.l F k be j).bind (fun am i=>PR.ok (TL (.mk 1 NC 0 am)) i)=r/\OU c wr j 0/\Ap c.R w.heap.size w wr/\KV w.heap.size wr be v/\be.length<=j/\∀ t ∈ be,t.kd=15->∃ v r,t.kids=v::r) (fun _ wr=>c.l.length - nxt c wr)
 case atStart=>exact⟨F.fuel,[],0,ba.out,h,fA,KV.nil _ _,Nat.zero_le _,fun _ aO=>absurd aO Oq⟩
 case round=>
  obtain⟨k,be,j,ag,a8,gv,nM,h5,nL⟩:=hrel;have B1:=hide nL;clear nL h
  cases k with
  | zero=>exact absurd ag.symm dr.out
  | succ k=>
   have dz:=Ns dV;have m5:=a8.lt;have bj:=a8;have oh:=a8;have p2:=hide h5;have fG:=aai (Ox c.l j)
   by_cases ac:(Ox c.l j).kd=6
   ·have bo:Hid (PR.ok (TL (.mk 1 NC 0 be)) j=r):=by
     unfold Qj at ag;rw[if_pos ac,bind_ok] at ag;exact ag
    have He:((Ox c.l j).kd != 6)=false:=by rw[ac];rfl
    have ah:=(QF c wr j 0 a8);unfold tkV at ah;obtain⟨va,dv,rfl⟩:=nM.shape;clear ag h5 ac;have z:=kk (∀{G}(h:G:=by
    have jz:=(KV.later nM (Ap.of bm) bS.out);have ah:=(OT 1 NC (.slice va be.length dv) ao ⟨_,_,_,rfl⟩);go_wp2_with fail;refine cm ah ?_;rintro e e9 ⟨rfl,rfl⟩;obtain⟨cO,cP,c'⟩:=ZE c8 ji jz 1 NC _ rfl;have ah:=(W9 w.heap.size (.mk 1 NC 0 be) (Nu ao.heap.size) _ cO (fun bV bQ iQ i7=>Ns B1 bV (by have e4:be=bV::bQ:=iQ;rw[e4];simp) i7))
    go_wp2_with fail;refine cm ah ?_;rintro e b' ⟨rfl,br,fw⟩;have fM:=(cP.ap fw i1.out);have mH:=(c'.trans (Ap.of fw));go_wp2_with fail;go_ret;exact RG bo.out.symm br.nv fM mH),G);exact anW
   ·have bo:Hid ((OL c.l F.st 0 j).bind (fun t a7=>(Qj c.l F k (be++[t]) a7).bind fun am i=>PR.ok (TL (.mk 1 NC 0 am)) i)=r):=by
     unfold Qj at ag;rw[if_neg ac] at ag;rw[<-ag]
     cases OL c.l F.st 0 j <;> rfl
    have He:((Ox c.l j).kd != 6)=true:=bne_iff_ne.2 ac;have ah:=(QF c wr j 0 a8);unfold tkV at ah;clear ag h5 ac
    cases U:OL c.l F.st 0 j with
    | out=>
     exact avt
    | bad er p=>
     have bY:=hide U;rw[U] at bo;simp only[OE] at bo;clear U;have z:=kk (∀{G}(h:G:=by
     have ah:=(ZF ak ao 0 j c8 (by rw[bY.out];nofun))
     exact aBD),G);exact anW
    | ok t cK=>
     have bY:=hide U;rw[U] at bo;simp only[bind_ok] at bo;clear U;have z:=kk (∀{G}(h:G:=by
     have jz:=(KV.later nM (Ap.of bm) bS.out);have ah:=(ZF ak ao 0 j c8 (by rw[bY.out];nofun))
     have z:=kk (∀{G}(h:G:=by
     have kR:j<cK:=by
      obtain⟨kk,cM⟩:=Ns ny;exact((Qk (l:=c.l) (d:=0) (cM.st (0+1) j m5)).2 t cK bY.out).1
     have z:=kk (∀{G}(h:G:=by
     go_roundw
     case rel=>exact⟨k,be++[t],cK,bo.out,fM,mH,lZ,by simp;omega,fun u aO=>by
       rcases List.mem_append.1 aO with aO|aO
       ·exact Ns B1 u aO
       ·rw[List.mem_singleton] at aO;subst aO;exact A _ _ _ _ (af7 bY.out)⟩
     case measure=>rw[TF fM,TF oh];omega),G);exact aBX),G);exact aCb),G);exact anW),G);exact akN
theorem catch_idle (p q:Addr)(w:Ny) :
  CallsD prog 69 #[.pointer (some p),.pointer (some q)] .returning w fun e fR w'=>e=NU (.tuple #[])/\fR=.returning/\w'=w:=by
 refine callsD_of_wpS func69 rfl fun c₀ cs aO=>?_;apply wpS_seq;apply wpS_region;simp[wpOpsS,go_sem,recoverD,aO,ntmps69,Exit.thenS];apply wpS_seq;apply wpS_seq;apply wpS_region;simp[wpOpsS,go_sem,Exit.thenS];refine wpS_cond (t:=true) (by simp[Act.eval,Array.replicate]) ?_;simp only[if_true];refine wpS_of_wp ?_;refine wp_ret ?_;cases c₀
 simp_all [bodyPostS,results,results69,Exit.thenS]
theorem af8 (p q:Nat)(er:Int)(pl:Nat)(w:Ny)(a b:NP)(al:w.cell? (Nv p 0)=some a)(L8:∀ o,w.frozen? (Nv p o)=false)(ag:w.cell? (Nv q 0)=some b)(Ma:∀ o,w.frozen? (Nv q o)=false)(Md:¬ q=p)(eY:p<w.heap.size)(dL:q<w.heap.size) :
  CallsD prog 69 #[NM p 0,NM q 0] (.panicking (YW er pl)) w fun e fR w'=>
   e=NU (.tuple #[])/\fR=.panicking [{ v:=.iface 148 (.agg #[Nr er,Nr (pl:Int)]),recovered:=true }]/\w'=((((w.setCell (Nv p 0) Qb).setCell (Nv q 0) (.iface 150 (NM (w.heap.size+1) 0))).alloc (.cells #[Nr er,Nr (pl:Int)] 148)).alloc (.cells #[Nr er,Nr (pl:Int)] 152)).drew:=by
 refine callsD_of_wpS func69 rfl fun c₀ cs aO=>?_;unfold YW at aO;have ta:∀ W:Ny,(Instr.typeAssert (.iface 148 (.agg #[Nr er,Nr (pl:Int)])) 20 148 true).run prog W=.ok (.tuple #[.agg #[Nr er,Nr (pl:Int)],NI true]) W:=fun W=>by kernel_rfl
 rw[ntmps69];rw[show (#[NM p 0,NM q 0]:Array NP)++Array.replicate (23 - (#[NM p 0,NM q 0]:Array NP).size) undef=#[NM p 0,NM q 0,undef,undef,undef,undef,undef,undef,undef,undef,undef,undef,undef,undef,undef,undef,undef,undef,undef,undef,undef,undef,undef] from by kernel_rfl];apply wpS_seq;apply wpS_region;simp[wpOpsS,go_sem,recoverD,aO,Exit.thenS];apply wpS_seq;apply wpS_seq;apply wpS_region;simp[wpOpsS,go_sem,Exit.thenS];refine wpS_cond (t:=false) (by simp[Act.eval]) ?_;simp only[Bool.false_eq_true,if_false]
 refine wpS_of_wp (wp_skip ?_);simp only[Exit.thenS];apply wpS_seq;apply wpS_region;simp[wpOpsS,go_sem,Exit.thenS,ta];apply wpS_seq;refine wpS_of_wp ?_;go_wp2_with fail;simp only[Exit.thenS];refine wpS_of_wp ?_
 go_region
 simp[bodyPostS,results,results69]
def abv (r:PR Tr)(w:Ny)(e:Ending)(w':Ny):Prop:=
 match r with
 | .ok t _=>∃ p,e=NU (.tuple #[Nu p,.nilIface])/\O7 (From w.heap.size) w' t p/\NJ w w'
 | .bad er pl=>∃ b,e=NU (.tuple #[.pointer none,.iface 150 (NM b 0)])/\w'.heap[b]? = some (Og #[Nr er,Nr (pl:Int)] 152)/\w.heap.size<=b/\NJ w w'
 | .out=>True
abbrev RW (w:Ny):Ny:=(w.alloc (.cells #[.pointer none] 22)).alloc (.cells #[.nilIface] 31)
theorem aq8 (w:Ny)(l:List Tk)(tb cap:Nat)(t:Tr)(j:Nat)
  (dE:NK 70 #[.slice (some (Nv tb 0)) l.length cap] (RW w) fun e w'=>∃ c:Ctx,e=NU (Ov c)/\c.l=l/\(RW w).heap.size<=c.R/\OU c w' 0 0/\Below (RW w).heap.size (RW w) w')
  (HP:∀ (c:Ctx) (W:Ny),c.l=l->OU c W 0 0->NK 71 #[Ov c] W (Pm c W 0 (NV W.heap.size) (.ok t j))) :
  NK 34 #[.slice (some (Nv tb 0)) l.length cap] w (abv (.ok t j) w):=by
 have z:=kk (∀{G}(h:G:=by
 obtain⟨⟨v,rfl,p,rfl,aA⟩,a8,aw⟩:=al;have z:=kk (∀{G}(h:G:=by
 clear c0 c1 HP Ep hsz2 cR;go_wp2_with fail;refine leaves_cons (f:=69) (args:=#[NM w.heap.size 0,NM (w.heap.size+1) 0]) Oq (by simp[go_sem]) ?_;refine(catch_idle (Nv w.heap.size 0) (Nv (w.heap.size+1) 0) _).mono ?_;rintro e fR Kq ⟨rfl,rfl,rfl⟩
 show Leaves _ _ _ _ [] .returning _
 refine⟨.tuple #[Nu p,Pe],by simp[results,results34,go_sem,gC,eq],p,rfl,?_,?_⟩
 ·refine O7.mono (J:=From w.heap.size) (fun b D _=>?_) _ _ (O7.later (I:=fun b=>w2.heap.size<=b) (fun b D _=>?_) _ _ aA)
  ·have O:=Ns gT;have ax:w2.heap.size<=b:=D
   show w.heap.size<=b
   omega
  ·have O:=Ns gT;have ax:w2.heap.size<=b:=D;rw[Below.heap_setCell _ (Nv (w.heap.size+1) 0) _ b (by show b≠w.heap.size+1;omega),Below.heap_setCell _ (Nv w.heap.size 0) _ b (by show b≠w.heap.size;omega)]
 ·exact(iZ.setCell (p:=(Nv w.heap.size 0)) OH _).setCell (p:=(Nv (w.heap.size+1) 0)) (Nat.le_succ _) _),G);exact aB0),G);exact aB9
theorem an3 (w:Ny)(l:List Tk)(tb cap:Nat)(er:Int)(pl:Nat)
  (dE:NK 70 #[.slice (some (Nv tb 0)) l.length cap] (RW w) fun e w'=>∃ c:Ctx,e=NU (Ov c)/\c.l=l/\(RW w).heap.size<=c.R/\OU c w' 0 0/\Below (RW w).heap.size (RW w) w')
  (HP:∀ (c:Ctx) (W:Ny),c.l=l->OU c W 0 0->NK 71 #[Ov c] W (Pm c W 0 (NV W.heap.size) (.bad er pl))) :
  NK 34 #[.slice (some (Nv tb 0)) l.length cap] w (abv (.bad er pl) w):=by
 have z:=kk (∀{G}(h:G:=by
 obtain⟨rfl,aw⟩:=al;have z:=kk (∀{G}(h:G:=by
 have HU:w.heap.size+1<ao.heap.size:=lt_of_heap c1;have E6:=hide c0;have E7:=hide c1;clear c0 c1 HP Ep hsz2 cR;refine leaves_cons (f:=69) (args:=#[NM w.heap.size 0,NM (w.heap.size+1) 0]) Oq (by simp[go_sem]) ?_;refine(af8 w.heap.size (w.heap.size+1) er pl ao _ _ gC Hn eq Hq Nw Nw HU).mono ?_;rintro e fR Kq ⟨rfl,rfl,rfl⟩
 show Leaves _ _ _ _ [] .returning _
 have cC:((((ao.setCell (Nv w.heap.size 0) Qb).setCell (Nv (w.heap.size+1) 0) (.iface 150 (NM (ao.heap.size+1) 0))).alloc (.cells #[Nr er,Nr (pl:Int)] 148)).alloc (.cells #[Nr er,Nr (pl:Int)] 152)).drew.heap[w.heap.size]? = some (Og #[Qb] 22):=by
  show ((((ao.setCell (Nv w.heap.size 0) Qb).setCell (Nv (w.heap.size+1) 0) (.iface 150 (NM (ao.heap.size+1) 0))).alloc (.cells #[Nr er,Nr (pl:Int)] 148)).alloc (.cells #[Nr er,Nr (pl:Int)] 152)).heap[w.heap.size]? = _
  rw[Below.heap_alloc _ _ _ Qa,Below.heap_alloc _ _ _ Qa,Below.heap_setCell _ (Nv (w.heap.size+1) 0) _ _ (by show w.heap.size≠w.heap.size+1;omega),heap_set E6.out]
  rfl
 have b0:((((ao.setCell (Nv w.heap.size 0) Qb).setCell (Nv (w.heap.size+1) 0) (.iface 150 (NM (ao.heap.size+1) 0))).alloc (.cells #[Nr er,Nr (pl:Int)] 148)).alloc (.cells #[Nr er,Nr (pl:Int)] 152)).drew.heap[w.heap.size+1]? = some (Og #[.iface 150 (NM (ao.heap.size+1) 0)] 31):=by
  show ((((ao.setCell (Nv w.heap.size 0) Qb).setCell (Nv (w.heap.size+1) 0) (.iface 150 (NM (ao.heap.size+1) 0))).alloc (.cells #[Nr er,Nr (pl:Int)] 148)).alloc (.cells #[Nr er,Nr (pl:Int)] 152)).heap[w.heap.size+1]? = _
  have ae:(ao.setCell (Nv w.heap.size 0) Qb).heap[w.heap.size+1]? = some (Og #[Pe] 31):=by
   rw[Below.heap_setCell _ (Nv w.heap.size 0) _ _ (by show w.heap.size+1≠w.heap.size;omega)];exact Ns E7
  rw[Below.heap_alloc _ _ _ Qa,Below.heap_alloc _ _ _ Qa,heap_set ae];rfl
 have aH:((((ao.setCell (Nv w.heap.size 0) Qb).setCell (Nv (w.heap.size+1) 0) (.iface 150 (NM (ao.heap.size+1) 0))).alloc (.cells #[Nr er,Nr (pl:Int)] 148)).alloc (.cells #[Nr er,Nr (pl:Int)] 152)).drew.cell? (Nv w.heap.size 0)=some Qb:=by rw[cell_of cC];rfl
 have av:((((ao.setCell (Nv w.heap.size 0) Qb).setCell (Nv (w.heap.size+1) 0) (.iface 150 (NM (ao.heap.size+1) 0))).alloc (.cells #[Nr er,Nr (pl:Int)] 148)).alloc (.cells #[Nr er,Nr (pl:Int)] 152)).drew.cell? (Nv (w.heap.size+1) 0)=some (.iface 150 (NM (ao.heap.size+1) 0)):=by rw[cell_of b0];rfl
 obtain⟨Kw,zV⟩:=xE (((((ao.setCell (Nv w.heap.size 0) Qb).setCell (Nv (w.heap.size+1) 0) (.iface 150 (NM (ao.heap.size+1) 0))).alloc (.cells #[Nr er,Nr (pl:Int)] 148)).alloc (.cells #[Nr er,Nr (pl:Int)] 152)).drew);rw[<-zV] at aH av;rw[<-zV];refine⟨.tuple #[Qb,.iface 150 (NM (ao.heap.size+1) 0)],by simp[results,results34,go_sem,aH,av],ao.heap.size+1,rfl,?_,by omega,?_⟩
 all_goals rw[zV]
 ·have:=NG (((ao.setCell (Nv w.heap.size 0) Qb).setCell (Nv (w.heap.size+1) 0) (.iface 150 (NM (ao.heap.size+1) 0))).alloc (.cells #[Nr er,Nr (pl:Int)] 148)) (.cells #[Nr er,Nr (pl:Int)] 152);rw[show ((((ao.setCell (Nv w.heap.size 0) Qb).setCell (Nv (w.heap.size+1) 0) (.iface 150 (NM (ao.heap.size+1) 0))).alloc (.cells #[Nr er,Nr (pl:Int)] 148)).heap.size)=ao.heap.size+1 by simp] at this;exact this
 ·have ae:=iZ.size;exact(((((iZ.setCell (p:=(Nv w.heap.size 0)) OH _).setCell (p:=(Nv (w.heap.size+1) 0)) (Nat.le_succ _) _).alloc (by simpa using ae) _).alloc Qa _).drew)),G);exact aB0),G);exact aB9
theorem Vq {c:Ctx}(f:Nat)(js:UE f)(w:Ny)(d i:Nat)(r:PR Tr)(aM:r≠.out)(q:Nat)(ag:PZ SH (fx c.l i)=some q)(aG:as4 q=f)(al:∀ W,OU c W i d->NK f #[Ov c] W (Pm c W d (NV W.heap.size) r))(h:OU c w i d) :
  NK 160 #[Ov c] w (Pm c w d (NV w.heap.size) r):=by
 have dV:Hid (∀ W:Ny,OU c W i d->(Instr.lookup 231 (.map (some c.mT)) (ND (fx c.l i)) true).run prog W=.ok (.tuple #[.func (.func f) #[NM c.R 0] #[],NI true]) W):=fun W a6=>by
  have:=acP c (fx c.l i) W a6.base.awV;rw[ag] at this;simp only[aCU,aG] at this;exact this
 have bD:=h;have fA:=(Ap.refl c.R w.heap.size w);have HP:=hide al;have bS:=hide h.YV;have dr:=hide aM;clear h aM ag aG al;go_enter func160,ntmps160;have z:=kk (∀{G}(h:G:=by
 refine wh 0 (Ov c) bD.drew ?_;refine wh 1 (Ov c) bD.drew ?_;refine wh 2 (NM c.R 4) bD.drew ?_;refine wg 3 (.map (some c.mT)) rfl (Or.inl ⟨by kernel_rfl,fun W a6=>by have hh:=OU.c4 a6;go_simp⟩) bD.drew ?_
 exact aA9),G);exact Z7
theorem aro {c:Ctx}{F:Rq}(ak:FC c F)(w:Ny)(d i:Nat)(r:PR Tr)(ae:ZA c.l F d i=r)(aM:r≠.out)(ag:PZ SH (fx c.l i)=none)(h:OU c w i d):NK 160 #[Ov c] w (Pm c w d (NV w.heap.size) r):=by
 have im:=PU c.R 224;have dV:Hid (∀ W:Ny,OU c W i d->(Instr.lookup 231 (.map (some c.mT)) (ND (fx c.l i)) true).run prog W=.ok (.tuple #[.nilFunc,NI false]) W):=fun W a6=>by
  have:=acP c (fx c.l i) W a6.base.awV;rw[ag] at this;exact this
 clear ag;have z:=kk (∀{G}(h:G:=by
 unfold ZA at ae;have ba:=hide ae;have dr:=hide aM;clear h ae aM;go_enter func160,ntmps160;have z:=kk (∀{G}(h:G:=by
 refine wh 0 (Ov c) bD.drew ?_;refine wh 1 (Ov c) bD.drew ?_;refine wh 2 (NM c.R 4) bD.drew ?_;refine wg 3 (.map (some c.mT)) rfl (Or.inl ⟨by kernel_rfl,fun W a6=>by have hh:=OU.c4 a6;go_simp⟩) bD.drew ?_
 have z:=kk (∀{G}(h:G:=by
 cases U:OL c.l F.vl d i with
 | out=>
  exact QA
 | bad er p=>
  have ah:=(Ur ak fy d i eN (by rw[U];nofun))
  exact avr
 | ok cj bW=>
  have ah:=(Ur ak fy d i eN (by rw[U];nofun))
  have z:=kk (∀{G}(h:G:=by
  intro e w1 al;obtain⟨⟨v1,rfl,p1,rfl,gG⟩,a8,aw⟩:=al;have eo:=(lx.next aw);have bJ:=a8;have eg:=(Q7 gG lx.size)
  cases U:OD c.l O5 bW with
  | out=>
   exact QA
  | bad er p=>
   have ah:=(Oz c O5 w1 bW d bJ NH);exact anP
  | ok dD cK=>
   have ah:=(Oz c O5 w1 bW d bJ NH);have z:=kk (∀{G}(h:G:=by
   intro e w2 al;obtain⟨⟨v2,rfl,rfl⟩,a8,aw⟩:=al;have ec:=(eo.next aw);replace eg:=(QW eg aw bS.out);have ah:=(OT 15 NC (.slice (some (Nv w2.heap.size 0)) 1 1) (w2.alloc (.cells #[Nu p1] 22)) ⟨_,_,_,rfl⟩);have z:=kk (∀{G}(h:G:=by
   obtain⟨cO,cP,c'⟩:=made a8 ec (NT.cons eg NT.nil) (by simp[maxLen]) #[Nu p1] rfl 1 rfl 15 NC (w2.heap.size+1) rfl;exact RG ba.out.symm cO.nv cP c'),G);exact Zq),G);exact WH),G);exact WH),G);exact zsu),G);exact Z7),G);exact ahS
theorem aoo {c:Ctx}{F:Rq}(ak:FC c F)(w:Ny)(d i:Nat)(r:PR Tr)(E:(Ox c.l i).kd≠6)(ae:Zz c.l F d i=r)(aM:r≠.out)(h:OU c w i d):NK 147 #[Ov c] w (Pm c w d (NV w.heap.size) r):=by
 have im:=PU c.R 224;have n':=hide E;have z:=kk (∀{G}(h:G:=by
 clear E;have z:=kk (∀{G}(h:G:=by
 unfold Zz at ae;have ba:=hide ae;have dr:=hide aM;clear h ae aM;go_enter func147,ntmps147;have z:=kk (∀{G}(h:G:=by
 cases U:nameP c.l (i+1) with
 | out=>
  exact QA
 | bad er p=>
  have ah:=(name_any c wk (i+1) d iJ);exact aBy
 | ok cj bW=>
  have ah:=(name_any c wk (i+1) d iJ);have z:=kk (∀{G}(h:G:=by
  intro e w1 al;obtain⟨⟨v1,rfl,rfl⟩,a8,aw⟩:=al;have eo:=(sZ.next aw);have bJ:=a8;have ah:=(OT hd cj PG w1 ⟨_,_,_,rfl⟩);go_wp2_with fail;refine cm ah ?_;rintro e BL ⟨rfl,rfl⟩;obtain⟨cO,cP,c'⟩:=ZE bJ eo (KV.nil _ _) hd cj _ rfl;obtain⟨t0,jN⟩:=xE (.mk hd cj 0 []:Tr);have z:=kk (∀{G}(h:G:=by
  have iG:aW=w1.heap.size:=by simpa[Nu] using gK.symm
  have z:=kk (∀{G}(h:G:=by
  obtain⟨e9,iq⟩:=xE (w1.alloc (OA hd cj 0 PG));rw[<-iq] at ek jE j8 iP tU;rw[<-iG] at ek iP tU;rw[<-iq,<-iG];clear iq iG
  by_cases aU:hd=4
  ·have ot:(hd==4)=true:=beq_iff_eq.2 aU;have ah:=(QV c e9 bW d jE)
   by_cases ac:fx c.l bW=tEq
   ·rw[if_neg (fun hh=>hh.2 ac)] at ba;have sf:((fx c.l bW).toList==[61])=true:=UW (b:=tEq) rfl ac;clear aU;have z:=kk (∀{G}(h:G:=by
    clear ac
    by_cases hy:fx c.l bW=tEq
    ·rw[if_pos hy] at ba;have ah:=(QU c tEq dM bW d jY hy NH);clear hy;go_wp2_with fail;refine cm ah ?_;rintro e gS ⟨rfl,A5,vC⟩;have qZ:=A5;have pa:=(jw.next vC);replace cg:=(Open.later cg vC bS.out);have z:=kk (∀{G}(h:G:=by
     cases U:OL c.l F.vl d (bW+1) with
     | out=>
      exact QA
     | bad er p=>
      exact aBf
     | ok lu hc=>
      have ah:=(Ur ak gS.drew d (bW+1) qZ.drew (by rw[U];nofun))
      rw[U] at ah ba;simp only[bind_ok] at ba;clear U;go_wp2_with fail;refine abh (H:=fun aD cw=>Ap c.R gS.heap.size gS aD/\OU c aD hc d/\O7 (From gS.heap.size) aD lu cw) (G:=?G1) (fun dI=>?_) ?_;rotate_left
      ·exact aCJ
      intro aD cw cB;obtain⟨dt,a8,jL⟩:=cB;have e0:=(pa.next dt);have fN:=a8;have eC:=(Open.later cg dt bS.out);have mM:=(Open.apart cg pa.size dt bS.out (NT.cons jL NT.nil));obtain⟨gs,gt,hF⟩:=eC.cell;have hlen:=NT.length _ _ eC.kids;have hown:=eC.row;rw[hlen] at hown;have HOWN:=hown;have c9:=e0.size;have cJ:t0.kids.length<=3:=by rw[jA.out];decide
      clear hlen;refine P6 10 fun K A=>?_;refine step_append_lies _ rfl _ _ 38 rfl w.heap.size 22 i0 Qb 1 8 underlying38 d2 dH b6 cq rfl NH _ _ _ rfl (HOWN.alloc _) (Nv aD.heap.size 0) 1 1 [Nu cw] rfl rfl (QE aD cw _ rfl) (one_one cw) NH (by unfold maxLen;omega) Nw Qa (aD.heap.size+1) Oq ?_
      intro g cap ao hown3 eQ c7 _;refine A _ _ ?_;clear A K;have gz:=hide (XU eC mM fN e0 i1.out hown3 eQ c7);have gi:ao.cell? (Nv aW 3)=aD.cell? (Nv aW 3)/\ao.frozen? (Nv aW 3)=aD.frozen? (Nv aW 3):=by
       exact anN
      obtain⟨gI,gJ⟩:=gi;rw[gs] at gI;rw[gt 3] at gJ;clear c7;refine wt 11 (Nu aW) ?_;refine wt 12 (NM aW 3) ?_;refine P6 13 fun K A=>?_;go_simp;refine A _ _ ?_;clear A K gI gJ gs gt hF;refine wpAny_done OJ ?_ _;go_simp;obtain⟨cO,cP,c'⟩:=Ns gz;have jB:=cO;have dj:=cP;have jC:=c'
      cases U:OD c.l O5 hc with
      | out=>
       exact QA
      | bad er p=>
       exact aqP
      | ok dD cK=>
       exact aCO),G);exact anU
    ·rw[if_neg hy] at ba;have ah:=(RH c tEq dM bW d jY hy);clear hy;go_wp2_with fail;refine cm ah ?_;rintro e gS ⟨rfl,g0⟩;have qZ:=(jY.later g0);have pa:=(jw.next (Ap.of g0));exact aCL),G);exact aqZ
   ·rw[if_pos ⟨aU,ac⟩] at ba;have sf:((fx c.l bW).toList==[61])=false:=Uw (b:=tEq) rfl ac;clear aU ac;have z:=kk (∀{G}(h:G:=by
    have ah:=(TY c 3 dM bW d jY);go_wp2_with fail;refine cm ah ?_;rintro e k1 ⟨rfl,nG⟩;exact⟨rfl,Pn ba.out.symm (jw.next (Ap.of nG))⟩),G);exact aqZ
  ·have ot:(hd==4)=false:=beq_eq_false_iff_ne.2 aU;rw[if_neg (fun hh=>aU hh.1)] at ba;clear aU;have cg:=ek
   by_cases hy:fx c.l bW=tEq
   ·rw[if_pos hy] at ba;have ah:=(QU c tEq e9 bW d jE hy NH);clear hy;go_wp2_with fail;refine cm ah ?_;rintro e gS ⟨rfl,A5,vC⟩;have qZ:=A5;have pa:=(j8.next vC);replace cg:=(Open.later cg vC bS.out);have z:=kk (∀{G}(h:G:=by
    cases U:OL c.l F.vl d (bW+1) with
    | out=>
     exact QA
    | bad er p=>
     exact aBf
    | ok lu hc=>
     have ah:=(Ur ak gS.drew d (bW+1) qZ.drew (by rw[U];nofun))
     rw[U] at ah ba;simp only[bind_ok] at ba;clear U;go_wp2_with fail;refine abh (H:=fun aD cw=>Ap c.R gS.heap.size gS aD/\OU c aD hc d/\O7 (From gS.heap.size) aD lu cw) (G:=?G2) (fun dI=>?_) ?_;rotate_left
     ·exact aCJ
     intro aD cw cB;obtain⟨dt,a8,jL⟩:=cB;have e0:=(pa.next dt);have fN:=a8;have eC:=(Open.later cg dt bS.out);have mM:=(Open.apart cg pa.size dt bS.out (NT.cons jL NT.nil));obtain⟨gs,gt,hF⟩:=eC.cell;have hlen:=NT.length _ _ eC.kids;have hown:=eC.row;rw[hlen] at hown;have HOWN:=hown;have c9:=e0.size;have cJ:t0.kids.length<=3:=by rw[jA.out];decide
     clear hlen;refine P6 10 fun K A=>?_;refine step_append_lies _ rfl _ _ 38 rfl w.heap.size 22 i0 Qb 1 8 underlying38 d2 dH b6 cq rfl NH _ _ _ rfl (HOWN.alloc _) (Nv aD.heap.size 0) 1 1 [Nu cw] rfl rfl (QE aD cw _ rfl) (one_one cw) NH (by unfold maxLen;omega) Nw Qa (aD.heap.size+1) Oq ?_
     intro g cap ao hown3 eQ c7 _;refine A _ _ ?_;clear A K;have gz:=hide (XU eC mM fN e0 i1.out hown3 eQ c7);have gi:ao.cell? (Nv aW 3)=aD.cell? (Nv aW 3)/\ao.frozen? (Nv aW 3)=aD.frozen? (Nv aW 3):=by
      exact anN
     obtain⟨gI,gJ⟩:=gi;rw[gs] at gI;rw[gt 3] at gJ;clear c7;refine wt 11 (Nu aW) ?_;refine wt 12 (NM aW 3) ?_;refine P6 13 fun K A=>?_;go_simp;refine A _ _ ?_;clear A K gI gJ gs gt hF;refine wpAny_done OJ ?_ _;go_simp;obtain⟨cO,cP,c'⟩:=Ns gz;have jB:=cO;have dj:=cP;have jC:=c'
     cases U:OD c.l O5 hc with
     | out=>
      exact QA
     | bad er p=>
      exact aqP
     | ok dD cK=>
      exact aCO),G);exact anU
   ·rw[if_neg hy] at ba;have ah:=(RH c tEq e9 bW d jE hy);clear hy;go_wp2_with fail;refine cm ah ?_;rintro e gS ⟨rfl,g0⟩;have qZ:=(jE.later g0);have pa:=(j8.next (Ap.of g0));exact aCL),G);exact aCC),G);exact aCk),G);exact WH),G);exact aCh),G);exact ahS),G);exact akN
end Go.Proofs.YticfnaiehdpbmaaGreatDoor
