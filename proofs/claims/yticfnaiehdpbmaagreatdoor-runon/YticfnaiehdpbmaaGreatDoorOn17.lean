import Derived.Test.YticfnaiehdpbmaaGreatDoorOn16
set_option maxRecDepth 100000
set_option maxHeartbeats 8000000
set_option linter.all false
namespace Go.Proofs.YticfnaiehdpbmaaGreatDoor
open Go.RowKit Go.Proofs.Tryz
namespace Hp
section
variable {w0:Ov} {mb af:Nat} {O:List Nat} {es aW aC aA aM:OG} {w w' w2:Ov} {σ:St} {N:Nat} {F:Fx} {L:Option Nat} {eb:Addr}
section
variable (bI:Stp w0 mb es eb) (aJ:Ms w0 mb af O w σ) {a:Ad} {d:Nd} (hd:OY O w a d)
include bI aJ a d hd
theorem ai8 (eD:σ.steps<=20000)(hst1:20000<=σ.steps)(p:Pl)(aB:Option Addr) :
  OE 196 #[Oo mb,Oo a.p,PU p aB] w (O3 w0 mb af O es w ((vU,.stop),σ.step)):=by
 have z:=Oq (∀{G}(h:G:=by
 have z:=Oq (∀{G}(h:G:=by
 have hstep:=ae1 bI cZ eD;rw[if_pos Ou,bI.is] at hstep;have rW:=hide bI.is;obtain⟨q,bm⟩:=xH a.p;rw[<-bm.out] at dz ⊢;clear be hr2 dx cL d0;go_enter func196,ntmps196;have z:=Oq (∀{G}(h:G:=by
 have cY:=(cu.trans hM);have ea:=ha.lt;obtain⟨cH,bU,cg,dt,du,dv,rl⟩:=O7 dV.out;have z:=Oq (∀{G}(h:G:=by
 refine Y9 (v:=.tuple #[vA vU,.iface 359 (.pointer (some eb))]) ?_;exact⟨⟨_,rfl,rW.out.symm⟩,bC,bF⟩),G);exact axc),G);exact aco),G);exact Vd),G);exact Xu
theorem ai9 (bo:d.2.kd=23)(eD:σ.steps<=20000)(hst1:σ.steps<20000)(p:Pl)(aB:Option Addr){rs:(Va × Er) × St}(bq:∀ X,Ms w0 mb af O X σ.step->OY O X a d->OE 256 #[Oo mb,Oo a.p,PU p aB] X (O3 w0 mb af O es X rs)) :
  OE 196 #[Oo mb,Oo a.p,PU p aB] w (O3 w0 mb af O es w rs):=by
 have z:=Oq (∀{G}(h:G:=by
 have b8:=hide be;have z:=Oq (∀{G}(h:G:=by
 have z:=Oq (∀{G}(h:G:=by
 have ai:=hide bq;have e9:(d.2.kd:Int)=23:=by rw[bo]
 exact Za),G);exact WB),G);exact Vd),G);exact Xu
theorem ae3 (bo:d.2.kd=24)(eD:σ.steps<=20000)(hst1:σ.steps<20000)(p:Pl)(aB:Option Addr){rs:(Va × Er) × St}(bq:∀ X,Ms w0 mb af O X σ.step->OY O X a d->OE 257 #[Oo mb,Oo a.p,PU p aB] X (O3 w0 mb af O es X rs)) :
  OE 196 #[Oo mb,Oo a.p,PU p aB] w (O3 w0 mb af O es w rs):=by
 have z:=Oq (∀{G}(h:G:=by
 have b8:=hide be;have z:=Oq (∀{G}(h:G:=by
 have z:=Oq (∀{G}(h:G:=by
 have ai:=hide bq;have e9:(d.2.kd:Int)=24:=by rw[bo]
 exact Za),G);exact WB),G);exact Vd),G);exact Xu
theorem aph (bo:d.2.kd=25)(eD:σ.steps<=20000)(hst1:σ.steps<20000)(p:Pl)(aB:Option Addr){rs:(Va × Er) × St}(bq:∀ X,Ms w0 mb af O X σ.step->OY O X a d->OE 258 #[Oo mb,Oo a.p,PU p aB] X (O3 w0 mb af O es X rs)) :
  OE 196 #[Oo mb,Oo a.p,PU p aB] w (O3 w0 mb af O es w rs):=by
 have z:=Oq (∀{G}(h:G:=by
 have b8:=hide be;have z:=Oq (∀{G}(h:G:=by
 have z:=Oq (∀{G}(h:G:=by
 have ai:=hide bq;have e9:(d.2.kd:Int)=25:=by rw[bo]
 exact Za),G);exact WB),G);exact Vd),G);exact Xu
theorem amh (bo:d.2.kd=26)(eD:σ.steps<=20000)(hst1:σ.steps<20000)(p:Pl)(aB:Option Addr){rs:(Va × Er) × St}(bq:∀ X,Ms w0 mb af O X σ.step->OY O X a d->OE 258 #[Oo mb,Oo a.p,PU p aB] X (O3 w0 mb af O es X rs)) :
  OE 196 #[Oo mb,Oo a.p,PU p aB] w (O3 w0 mb af O es w rs):=by
 have z:=Oq (∀{G}(h:G:=by
 have b8:=hide be;have z:=Oq (∀{G}(h:G:=by
 have z:=Oq (∀{G}(h:G:=by
 have ai:=hide bq;have e9:(d.2.kd:Int)=26:=by rw[bo]
 exact Za),G);exact WB),G);exact Vd),G);exact Xu
theorem aja (bo:d.2.kd=27)(eD:σ.steps<=20000)(hst1:σ.steps<20000)(p:Pl)(aB:Option Addr){rs:(Va × Er) × St}(bq:∀ X,Ms w0 mb af O X σ.step->OY O X a d->OE 259 #[Oo mb,Oo a.p,PU p aB] X (O3 w0 mb af O es X rs)) :
  OE 196 #[Oo mb,Oo a.p,PU p aB] w (O3 w0 mb af O es w rs):=by
 have z:=Oq (∀{G}(h:G:=by
 have b8:=hide be;have z:=Oq (∀{G}(h:G:=by
 have z:=Oq (∀{G}(h:G:=by
 have ai:=hide bq;have e9:(d.2.kd:Int)=27:=by rw[bo]
 exact Za),G);exact WB),G);exact Vd),G);exact Xu
theorem ajb (bo:d.2.kd=28)(eD:σ.steps<=20000)(hst1:σ.steps<20000)(p:Pl)(aB:Option Addr){rs:(Va × Er) × St}(bq:∀ X,Ms w0 mb af O X σ.step->OY O X a d->OE 259 #[Oo mb,Oo a.p,PU p aB] X (O3 w0 mb af O es X rs)) :
  OE 196 #[Oo mb,Oo a.p,PU p aB] w (O3 w0 mb af O es w rs):=by
 have z:=Oq (∀{G}(h:G:=by
 have b8:=hide be;have z:=Oq (∀{G}(h:G:=by
 have z:=Oq (∀{G}(h:G:=by
 have ai:=hide bq;have e9:(d.2.kd:Int)=28:=by rw[bo]
 exact Za),G);exact WB),G);exact Vd),G);exact Xu
theorem ami (bo:d.2.kd=29)(eD:σ.steps<=20000)(hst1:σ.steps<20000)(p:Pl)(aB:Option Addr){rs:(Va × Er) × St}(bq:∀ X,Ms w0 mb af O X σ.step->OY O X a d->OE 259 #[Oo mb,Oo a.p,PU p aB] X (O3 w0 mb af O es X rs)) :
  OE 196 #[Oo mb,Oo a.p,PU p aB] w (O3 w0 mb af O es w rs):=by
 have z:=Oq (∀{G}(h:G:=by
 have b8:=hide be;have z:=Oq (∀{G}(h:G:=by
 have z:=Oq (∀{G}(h:G:=by
 have ai:=hide bq;have e9:(d.2.kd:Int)=29:=by rw[bo]
 exact Za),G);exact WB),G);exact Vd),G);exact Xu
theorem amj (bo:d.2.kd=30)(eD:σ.steps<=20000)(hst1:σ.steps<20000)(p:Pl)(aB:Option Addr){rs:(Va × Er) × St}(bq:∀ X,Ms w0 mb af O X σ.step->OY O X a d->OE 259 #[Oo mb,Oo a.p,PU p aB] X (O3 w0 mb af O es X rs)) :
  OE 196 #[Oo mb,Oo a.p,PU p aB] w (O3 w0 mb af O es w rs):=by
 have z:=Oq (∀{G}(h:G:=by
 have b8:=hide be;have z:=Oq (∀{G}(h:G:=by
 have z:=Oq (∀{G}(h:G:=by
 have ai:=hide bq;have e9:(d.2.kd:Int)=30:=by rw[bo]
 exact Za),G);exact WB),G);exact Vd),G);exact Xu
theorem amk (bo:d.2.kd=31)(eD:σ.steps<=20000)(hst1:σ.steps<20000)(p:Pl)(aB:Option Addr){rs:(Va × Er) × St}(bq:∀ X,Ms w0 mb af O X σ.step->OY O X a d->OE 259 #[Oo mb,Oo a.p,PU p aB] X (O3 w0 mb af O es X rs)) :
  OE 196 #[Oo mb,Oo a.p,PU p aB] w (O3 w0 mb af O es w rs):=by
 have z:=Oq (∀{G}(h:G:=by
 have b8:=hide be;have z:=Oq (∀{G}(h:G:=by
 have z:=Oq (∀{G}(h:G:=by
 have ai:=hide bq;have e9:(d.2.kd:Int)=31:=by rw[bo]
 exact Za),G);exact WB),G);exact Vd),G);exact Xu
theorem aml (bo:d.2.kd=32)(eD:σ.steps<=20000)(hst1:σ.steps<20000)(p:Pl)(aB:Option Addr){rs:(Va × Er) × St}(bq:∀ X,Ms w0 mb af O X σ.step->OY O X a d->OE 260 #[Oo mb,Oo a.p,PU p aB] X (O3 w0 mb af O es X rs)) :
  OE 196 #[Oo mb,Oo a.p,PU p aB] w (O3 w0 mb af O es w rs):=by
 have z:=Oq (∀{G}(h:G:=by
 have b8:=hide be;have z:=Oq (∀{G}(h:G:=by
 have z:=Oq (∀{G}(h:G:=by
 have ai:=hide bq;have e9:(d.2.kd:Int)=32:=by rw[bo]
 exact Za),G);exact WB),G);exact Vd),G);exact Xu
theorem ae4 (bo:d.2.kd=33)(eD:σ.steps<=20000)(hst1:σ.steps<20000)(p:Pl)(aB:Option Addr){rs:(Va × Er) × St}(bq:∀ X,Ms w0 mb af O X σ.step->OY O X a d->OE 261 #[Oo mb,Oo a.p,PU p aB] X (O3 w0 mb af O es X rs)) :
  OE 196 #[Oo mb,Oo a.p,PU p aB] w (O3 w0 mb af O es w rs):=by
 have z:=Oq (∀{G}(h:G:=by
 have b8:=hide be;have z:=Oq (∀{G}(h:G:=by
 have z:=Oq (∀{G}(h:G:=by
 have ai:=hide bq;have e9:(d.2.kd:Int)=33:=by rw[bo]
 exact Za),G);exact WB),G);exact Vd),G);exact Xu
theorem ae5 (bo:d.2.kd=34)(eD:σ.steps<=20000)(hst1:σ.steps<20000)(p:Pl)(aB:Option Addr){rs:(Va × Er) × St}(bq:∀ X,Ms w0 mb af O X σ.step->OY O X a d->OE 262 #[Oo mb,Oo a.p,PU p aB] X (O3 w0 mb af O es X rs)) :
  OE 196 #[Oo mb,Oo a.p,PU p aB] w (O3 w0 mb af O es w rs):=by
 have z:=Oq (∀{G}(h:G:=by
 have b8:=hide be;have z:=Oq (∀{G}(h:G:=by
 have z:=Oq (∀{G}(h:G:=by
 have ai:=hide bq;have e9:(d.2.kd:Int)=34:=by rw[bo]
 exact Za),G);exact WB),G);exact Vd),G);exact Xu
theorem ajc (bo:d.2.kd=35)(eD:σ.steps<=20000)(hst1:σ.steps<20000)(p:Pl)(aB:Option Addr){rs:(Va × Er) × St}(bq:∀ X,Ms w0 mb af O X σ.step->OY O X a d->OE 263 #[Oo mb,Oo a.p,PU p aB] X (O3 w0 mb af O es X rs)) :
  OE 196 #[Oo mb,Oo a.p,PU p aB] w (O3 w0 mb af O es w rs):=by
 have z:=Oq (∀{G}(h:G:=by
 have b8:=hide be;have z:=Oq (∀{G}(h:G:=by
 have z:=Oq (∀{G}(h:G:=by
 have ai:=hide bq;have e9:(d.2.kd:Int)=35:=by rw[bo]
 exact Za),G);exact WB),G);exact Vd),G);exact Xu
theorem ae6 (bo:d.2.kd=36)(eD:σ.steps<=20000)(hst1:σ.steps<20000)(p:Pl)(aB:Option Addr){rs:(Va × Er) × St}(bq:∀ X,Ms w0 mb af O X σ.step->OY O X a d->OE 264 #[Oo mb,Oo a.p,PU p aB] X (O3 w0 mb af O es X rs)) :
  OE 196 #[Oo mb,Oo a.p,PU p aB] w (O3 w0 mb af O es w rs):=by
 have z:=Oq (∀{G}(h:G:=by
 have b8:=hide be;have z:=Oq (∀{G}(h:G:=by
 have z:=Oq (∀{G}(h:G:=by
 have ai:=hide bq;have e9:(d.2.kd:Int)=36:=by rw[bo]
 exact Za),G);exact WB),G);exact Vd),G);exact Xu
theorem ae7 (bo:d.2.kd=38)(eD:σ.steps<=20000)(hst1:σ.steps<20000)(p:Pl)(aB:Option Addr){rs:(Va × Er) × St}(bq:∀ X,Ms w0 mb af O X σ.step->OY O X a d->OE 266 #[Oo mb,Oo a.p,PU p aB] X (O3 w0 mb af O es X rs)) :
  OE 196 #[Oo mb,Oo a.p,PU p aB] w (O3 w0 mb af O es w rs):=by
 have z:=Oq (∀{G}(h:G:=by
 have b8:=hide be;have z:=Oq (∀{G}(h:G:=by
 have z:=Oq (∀{G}(h:G:=by
 have ai:=hide bq;have e9:(d.2.kd:Int)=38:=by rw[bo]
 exact Za),G);exact WB),G);exact Vd),G);exact Xu
theorem amm (bo:d.2.kd=18)(eD:σ.steps<=20000)(hst1:σ.steps<20000)(p:Pl)(aB:Option Addr) :
  OE 196 #[Oo mb,Oo a.p,PU p aB] w (O3 w0 mb af O es w ((Wn d.2.tx,.no),σ.step)):=by
 have z:=Oq (∀{G}(h:G:=by
 have z:=Oq (∀{G}(h:G:=by
 have z:=Oq (∀{G}(h:G:=by
 have e9:(d.2.kd:Int)=18:=by rw[bo]
 obtain⟨bP,de⟩:=xH (Wn d.2.tx);rw[<-de.out];have ti:Hid (∀ X,OE 254 #[OB d.2.tx] X fun e w'=>e=OQ (vA bP)/\OD X w'):=fun X=>by
  show Calls _ _ _ _ _
  rw[de.out];exact ZH d.2.tx X
 obtain⟨tx,lM⟩:=xH d.2.tx;obtain⟨gt,nG⟩:=xH d.2.n;rw[<-lM.out] at ti;exact asO),G);exact WB),G);exact Vd),G);exact Xu
theorem ajd (bo:d.2.kd=19)(eD:σ.steps<=20000)(hst1:σ.steps<20000)(p:Pl)(aB:Option Addr) :
  OE 196 #[Oo mb,Oo a.p,PU p aB] w (O3 w0 mb af O es w ((Qi true,.no),σ.step)):=by
 have z:=Oq (∀{G}(h:G:=by
 have z:=Oq (∀{G}(h:G:=by
 have z:=Oq (∀{G}(h:G:=by
 have e9:(d.2.kd:Int)=19:=by rw[bo]
 obtain⟨bP,de⟩:=xH (Qi true);rw[<-de.out];have ti:Hid (∀ X,OE 255 #[OC true] X fun e w'=>e=OQ (vA bP)/\OD X w'):=fun X=>by
  show Calls _ _ _ _ _
  rw[de.out];exact VL true X
 obtain⟨tx,lM⟩:=xH d.2.tx;obtain⟨gt,nG⟩:=xH d.2.n;exact asO),G);exact WB),G);exact Vd),G);exact Xu
theorem ag0 (bo:d.2.kd=20)(eD:σ.steps<=20000)(hst1:σ.steps<20000)(p:Pl)(aB:Option Addr) :
  OE 196 #[Oo mb,Oo a.p,PU p aB] w (O3 w0 mb af O es w ((Qi false,.no),σ.step)):=by
 have z:=Oq (∀{G}(h:G:=by
 have z:=Oq (∀{G}(h:G:=by
 have z:=Oq (∀{G}(h:G:=by
 have e9:(d.2.kd:Int)=20:=by rw[bo]
 obtain⟨bP,de⟩:=xH (Qi false);rw[<-de.out];have ti:Hid (∀ X,OE 255 #[OC false] X fun e w'=>e=OQ (vA bP)/\OD X w'):=fun X=>by
  show Calls _ _ _ _ _
  rw[de.out];exact VL false X
 obtain⟨tx,lM⟩:=xH d.2.tx;obtain⟨gt,nG⟩:=xH d.2.n;exact asO),G);exact WB),G);exact Vd),G);exact Xu
theorem value_num (bo:d.2.kd=17)(eD:σ.steps<=20000)(hst1:σ.steps<20000)(p:Pl)(aB:Option Addr) :
  OE 196 #[Oo mb,Oo a.p,PU p aB] w (O3 w0 mb af O es w ((Xh d.2.n,.no),σ.step)):=by
 have z:=Oq (∀{G}(h:G:=by
 have z:=Oq (∀{G}(h:G:=by
 have z:=Oq (∀{G}(h:G:=by
 have e9:(d.2.kd:Int)=17:=by rw[bo]
 obtain⟨bP,de⟩:=xH (Xh d.2.n);rw[<-de.out];have ti:Hid (∀ X,OE 253 #[Ol d.2.n] X fun e w'=>e=OQ (vA bP)/\OD X w'):=fun X=>by
  show Calls _ _ _ _ _
  rw[de.out];exact aeO d.2.n X
 obtain⟨tx,lM⟩:=xH d.2.tx;obtain⟨gt,nG⟩:=xH d.2.n;rw[<-nG.out] at ti;exact asO),G);exact WB),G);exact Vd),G);exact Xu
theorem ae8 (bo:d.2.kd=37)(eD:σ.steps<=20000)(hst1:σ.steps<20000)(p:Pl)(aB:Option Addr){bP:Va}{σ1:St}(bq:∀ X,Ms w0 mb af O X σ.step->OY O X a d->OE 265 #[Oo mb,Oo a.p,PU p aB] X fun e w'=>e=OQ (vA bP)/\Ms w0 mb af O w' σ1/\O5 none mb X w') :
  OE 196 #[Oo mb,Oo a.p,PU p aB] w (O3 w0 mb af O es w ((bP,.no),σ1)):=by
 have z:=Oq (∀{G}(h:G:=by
 have b8:=hide be;have z:=Oq (∀{G}(h:G:=by
 have z:=Oq (∀{G}(h:G:=by
 have ai:=hide bq;have e9:(d.2.kd:Int)=37:=by rw[bo]
 clear be hr2 dx cL d0 bq bo;go_enter func196,ntmps196;have z:=Oq (∀{G}(h:G:=by
 have z:=Oq (∀{G}(h:G:=by
 have z:=Oq (∀{G}(h:G:=by
 rintro e aE ⟨rfl,aJ,ah⟩;have dF:=hide (ah.keep dV.out Oz);have fl:=(cY.trans ah);clear aZ p1 cK cX d2 gB hf;obtain⟨ho,gW,gC,j8,j9,j',ka⟩:=O7 dF.out;go_wp2_with fail;obtain⟨b1,bx,bi,bF,bC,cG,b4,bT⟩:=rt3 dF.out cR.out bG fl aJ (Ol bP.k) (Ol bP.n) (OB bP.s);rw[<-bx];refine WA (v:=.tuple #[vA bP,Qp]) ?_;exact⟨⟨_,rfl,rfl⟩,bC,bF⟩),G);exact asP),G);exact aBY),G);exact aco),G);exact WB),G);exact Vd),G);exact Xu
theorem aje (bo:d.2.kd=21)(eD:σ.steps<=20000)(hst1:σ.steps<20000)(p:Pl)(aB:Option Addr) :
  OE 196 #[Oo mb,Oo a.p,PU p aB] w (O3 w0 mb af O es w ((agJ,.no),σ.step)):=by
 have z:=Oq (∀{G}(h:G:=by
 have z:=Oq (∀{G}(h:G:=by
 have z:=Oq (∀{G}(h:G:=by
 have e9:(d.2.kd:Int)=21:=by rw[bo]
 clear bo;clear be hr2 dx cL d0;go_enter func196,ntmps196;have z:=Oq (∀{G}(h:G:=by
 have cY:=(cu.trans hM);have ea:=ha.lt;have gI:=cU.kp hM.UD;obtain⟨hf,gB,_⟩:=gI.cells;rw[<-bm.out] at hf gB;rw[e9] at gB;clear e9;obtain⟨ho,gW,gC,j8,j9,j',ka⟩:=O7 dV.out;go_wp2_with fail;obtain⟨b1,bx,bi,bF,bC,cG,b4,bT⟩:=rt3 dV.out cR.out bG cY ha (Ol 1) (Ol 0) (PN);rw[<-bx];refine bodyPost_ret (v:=.tuple #[vA agJ,Qp]) (by simp[results,results196,go_sem,cG,b4,bT,agJ]) rfl ?_;exact⟨⟨_,rfl,rfl⟩,bC,bF⟩),G);exact aco),G);exact WB),G);exact Vd),G);exact Xu
theorem ag1 (bo:d.2.kd≠17/\d.2.kd≠18/\d.2.kd≠19/\d.2.kd≠20/\d.2.kd≠21/\d.2.kd≠23/\d.2.kd≠24/\d.2.kd≠25/\d.2.kd≠26/\d.2.kd≠27/\d.2.kd≠28/\d.2.kd≠29/\d.2.kd≠30/\d.2.kd≠31/\d.2.kd≠32/\d.2.kd≠33/\d.2.kd≠34/\d.2.kd≠35/\d.2.kd≠36/\d.2.kd≠37/\d.2.kd≠38)(eD:σ.steps<=20000)(hst1:σ.steps<20000)(p:Pl)(aB:Option Addr) :
  OE 196 #[Oo mb,Oo a.p,PU p aB] w (O3 w0 mb af O es w ((vU,.no),σ.step)):=by
 have z:=Oq (∀{G}(h:G:=by
 have z:=Oq (∀{G}(h:G:=by
 have z:=Oq (∀{G}(h:G:=by
 obtain⟨Kn,Ko,Kq,Kr,Ks,Kt,yx,Ku,Kv,Kw,Kx,Ky,Kz,KA,KB,KC,yy,KD,KE,yz,KF⟩:=bo;obtain⟨j7,pk⟩:=xH d.2.kd;rw[<-pk.out] at Kn Ko Kq Kr Ks Kt yx Ku Kv Kw Kx Ky Kz KA KB KC yy KD KE yz KF;clear be hr2 dx cL d0;go_enter func196,ntmps196;have z:=Oq (∀{G}(h:G:=by
 have cY:=(cu.trans hM);have ea:=ha.lt;have gI:=cU.kp hM.UD;obtain⟨hf,gB,_⟩:=gI.cells;rw[<-bm.out] at hf gB;rw[<-pk.out] at gB;obtain⟨ho,gW,gC,j8,j9,j',ka⟩:=O7 dV.out;have z:=Oq (∀{G}(h:G:=by
 refine Y9 (v:=.tuple #[vA vU,Qp]) ?_;exact⟨⟨_,rfl,rfl⟩,bC,bF⟩),G);exact axc),G);exact aco),G);exact WB),G);exact Vd),G);exact Xu
end
def aa9 (bI:Stp w0 mb es eb)(aJ:Ms w0 mb af O w σ){a:Ad}{d:Nd}(hd:OY O w a d)(bo:d.2.kd=6)(eD:σ.steps<=20000)(hst1:σ.steps<20000)(p:Pl){l:Option Va}(hl:OV w L l){p1:Pl}{σ1:St}{rs:(Oc × Er × Option Va) × St}
  (Dp:∀ X,Ms w0 mb af O X σ.step->OY O X a d->OE 110 #[Oo mb,Oo a.p,PU p (LA L)] X fun e w'=>e=OQ (PU p1 (LA L))/\Ms w0 mb af O w' σ1/\O5 none mb X w')
  (tT:∀ X u,Ms w0 mb af O X σ1->TA 0 X u a.ks->Uo O X a.ks (P9 d)->OV X L l->OE 28 #[Oo mb,u,PU p1 (LA L)] X (P8 w0 mb af O es L X rs)) :
  OE 53 #[Oo mb,Oo a.p,PU p (LA L)] w (P8 w0 mb af O es L w rs):=by
 have z:=Oq (∀{G}(h:G:=by
 have z:=Oq (∀{G}(h:G:=by
 have z:=Oq (∀{G}(h:G:=by
 have z:=Oq (∀{G}(h:G:=by
 have b8:=hide be;have z:=Oq (∀{G}(h:G:=by
 have z:=Oq (∀{G}(h:G:=by
 have fi:=hide Dp;have f4:=hide tT;have e9:(d.2.kd:Int)=6:=by rw[bo]
 clear be hr2 dx cL d0 Dp tT bo;go_enter func53,ntmps53;have z:=Oq (∀{G}(h:G:=by
 have eR:=hide (hM.keep b8.out Oz);have z:=Oq (∀{G}(h:G:=by
 obtain⟨cV,dP,c3,hrow⟩:=gI.ar;obtain⟨gt,he⟩:=xE d.2.kids.length;rw[<-he] at c3 hrow;have nF:=gI.ndl;have hblk:=gI.blk;rw[<-bm.out] at hf gB c3 hblk;rw[e9] at gB;have eF:=hide c3;have iH:=hide hblk;have iX:=lt_of_heap eR.out;clear e9 c3 hblk he;go_wp2_with fail;have ab:O5 none mb wz wz.drew:=O5.of QX.drew (O0 ea);have f3:=(Om fi _ (ha.later (Below.refl _ wz).drew) (gI.kp (Kp.of (Below.refl _ wz).drew)));rw[<-bm.out,<-kI.out] at f3;refine QE 9 (fun X=>O5 none mb wz X) PK ?_
 have z:=Oq (∀{G}(h:G:=by
 refine uc 4 (.slice cV gt dP) rfl (Or.inl ⟨by kernel_rfl,fun X ak=>by have h0:=ak.UD.Ui eF.out iH.out (Or.inl rfl);go_simp⟩) (ab) ?_
 refine up 5 mb 0 ab ?_;refine up 6 q 0 ab ?_;refine uc 7 (.agg #[Ol au,Ol aG,OC st,.pointer aB]) rfl (Or.inl ⟨by kernel_rfl,fun X ak=>by have h0:=(cells4 (ak.keep eR.out Oz)).1;have h1:=(cells4 (ak.keep eR.out Oz)).2.1;have U:=(cells4 (ak.keep eR.out Oz)).2.2.1;have aw:=(cells4 (ak.keep eR.out Oz)).2.2.2.1;go_simp⟩) (ab) ?_
 refine P5 8 fun K A=>?_;go_simp;refine cm f3 ?_;rintro e dM ⟨rfl,qm,ql⟩;have lP:O5 none mb wz dM:=ab.trans ql;refine A.out _ _ (fun _=>lP) ?_;clear A K;have fj:=(Om f4 dM _ qm (hrow.kp lP.UD) (Uo.kp lP.UD _ _ nF) (f6.keep lP));rw[<-kI.out] at fj;have nL:=hide (lP.keep dV.out Oz);have kf:=(cY.trans lP);have Gp:=(f6.keep lP);refine P5 9 fun K A=>?_;go_simp;refine cm fj ?_;rintro e aE ⟨⟨ev,rfl,aD⟩,aJ,ah,g3⟩;refine ko A ?_;clear A K;have dF:=hide (ah.Rt Gp nL.out Oz Oz)
 have fl:=(kf.up.trans ah);obtain⟨ly,qX⟩:=xH rs.1.1;rw[<-qX.out];obtain⟨ho,gW,gC,kC,j8,j9,j',xb,ka⟩:=Qx dF.out;refine uz 10 (UY ly) ?_;have bN:=Oq (∀{G}(h:G:=by
 refine uz 13 ev ?_;refine Sl ?_ _;go_simp;exact aDv),G);exact ztk),G);exact Ws),G);exact apg),G);exact aco),G);exact aa5),G);exact Vd),G);exact zsd),G);exact XH),G);exact zsc),G);exact zsn
def asQ:Er->Bool
 | .no=>true
 | _=>false
def aav (bI:Stp w0 mb es eb)(aJ:Ms w0 mb af O w σ){a:Ad}{d:Nd}(hd:OY O w a d)(bo:d.2.kd=10)(eD:σ.steps<=20000)(hst1:σ.steps<20000)(p:Pl){l:Option Va}(hl:OV w L l){v1:Va}{ay:Er}{σ1:St}
  (bq:∀ X u,Ms w0 mb af O X σ.step->OY O X a d->TA 0 X u a.ks->OE 114 #[Oo mb,u,PU p (LA L)] X (O3 w0 mb af O es X ((v1,ay),σ1))) :
  OE 53 #[Oo mb,Oo a.p,PU p (LA L)] w (P8 w0 mb af O es L w ((⟨asQ ay,v1⟩,ay,l),σ1)):=by
 have z:=Oq (∀{G}(h:G:=by
 have z:=Oq (∀{G}(h:G:=by
 have z:=Oq (∀{G}(h:G:=by
 have z:=Oq (∀{G}(h:G:=by
 have b8:=hide be;have z:=Oq (∀{G}(h:G:=by
 have z:=Oq (∀{G}(h:G:=by
 have ac:=bI.WT;have ai:=hide bq;have e9:(d.2.kd:Int)=10:=by rw[bo]
 clear be hr2 dx cL d0 bq bo;go_enter func53,ntmps53;go_wp2_with fail;rw[<-bu.out,<-b0,<-bV];clear bV b0;refine cm hstep ?_;rintro e fA ⟨rfl,ha,hM⟩;have dV:=hide (hM.keep bj.out Oz);have eR:=hide (hM.keep b8.out Oz);have z:=Oq (∀{G}(h:G:=by
 obtain⟨cV,dP,c3,hrow⟩:=gI.ar;obtain⟨gt,he⟩:=xE d.2.kids.length;rw[<-he] at c3 hrow;have bJ:=hide (fun X (ak:OD fA X)=>Om ai X _ (ha.later ak) (gI.kp (Kp.of ak)) (hrow.later ak));rw[<-kI.out] at bJ;rw[<-bm.out] at hf gB c3;rw[e9] at gB;have eF:=hide c3;have r7:=hide (cells4 eR.out);have iX:=lt_of_heap eR.out;clear e9 c3 he;go_wp2_with fail;refine VN (H:=fun wz vb ev=>VB w0 mb af O es fA v1 ay σ1 wz vb ev) (G:=?GG) (fun dJ=>?ways) ?rest
 case ways=>
  refine TI 6 fun ab=>?_;have z:=Oq (∀{G}(h:G:=by
  refine uk 4 eF.out ab ?_;refine uk4 5 r7.out ab ?_;refine uq2 6 10 (fun K A=>?_) fun K A=>?_
  ·have z:=Oq (∀{G}(h:G:=by
   refine uz 7 (.tuple #[(vA v1),ev]) ?_;refine uz 8 (vA v1) ?_;refine uz 9 ev ?_;refine P5 10 fun K A=>?_;go_simp;refine ko A ?_;clear A K;have z:=Oq (∀{G}(h:G:=by
   go_simp;have ci:=VB.late (v:=v1) aD aJ ((O5.of ab (O0 ea)).trans ah);exact axQ),G);exact apj),G);exact asw
  ·have z:=Oq (∀{G}(h:G:=by
   have fp:aE.heap[fA.heap.size]? = some (O1 #[Ol 0,Ol 0,PN] 65):=ah.keep (OA _ _) Oz;obtain⟨z0,mJ,z2,mK,mL,mM,zl⟩:=O7 fp;refine uz 7 (.tuple #[(vA v1),ev]) ?_;refine uz 8 (vA v1) ?_;refine uz 9 ev ?_;have z:=Oq (∀{G}(h:G:=by
   go_simp;have ci:=VB.early (v:=v1) fp O6 (O0 ea) aD aJ ((O5.of (PO.drew) (O0 ea)).trans ah)
   generalize ((aE.setCell (Ot fA.heap.size 0) (Ol v1.k)).setCell (Ot fA.heap.size 1) (Ol v1.n)).setCell (Ot fA.heap.size 2) (OB v1.s)=wz at ci ⊢
   generalize fA.heap.size=vb at ci ⊢
   exact dJ wz vb ev ci),G);exact apj),G);exact aBH),G);exact Ws
 rintro gX vb ev aV;have lL:=hide (aV.fr.keep dV.out Oz);have oi:=(cY.trans aV.fr);have Gr:=(f6.keep aV.fr);have gh:=hide (cells3 aV.v);have oq:=aV.ms;have FX:=aV.er;have MZ:=aV.ms.lt;have ia:=lt_of_heap aV.v;obtain⟨cH,bU,cg,eE,dt,du,dv,iT,rl⟩:=Qx lL.out
 by_cases aq:ay=.no
 ·have bv:ev=Qp:=by have h:=aV.er;rw[aq] at h;exact h
  subst bv;have bL:Hid (asQ ay=true):=by rw[aq];rfl
  go_wp2_with fail;refine TI 5 fun ab=>?_;refine uh 0 Qp (ab) ?_;refine uh 1 (OC true) (ab) ?_;refine uk3 2 gh.out ab ?_;refine uh 3 (.agg #[OC true,Ol v1.k,Ol v1.n,OB v1.s]) (ab) ?_;refine uh 4 Qp (ab) ?_;refine P5 5 fun K A=>?_;go_simp;refine ko A ?_;clear A K;refine uz 6 Qp ?_;refine Sl ?_ _;go_simp;go_wp2_with fail;obtain⟨b1,bx,bi,bF,bC,cG,b4,bT,eg⟩:=rt4 lL.out cR.out bG (O5.up (L:=L) oi) oq (OC true) (Ol v1.k) (Ol v1.n) (OB v1.s);rw[<-bx];refine Vm (v:=.tuple #[UY ⟨true,v1⟩,Qp]) ?_;exact aB0
 ·obtain⟨et,ex,bv⟩:=aV.er.WT aq ac;subst bv;have bL:Hid (asQ ay=false):=by
   show _=_
   exact axR
  go_wp2_with fail;refine TI 5 fun ab=>?_;refine uh 0 (.iface et ex) (ab) ?_;refine uh 1 (OC false) (ab) ?_;refine uk3 2 gh.out ab ?_;refine uh 3 (.agg #[OC false,Ol v1.k,Ol v1.n,OB v1.s]) (ab) ?_;refine uh 4 (.iface et ex) (ab) ?_;refine P5 5 fun K A=>?_;go_simp;refine ko A ?_;clear A K;refine uz 6 (.iface et ex) ?_;refine Sl ?_ _;go_simp;go_wp2_with fail;obtain⟨b1,bx,bi,bF,bC,cG,b4,bT,eg⟩:=rt4 lL.out cR.out bG (O5.up (L:=L) oi) oq (OC false) (Ol v1.k) (Ol v1.n) (OB v1.s);rw[<-bx]
  refine Vm (v:=.tuple #[UY ⟨false,v1⟩,.iface et ex]) ?_;exact aB0),G);exact apg),G);exact aa5),G);exact Vd),G);exact zsd),G);exact XH),G);exact zsc),G);exact zsn
variable {d:Nd}{p:Pl}{l:Option Va}{f:Nat}
def akB (ac:¬ σ.steps<20000):Zo F d p σ=((vU,.stop),σ.step):=if_pos (show 20000<σ.steps+1 by omega)
def akC (ac:¬ σ.steps<20000):stF F f d p l σ=((QW,.stop,l),σ.step):=if_pos (show 20000<σ.steps+1 by omega)
section
variable (ac:σ.steps<20000)
include ac
theorem auJ (E:d.2.kd=17):Zo F d p σ=((Xh d.2.n,.no),σ.step):=by
 obtain⟨no,kd,tx,n,ks⟩:=d;change kd=17 at E;exact VF
theorem auK (E:d.2.kd=18):Zo F d p σ=((Wn d.2.tx,.no),σ.step):=by
 obtain⟨no,kd,tx,n,ks⟩:=d;change kd=18 at E;exact VF
theorem auL (E:d.2.kd=19):Zo F d p σ=((Qi true,.no),σ.step):=by
 obtain⟨no,kd,tx,n,ks⟩:=d;change kd=19 at E;exact VF
theorem auM (E:d.2.kd=20):Zo F d p σ=((Qi false,.no),σ.step):=by
 obtain⟨no,kd,tx,n,ks⟩:=d;change kd=20 at E;exact VF
theorem auN (E:d.2.kd=21):Zo F d p σ=((agJ,.no),σ.step):=by
 obtain⟨no,kd,tx,n,ks⟩:=d;change kd=21 at E;exact VF
theorem auO (E:d.2.kd=23):Zo F d p σ=agM d p σ.step:=by
 obtain⟨no,kd,tx,n,ks⟩:=d;change kd=23 at E;exact VF
theorem auP (E:d.2.kd=24):Zo F d p σ=al2 F d p σ.step:=by
 obtain⟨no,kd,tx,n,ks⟩:=d;change kd=24 at E;exact VF
theorem auQ (E:d.2.kd=25):Zo F d p σ=ab6 F d p σ.step:=by
 obtain⟨no,kd,tx,n,ks⟩:=d;change kd=25 at E;exact VF
theorem auR (E:d.2.kd=26):Zo F d p σ=ab6 F d p σ.step:=by
 obtain⟨no,kd,tx,n,ks⟩:=d;change kd=26 at E;exact VF
theorem auS (E:d.2.kd=27):Zo F d p σ=aas F d p σ.step:=by
 obtain⟨no,kd,tx,n,ks⟩:=d;change kd=27 at E;exact VF
theorem auT (E:d.2.kd=28):Zo F d p σ=aas F d p σ.step:=by
 obtain⟨no,kd,tx,n,ks⟩:=d;change kd=28 at E;exact VF
theorem auU (E:d.2.kd=29):Zo F d p σ=aas F d p σ.step:=by
 obtain⟨no,kd,tx,n,ks⟩:=d;change kd=29 at E;exact VF
theorem auV (E:d.2.kd=30):Zo F d p σ=aas F d p σ.step:=by
 obtain⟨no,kd,tx,n,ks⟩:=d;change kd=30 at E;exact VF
theorem auW (E:d.2.kd=31):Zo F d p σ=aas F d p σ.step:=by
 obtain⟨no,kd,tx,n,ks⟩:=d;change kd=31 at E;exact VF
theorem auX (E:d.2.kd=32):Zo F d p σ=al3 F d p σ.step:=by
 obtain⟨no,kd,tx,n,ks⟩:=d;change kd=32 at E;exact VF
theorem auY (E:d.2.kd=33):Zo F d p σ=aeR F d p σ.step:=by
 obtain⟨no,kd,tx,n,ks⟩:=d;change kd=33 at E;exact VF
theorem auZ (E:d.2.kd=34):Zo F d p σ=ab4 F d p σ.step:=by
 obtain⟨no,kd,tx,n,ks⟩:=d;change kd=34 at E;exact VF
theorem au0 (E:d.2.kd=35):Zo F d p σ=ZF F d p σ.step:=by
 obtain⟨no,kd,tx,n,ks⟩:=d;change kd=35 at E;exact VF
theorem au1 (E:d.2.kd=36):Zo F d p σ=al4 F d p σ.step:=by
 obtain⟨no,kd,tx,n,ks⟩:=d;change kd=36 at E;exact VF
theorem au2 (E:d.2.kd=37):Zo F d p σ=(((Xi d p σ.step).1,.no),(Xi d p σ.step).2):=by
 obtain⟨no,kd,tx,n,ks⟩:=d;change kd=37 at E;exact VF
theorem au3 (E:d.2.kd=38):Zo F d p σ=aan F p σ.step.M.objs.length (P9 d) { σ.step with M:=σ.step.M.Pz 0 }:=by
 obtain⟨no,kd,tx,n,ks⟩:=d;change kd=38 at E;exact VF
theorem aCR (E:d.2.kd=2):stF F f d p l σ=if d.2.kids.length=0 then ((QW,.no,l),σ.step) else ((QW,(avQ F d p σ.step).1,l),(avQ F d p σ.step).2):=by
 obtain⟨no,kd,tx,n,ks⟩:=d;change kd=2 at E;have z:=Oq (∀{G}(h:G:=by
 by_cases h0:ks.length=0
 ·exact(if_pos h0).trans (if_pos h0).symm
 ·refine((if_neg h0).trans ?_).trans (if_neg h0).symm;unfold avQ
  show (match F.v _ p σ.step with | ((v,.no),σ1)=>_ | ((_,e),σ1)=>_)=_
  rcases F.v (Oy (no,.mk 2 tx n ks) 0) p σ.step with ⟨⟨v,e⟩,σ1⟩
  cases e <;> rfl),G);exact ajD
theorem aCT (E:d.2.kd=3):stF F f d p l σ=((QW,(aci d p (Vl F (P9 d) p σ.step)).1,l),(aci d p (Vl F (P9 d) p σ.step)).2):=by
 obtain⟨no,kd,tx,n,ks⟩:=d;change kd=3 at E;have z:=Oq (∀{G}(h:G:=by
 show (match Vl F _ p σ.step with | ((v,.no),σ1)=>_ | ((_,e),σ1)=>_)=_
 rcases Vl F (P9 (no,.mk 3 tx n ks)) p σ.step with ⟨⟨v,e⟩,σ1⟩
 cases e <;> rfl),G);exact ajD
theorem aCU (E:d.2.kd=4):stF F f d p l σ=((QW,(aci d p (Vl F (P9 d) p σ.step)).1,l),(aci d p (Vl F (P9 d) p σ.step)).2):=by
 obtain⟨no,kd,tx,n,ks⟩:=d;change kd=4 at E;have z:=Oq (∀{G}(h:G:=by
 show (match Vl F _ p σ.step with | ((v,.no),σ1)=>_ | ((_,e),σ1)=>_)=_
 rcases Vl F (P9 (no,.mk 4 tx n ks)) p σ.step with ⟨⟨v,e⟩,σ1⟩
 cases e <;> rfl),G);exact ajD
theorem aCV (E:d.2.kd=6):stF F f d p l σ=Q8 F (Qg d p σ.step).1 (P9 d) l (Qg d p σ.step).2:=by
 obtain⟨no,kd,tx,n,ks⟩:=d;change kd=6 at E;exact VF
theorem aCW (E:d.2.kd=7):stF F f d p l σ=chQ F d p l σ.step:=by
 obtain⟨no,kd,tx,n,ks⟩:=d;change kd=7 at E;exact VF
theorem aCX (E:d.2.kd=8):stF F f d p l σ=Y5 F d p f l σ.step:=by
 obtain⟨no,kd,tx,n,ks⟩:=d;change kd=8 at E;exact VF
theorem aCY (E:d.2.kd=9):stF F f d p l σ=wiQ F d p l σ.step:=by
 obtain⟨no,kd,tx,n,ks⟩:=d;change kd=9 at E;exact VF
theorem au4 (E:d.2.kd=10):stF F f d p l σ=((⟨asQ (Vl F (P9 d) p σ.step).1.2,(Vl F (P9 d) p σ.step).1.1⟩,(Vl F (P9 d) p σ.step).1.2,l),(Vl F (P9 d) p σ.step).2):=by
 obtain⟨no,kd,tx,n,ks⟩:=d;change kd=10 at E;have z:=Oq (∀{G}(h:G:=by
 show (match Vl F _ p σ.step with | ((v,.no),σ1)=>_ | ((v,e),σ1)=>_)=_
 rcases Vl F (P9 (no,.mk 10 tx n ks)) p σ.step with ⟨⟨v,e⟩,σ1⟩
 cases e <;> rfl),G);exact ajD
theorem au5 (E:d.2.kd=11):stF F f d p l σ=((QW,(ao7 (F.v (Oy d 0) p σ.step)).1,l),(ao7 (F.v (Oy d 0) p σ.step)).2):=by
 obtain⟨no,kd,tx,n,ks⟩:=d;change kd=11 at E;have z:=Oq (∀{G}(h:G:=by
 show (match F.v _ p σ.step with | ((v,.no),σ1)=>_ | ((_,e),σ1)=>_)=_
 rcases F.v (Oy (no,.mk 11 tx n ks) 0) p σ.step with ⟨⟨v,e⟩,σ1⟩
 cases e <;> rfl),G);exact ajD
theorem au7 (E:d.2.kd=12):stF F f d p l σ=aao F p (P9 d).tail (F.s (Oy d 0) p l σ.step).1.1 (F.s (Oy d 0) p l σ.step).1.2.1 (F.s (Oy d 0) p l σ.step).1.2.2 (F.s (Oy d 0) p l σ.step).2:=by
 obtain⟨no,kd,tx,n,ks⟩:=d;change kd=12 at E;exact VF
theorem au6 (E:d.2.kd=15):stF F f d p l σ=((QW,(agV l (F.v (Oy d 0) p σ.step)).1.1,(agV l (F.v (Oy d 0) p σ.step)).1.2),(agV l (F.v (Oy d 0) p σ.step)).2):=by
 obtain⟨no,kd,tx,n,ks⟩:=d;change kd=15 at E;have z:=Oq (∀{G}(h:G:=by
 show (match F.v _ p σ.step with | ((v,.no),σ1)=>_ | ((_,e),σ1)=>_)=_
 rcases F.v (Oy (no,.mk 15 tx n ks) 0) p σ.step with ⟨⟨v,e⟩,σ1⟩
 cases e <;> rfl),G);exact ajD
theorem akA (E:d.2.kd≠17/\d.2.kd≠18/\d.2.kd≠19/\d.2.kd≠20/\d.2.kd≠21/\d.2.kd≠23/\d.2.kd≠24/\d.2.kd≠25/\d.2.kd≠26/\d.2.kd≠27/\d.2.kd≠28/\d.2.kd≠29/\d.2.kd≠30/\d.2.kd≠31/\d.2.kd≠32/\d.2.kd≠33/\d.2.kd≠34/\d.2.kd≠35/\d.2.kd≠36/\d.2.kd≠37/\d.2.kd≠38):Zo F d p σ=((vU,.no),σ.step):=by
 obtain⟨If,qi,Ig,ra,Ii,io,Ij,Ik,Il,L',vL,m5,Ae,sx,vM,mp,Io,Af,qj,Ip,Iq⟩:=E;refine(if_neg (show ¬ 20000<σ.steps+1 by omega)).trans ?_;refine(if_neg If).trans ?_;refine(if_neg qi).trans ?_;refine(if_neg (fun h=>h.elim Ig ra)).trans ?_;refine(if_neg Ii).trans ?_;refine(if_neg io).trans ?_;refine(if_neg Ij).trans ?_;refine(if_neg (fun h=>h.elim Ik Il)).trans ?_;refine(if_neg (fun h=>by omega)).trans ?_;refine(if_neg vM).trans ?_;refine(if_neg mp).trans ?_;refine(if_neg Io).trans ?_
 refine(if_neg Af).trans ?_;refine(if_neg qj).trans ?_;refine(if_neg Ip).trans ?_;refine(if_neg Iq).trans ?_;rfl
theorem ad3 (E:d.2.kd≠2/\d.2.kd≠3/\d.2.kd≠4/\d.2.kd≠6/\d.2.kd≠7/\d.2.kd≠8/\d.2.kd≠9/\d.2.kd≠10/\d.2.kd≠11/\d.2.kd≠12/\d.2.kd≠15):stF F f d p l σ=((QW,.no,l),σ.step):=by
 obtain⟨U,aw,aL,bX,fY,fQ,hL,kR,nQ,hK,jf⟩:=E;refine(if_neg (show ¬ 20000<σ.steps+1 by omega)).trans ?_;refine(if_neg U).trans ?_;refine(if_neg (fun h=>h.elim aw aL)).trans ?_;refine(if_neg bX).trans ?_;refine(if_neg fY).trans ?_;refine(if_neg fQ).trans ?_;refine(if_neg hL).trans ?_;refine(if_neg kR).trans ?_;refine(if_neg nQ).trans ?_;refine(if_neg hK).trans ?_;refine(if_neg jf).trans ?_;rfl
end
end
section
variable {d:Nd} (h:Nk 0 d.2)
include d h
theorem Nk.Xq (E:24<=d.2.kd/\d.2.kd<=36):Nk 0 (Oy d 0).2/\1<=d.2.kids.length:=by
 obtain⟨no,t⟩:=d;have ac:=h.sh;simp only at ac E h
 cases ac with
 | anC _ bc=>exact⟨h.kid List.mem_cons_self bc,O6⟩
 | call bc _ _=>exact⟨h.kid List.mem_cons_self bc,by show 1<=(_::_).length;simp⟩
 | one _ bc=>exact⟨h.kid List.mem_cons_self bc,O6⟩
 | two _ bc _=>exact⟨h.kid List.mem_cons_self bc,by show 1<=2;omega⟩
 | asg _ bc _=>exact⟨h.kid List.mem_cons_self bc,by show 1<=2;omega⟩
 | lit h1=>simp only[Tr.kd] at E;omega
 | _=>simp only[Tr.kd] at E;omega
theorem Nk.ajl (E:24<=d.2.kd/\d.2.kd<=31):Nk 0 (Oy d 1).2/\d.2.kids.length=2:=by
 obtain⟨no,t⟩:=d;have ac:=h.sh;simp only at ac E h
 cases ac with
 | two _ _ bc=>exact⟨h.kid (List.mem_cons_of_mem _ List.mem_cons_self) bc,rfl⟩
 | asg _ _ bc=>exact⟨h.kid (List.mem_cons_of_mem _ List.mem_cons_self) bc,rfl⟩
 | lit h1=>simp only[Tr.kd] at E;omega
 | one h1=>simp only[Tr.kd] at E;omega
 | _=>simp only[Tr.kd] at E;omega
theorem Nk.one1 (E:32<=d.2.kd/\d.2.kd<=36/\d.2.kd≠35):d.2.kids.length=1:=by
 obtain⟨no,t⟩:=d;have ac:=h.sh;simp only at ac E h
 cases ac with
 | anC _ bc=>rfl
 | one _ bc=>rfl
 | lit h1=>simp only[Tr.kd] at E;omega
 | two h1=>simp only[Tr.kd] at E;omega
 | _=>simp only[Tr.kd] at E;omega
theorem Nk.lam (E:d.2.kd=37):Fg d.2:=by
 refine⟨h.ct,h.nb,?_⟩;obtain⟨no,t⟩:=d;have ac:=h.sh;simp only at ac E h
 cases ac with
 | lam _ al D=>exact⟨_,_,_,_,_,rfl,al,D⟩
 | lit h1=>simp only[Tr.kd] at E;omega
 | one h1=>simp only[Tr.kd] at E;omega
 | two h1=>simp only[Tr.kd] at E;omega
 | _=>cases E
theorem Nk.obj (E:d.2.kd=38):(∀ k ∈ P9 d,Nk 0 (Oy k 0).2/\k.2.kids.length=1)/\d.2.kids.length<=8:=by
 obtain⟨no,t⟩:=d;have ac:=h.sh;simp only at ac E h
 cases ac with
 | obj ac hl=>
  refine⟨fun k E=>?_,hl⟩;have aS:=Qq E;have h1:=ac _ aS;have U:=h.kid aS h1;obtain⟨KG,u⟩:=k;simp only at h1 U
  cases h1 with
  | prop _ av=>exact⟨U.kid List.mem_cons_self av,rfl⟩
 | lit h1=>simp only[Tr.kd] at E;omega
 | one h1=>simp only[Tr.kd] at E;omega
 | two h1=>simp only[Tr.kd] at E;omega
 | _=>cases E
end
def Nk.num {t:Tr}(h:Nk 0 t)(E:t.kd=17):Nb t.n:=by
 have ac:=h.sh
 cases ac with
 | num h1=>exact h1
 | lit h1=>simp only[Tr.kd] at E;omega
 | one h1=>simp only[Tr.kd] at E;omega
 | two h1=>simp only[Tr.kd] at E;omega
 | _=>cases E
def Nk.str {t:Tr}(h:Nk 0 t)(E:t.kd=18):Sm t.tx:=by
 have ac:=h.sh
 cases ac with
 | str h1=>exact h1
 | lit h1=>simp only[Tr.kd] at E;omega
 | one h1=>simp only[Tr.kd] at E;omega
 | two h1=>simp only[Tr.kd] at E;omega
 | _=>cases E
section
variable {N N':Int} {σ σ1 cy:St} {v:Va} {e:Er} {f:Nat} {p:Pl} {F:Fx} {d:Nd} {l b3:Option Va} {o:Oc}
def Ex.step (σ:St):Ex σ σ.step:=⟨O6,O6,rfl,Nat.le_succ _,fun _ _ x=>x,List.prefix_rfl⟩
def Iv.step (h:Iv N σ):Iv (N - 10000) σ.step:=by
 obtain⟨n,aI,az⟩:=h.pz;exact⟨⟨n,⟨aI.go,aI.ow,aI.fn,aI.lg,aI.se,aI.oe⟩,by show (n:Int)<=N - 10000+10000 * ((σ.steps+1:Nat):Int);push_cast;omega⟩,h.gm,h.fn,h.ca,h.lr,h.lo⟩
def Q.step (h:Q (f+1) N p σ)(ac:¬ 20000<σ.step.steps):Q f (N - 10000) p σ.step:=⟨by have:=h.fu;show 20001<σ.steps+1+f;omega,by omega,h.iv.step,h.po⟩
section
variable (ah:FI F f) (h:Q f N p σ) (hd:Nk 0 d.2)
include ah h hd
theorem ayu (E:d.2.kd=24):VO (N+10) σ (al2 F d p σ):=by
 have h0:=(hd.Xq Ou).1;have h1:=(hd.ajl Ou).1;unfold al2;simp only
 split
 ·rename_i qj
  have av:=(ah.v h (h0.Xq Ou).1).1
  rcases aa:F.v (Oy (Oy d 0) 0) p σ with ⟨⟨ob,e⟩,σ1⟩
  rw[aa] at av
  cases e with
  | no=>
   simp only;have hw:=(ah.v (h.next av) h1).1
   rcases hr2:F.v (Oy d 1) p σ1 with ⟨⟨v,e⟩,cy⟩
   rw[hr2] at hw;have gd:=(av.va).up hw.ex.ob;have nX:=av.ex.trans hw.ex
   cases e with
   | no=>
    simp only
    split
    ·exact⟨hw.iv.up Ou,nX,⟨hw.er,gvT smT⟩,VD _⟩
    ·rename_i bE
     have pP:=gd.r (by simpa using bE);have bX:=hw.iv.put hw.va ob.n (Oy d 0).2.tx false;refine⟨bX.iv.up Ou,nX.trans bX.ex,?_,hw.va.up bX.ex.ob⟩;rw[aqw pP];exact hw.er
   | _=>exact⟨hw.iv.up Ou,nX,hw.er,VD _⟩
  | _=>exact⟨av.iv.up Ou,av.ex,av.er,VD _⟩
 ·have U:=h.iv.look (Oy d 0) p;have av:=(ah.v (h.nx U) h1).1
  rcases aa:F.v (Oy d 1) p (look (Oy d 0) p σ).2 with ⟨⟨v,e⟩,σ1⟩
  rw[aa] at av;have nX:=U.ex.trans av.ex
  cases e with
  | no=>
   simp only;obtain⟨bE,bX,fY⟩:=aqy av.iv av.er av.va (look (Oy d 0) p σ).1 (Oy d 0).2.tx p.strict;exact⟨bE.up Ou,nX.trans bX,fY,av.va.up bX.ob⟩
  | _=>exact⟨av.iv.up Ou,nX,av.er,VD _⟩
theorem ayv (E:d.2.kd=34):VO (N+10) σ (ab4 F d p σ):=by
 have h0:=(hd.Xq Ou).1;unfold ab4;simp only
 split
 ·have h1:=h.iv.drop (σ.M.find p.scope (Oy d 0).2.tx) (Oy d 0).2.tx;exact .ret (h1.up Ou) h.st (gvB _ _)
 ·split
  ·obtain⟨b5,ef,d7,m4⟩:=aaw ah h (d:=Oy (Oy d 0) 0) (h0.Xq Ou).1
   rcases aa:UW F (Oy (Oy d 0) 0) p σ with ⟨⟨o,e⟩,σ1⟩
   rw[aa] at b5 ef d7
   cases e with
   | no=>
    simp only;have bE:=b5.cut o (Oy d 0).2.tx
    split
    ·exact⟨bE.iv.up Ou,ef.trans bE.ex,⟨d7,gvT smT⟩,VD _⟩
    ·exact⟨bE.iv.up Ou,ef.trans bE.ex,d7,gvB _ _⟩
   | _=>exact⟨b5.up Ou,ef,d7,VD _⟩
  ·have av:=(ah.v h h0).1
   rcases aa:F.v (Oy d 0) p σ with ⟨⟨v,e⟩,σ1⟩
   rw[aa] at av
   cases e with
   | no=>exact⟨av.iv.up Ou,av.ex,av.er,gvB _ _⟩
   | _=>exact⟨av.iv.up Ou,av.ex,av.er,VD _⟩
end
def Nk.adX {d:Nd}(hd:Nk 0 d.2)(E:27<=d.2.kd/\d.2.kd<=31):∀ x ∈ P9 d,Nk 0 x.2:=fun x ae=>by
 have U:=hd.ajl Ou;have h0:=hd.Xq Ou;have aS:=Qq ae;obtain⟨i,am,e⟩:=List.getElem_of_mem aS;have aw:=Xp d i;rw[List.getD_eq_getElem?_getD,List.getElem?_eq_getElem am,e] at aw;rw[U.2] at am;rw[show x.2=(Oy d i).2 from aw.symm]
 rcases i with _|_|i
 ·exact h0.1
 ·exact U.1
 ·omega
def ayw (ah:FI F f)(h:Q f N p σ)(hd:Nk 0 d.2)(E:27<=d.2.kd/\d.2.kd<=31):VO N σ (aas F d p σ):=by
 have hl:=acz ah (P9 d) [] h (hd.adX E) (fun _ h=>by cases h);unfold aas
 rcases aa:Vk F p (P9 d) [] σ with ⟨⟨vs,e⟩,σ1⟩
 rw[aa] at hl
 rcases vs with _|⟨a,_|⟨b,vs⟩⟩
 ·exact⟨hl.iv,hl.ex,hl.er,VD _⟩
 ·exact⟨hl.iv,hl.ex,hl.er,VD _⟩
 ·
  cases e with
  | no=>
   obtain⟨bE,bX⟩:=atX σ1.M.objs.length σ1.M d.2.kd a b;refine⟨hl.iv,hl.ex,?_,bE⟩
   show Eo σ1 (Wp σ1.M d.2.kd a b).2
   rcases bX with bX|⟨s,bX,fY⟩
   ·rw[bX];exact hl.er
   ·rw[bX];exact⟨hl.er,gvT fY⟩
  | _=>exact⟨hl.iv,hl.ex,hl.er,VD _⟩
def aFu (ah:FI F f)(h:Q (f+1) N p σ)(hd:Nk 0 d.2):VO N σ (Zo F d p σ)/\σ.steps<(Zo F d p σ).2.steps:=by
 suffices H:VO N σ.step (Zo F d p σ) from ⟨H.after (Ex.step σ),H.ex.st⟩
 by_cases ac:σ.steps<20000
 ·have ag:=h.step (show ¬ 20000<σ.steps+1 by omega);have az:=(Nx.refl ag.iv).up (show N - 10000<=N by omega)
  by_cases wV:d.2.kd=17
  ·rw[auJ ac wV];exact .ret az ag.st (gvN (hd.num wV))
  by_cases wW:d.2.kd=18
  ·rw[auK ac wW];exact .ret az ag.st (gvT (hd.str wW))
  by_cases yo:d.2.kd=19
  ·rw[auL ac yo];exact .ret az ag.st (gvB _ _)
  by_cases yp:d.2.kd=20
  ·rw[auM ac yp];exact .ret az ag.st (gvB _ _)
  by_cases yq:d.2.kd=21
  ·rw[auN ac yq];exact .ret az ag.st ⟨fun _=>by decide,sm0,fun e=>by cases e⟩
  by_cases n8:d.2.kd=23
  ·rw[auO ac n8];have h1:=ag.iv.look d p;unfold agM;simp only
   split
   ·exact .ret (h1.up Ou) ag.st (atW h1.iv.gm _ _)
   ·exact .bad (h1.up Ou) ag.st smR
  by_cases o8:d.2.kd=24
  ·rw[auP ac o8];exact(ayu ah ag hd o8).up Ou
  by_cases wX:d.2.kd=25\/d.2.kd=26
  ·have e:Zo F d p σ=ab6 F d p σ.step:=by rcases wX with k|k;exact auQ ac k;exact auR ac k
   rw[e];have av:=(ah.v ag (hd.Xq Ou).1).1;unfold ab6
   rcases aa:F.v (Oy d 0) p σ.step with ⟨⟨v,e⟩,σ1⟩
   rw[aa] at av
   cases e with
   | no=>
    simp only
    split
    ·exact av.up Ou
    ·exact((ah.v (ag.next av) (hd.ajl Ou).1).1.after av.ex).up Ou
   | _=>exact av.up Ou
  by_cases n9:27<=d.2.kd/\d.2.kd<=31
  ·have e:Zo F d p σ=aas F d p σ.step:=by
    obtain h|h|h|h|h:d.2.kd=27\/d.2.kd=28\/d.2.kd=29\/d.2.kd=30\/d.2.kd=31:=Ou
    ·exact auS ac h
    ·exact auT ac h
    ·exact auU ac h
    ·exact auV ac h
    ·exact auW ac h
   rw[e];exact(ayw ah ag hd n9).up Ou
  by_cases ys:d.2.kd=32
  ·rw[auX ac ys];have av:=(ah.v ag (hd.Xq Ou).1).1;unfold al3
   rcases aa:F.v (Oy d 0) p σ.step with ⟨⟨v,e⟩,σ1⟩
   rw[aa] at av
   cases e with
   | no=>exact⟨av.iv.up Ou,av.ex,av.er,gvB _ _⟩
   | _=>exact av.err.up Ou
  by_cases yt:d.2.kd=33
  ·rw[auY ac yt];have av:=(ah.v ag (hd.Xq Ou).1).1;unfold aeR
   split
   ·exact .ret az ag.st (gvT Oz)
   ·rcases aa:F.v (Oy d 0) p σ.step with ⟨⟨v,e⟩,σ1⟩
    rw[aa] at av
    cases e with
    | no=>exact⟨av.iv.up Ou,av.ex,av.er,gvT (atY _ _)⟩
    | _=>exact av.err.up Ou
  by_cases o9:d.2.kd=34
  ·rw[auZ ac o9];exact(ayv ah ag hd o9).up Ou
  by_cases ux:d.2.kd=35
  ·rw[au0 ac ux];exact(at6 ah ag hd ux).up Ou
  by_cases qG:d.2.kd=36
  ·rw[au1 ac qG];obtain⟨b5,ef,d7,_⟩:=aaw ah ag (d:=Oy d 0) (hd.Xq Ou).1;unfold al4
   rcases aa:UW F (Oy d 0) p σ.step with ⟨⟨o,e⟩,σ1⟩
   rw[aa] at b5 ef d7
   cases e with
   | no=>
    refine⟨b5.up Ou,ef,d7,?_⟩
    show Gv _ (((σ1.M.prop o d.2.tx).map Pr.v).getD vU)
    cases al:σ1.M.prop o d.2.tx with
    | none=>exact VD _
    | some q=>exact akT b5.gm al
   | _=>exact⟨b5.up Ou,ef,d7,VD _⟩
  by_cases uy:d.2.kd=37
  ·rw[au2 ac uy];obtain⟨h1,U⟩:=ag.iv.lam (hd.lam uy) ag.po;exact .ret (h1.up Ou) ag.st U
  by_cases uA:d.2.kd=38
  ·rw[au3 ac uA];obtain⟨h1,U⟩:=hd.obj uA;have aw:=ag.iv.Pz (c:=0) Ou;have aL:=aqA ah σ.step.M.objs.length (P9 d) (ag.nx aw) ⟨by omega,by simp[Mo.Pz];omega⟩ (fun k E=>(h1 k E).1)
   exact(VO.after aw.ex aL).up (by rw[Si];omega)
  rw[akA ac Ou];exact .ret az ag.st (VD _)
 ·rw[akB ac];have:=h.st;exact⟨h.iv.step.up Ou,Ex.refl _,by show σ.steps+1=20001;omega,VD _⟩
end
inductive Sk (d:Nd):Prop
 | decl (E:d.2.kd=2\/d.2.kd=3\/d.2.kd=4) (hl:d.2.kids.length<=1) (ac:∀ k ∈ P9 d,Nk 0 k.2)
 | func (E:d.2.kd=5)|empty (E:d.2.kd=16)
 | blk (E:d.2.kd=6) (D:Bk d.2)
 | sif (E:d.2.kd=7) (hl:d.2.kids.length=2\/d.2.kids.length=3) (h0:Nk 0 (Oy d 0).2) (h1:Nk 1 (Oy d 1).2) (bR:PE (Oy d 1).2=false) (U:d.2.kids.length=3->Nk 1 (Oy d 2).2/\PE (Oy d 2).2=false)
 | loop (E:d.2.kd=8\/d.2.kd=9) (hl:d.2.kids.length=2) (h0:Nk 0 (Oy d 0).2) (h1:Nk 1 (Oy d 1).2) (bR:PE (Oy d 1).2=false)
 | give (E:d.2.kd=10) (hl:d.2.kids.length<=1) (ac:∀ k ∈ P9 d,Nk 0 k.2)
 | one (E:d.2.kd=11\/d.2.kd=15) (hl:d.2.kids.length=1) (h0:Nk 0 (Oy d 0).2)
 | atm (E:d.2.kd=12) (hl:2<=d.2.kids.length/\d.2.kids.length<=3) (h0:Nk 1 (Oy d 0).2) (dn:PE (Oy d 0).2=false) (ac:∀ k ∈ (P9 d).tail,(k.2.kd=13\/k.2.kd=14)/\k.2.kids.length=1/\Nk 1 (Oy k 0).2/\PE (Oy k 0).2=false)
def Nk.ayx {t:Tr}(h:Nk 3 t):Nk 1 t/\PE t=false:=by
 have ac:=h.sh;refine⟨⟨.aic h.sh,h.ct,h.nb⟩,?_⟩
 cases ac with
 | blk _=>rfl
def afw {t:Tr}(h:WY t=false):PE t=false:=by
 unfold WY at h;unfold PE
 revert h
 cases t.kd==3 <;> cases t.kd==4 <;> simp
def Nk.sk {d:Nd}(h:Nk 1 d.2):Sk d:=by
 have e':=(ZN h.nb).2;obtain⟨no,t⟩:=d;have ac:=h.sh;simp only at ac h e';have kid:∀ {c:Nat} {k:Tr},k ∈ t.kids->RQ Sm Sm Nb c k->Nk c k:=fun aS E=>h.kid aS E
 cases ac with
 | decl E _ av hl _=>exact .decl E hl fun k E=>kid (Qq E) (av _ (Qq E))
 | func _ _ _=>exact .func rfl
 | aic aw=>
  have aL:Nk 3 t:=⟨aw,h.ct,h.nb⟩;refine .blk ?_ (aL.bk Ou)
  cases aw with
  | blk _=>rfl
 | @sif a b av ac=>
  have cO:b ∈ [a,b]:=List.mem_cons_of_mem _ List.mem_cons_self;exact .sif rfl (.inl rfl) (kid List.mem_cons_self av) (kid cO ac) (afw (e' (.inl rfl) _ cO)) (fun e=>by cases e)
 | @arq a b c av ac aq=>
  have cO:b ∈ [a,b,c]:=List.mem_cons_of_mem _ List.mem_cons_self;have cP:c ∈ [a,b,c]:=List.mem_cons_of_mem _ (List.mem_cons_of_mem _ List.mem_cons_self);exact .sif rfl (.inr rfl) (kid List.mem_cons_self av) (kid cO ac) (afw (e' (.inl rfl) _ cO)) (fun _=>⟨kid cP aq,afw (e' (.inl rfl) _ cP)⟩)
 | @loop kd a b E av ac=>
  have cO:b ∈ [a,b]:=List.mem_cons_of_mem _ List.mem_cons_self;exact .loop E rfl (kid List.mem_cons_self av) (kid cO ac) (afw (e' (.inr E) _ cO))
 | @give kd v E av hl aj=>
  rcases E with rfl|rfl
  ·exact .give rfl hl fun k E=>kid (Qq E) (av _ (Qq E))
  ·have:=aj rfl
   rcases v with _|⟨a,_|⟨b,v⟩⟩
   ·simp at this
   ·exact .one (.inl rfl) rfl (kid List.mem_cons_self (av _ List.mem_cons_self))
   ·simp at this
 | @atm b c f D aj aH hl=>
  obtain⟨b5,ef⟩:=Nk.ayx (kid List.mem_cons_self D);refine .atm rfl ⟨by show 2<=(b::(c++f)).length;simp;omega,by show (b::(c++f)).length<=3;simp;omega⟩ b5 ef fun k E=>?_
  have aS:k.2 ∈ c++f:=by
   have h1:k.2 ∈ ((P9 (no,.mk 12 Ox 0 (b::(c++f)))).tail).map (·.2):=List.mem_map.2 ⟨k,E,rfl⟩;rw[List.map_tail,acs] at h1;exact h1
  have di:k.2 ∈ b::(c++f):=List.mem_cons_of_mem _ aS;obtain⟨KG,u⟩:=k;simp only at aS di
  rcases List.mem_append.1 aS with aS|aS
  ·have bE:=aj u aS;have bX:=kid di bE
   cases bE with
   | cat _ D=>exact⟨.inl rfl,rfl,Nk.ayx (bX.kid List.mem_cons_self D)⟩
  ·have bE:=aH u aS;have bX:=kid di bE
   cases bE with
   | fin D=>exact⟨.inr rfl,rfl,Nk.ayx (bX.kid List.mem_cons_self D)⟩
 | empty=>exact .empty rfl
 | expr av=>exact .one (.inr rfl) rfl (kid List.mem_cons_self av)
section
variable {N N':Int} {σ σ1 cy:St} {v:Va} {e:Er} {f:Nat} {p:Pl} {F:Fx} {d:Nd} {l b3:Option Va} {o:Oc}
def ajn (ah:FI F f)(h:Q f N p σ)(ac:∀ k ∈ P9 d,Nk 0 k.2):VO N σ (Vl F (P9 d) p σ):=by
 unfold Vl
 split
 ·exact .ret (Nx.refl h.iv) h.st (VD _)
 ·rename_i k ks aq
  exact(ah.v h (ac k (by rw[aq];exact List.mem_cons_self))).1
def aqB (ah:FI F f)(h0:Nk 0 (Oy d 0).2)(h1:Nk 1 (Oy d 1).2)(bR:PE (Oy d 1).2=false):∀ (k:Nat) {l:Option Va} {σ:St},Q f N p σ->20001<σ.steps+k->Lg σ l->SO N σ (Y5 F d p k l σ)
 | 0,l,σ,h,E,_=>by have:=h.st;omega
 | k+1,l,σ,h,E,hl=>by
  obtain⟨av,e0⟩:=ah.v h h0;rw[Y5]
  rcases aa:F.v (Oy d 0) p σ with ⟨⟨v,e⟩,σ1⟩
  rw[aa] at av e0;have eZ:=hl.up av.ex
  cases e with
  | no=>
   simp only;have ag:=h.next av
   split
   ·obtain⟨hw,da⟩:=ah.s ag h1 (fun e=>by rw[bR] at e;cases e) eZ
    rcases hr2:F.s (Oy d 1) p l σ1 with ⟨⟨o,e,b3⟩,cy⟩
    rw[hr2] at hw da
    cases e with
    | no=>
     simp only
     split
     ·exact hw.after av.ex
     ·exact((aqB ah h0 h1 bR k (ag.nexts hw) (by dsimp only at e0 da;omega) hw.la).after hw.ex).after av.ex
    | _=>exact hw.after av.ex
   ·exact⟨av.iv,av.ex,av.er,VD _,eZ⟩
  | _=>exact⟨av.iv,av.ex,av.er,VD _,eZ⟩
structure Z (f:Nat)(N:Int)(p:Pl)(σ:St)(o:Oc)(e:Er)(l:Option Va):Prop where
 fu:20001<σ.steps+f
 iv:Iv N σ
 po:Po p σ
 er:Eo σ e
 va:Gv σ.M.objs.length o.v
 la:Lg σ l
def Z.q (h:Z f N p σ o e l)(aq:e≠.stop):Q f N p σ:=⟨h.fu,by
 have:=h.er
 cases e with
 | no=>exact this
 | stop=>exact absurd rfl aq
 | XU v=>exact this.1
 | mis=>exact this.elim,h.iv,h.po⟩
def Z.so (h:Z f N p σ o e l):SO N σ ((o,e,l),σ):=⟨h.iv,Ex.refl _,h.er,h.va,h.la⟩
def Eo.up (h:Eo σ e)(k:Eo σ1 .no)(x:Ex σ σ1)(aq:e≠.stop):Eo σ1 e:=by
 cases e with
 | no=>exact k
 | stop=>exact absurd rfl aq
 | XU v=>exact⟨k,h.2.up x.ob⟩
 | mis=>exact h
section
variable (ah:FI F f) (h:Z f N p σ o e l) (h0:Nk 1 (Oy d 0).2) (dn:PE (Oy d 0).2=false)
include ah h h0 dn
theorem apB:SO (N+2) σ (XV F d p o e l σ):=by
 unfold XV
 cases e with
 | XU v=>
  simp only;have z:=Oq (∀{G}(h:G:=by
  have eU:Q f (N+2) { p with scope:=σ.top } ((σ.opn p.scope (-1) (own d)).dec σ.top d.2.tx 0 v):=⟨by rw[hK.st];exact ag.fu,by rw[hK.st];exact ag.st,hK.iv.up Ou,kv⟩
  exact(ah.s eU h0 (fun e=>by rw[dn] at e;cases e) (h.la.up hK.ex)).1.after hK.ex),G);exact aCP
 | _=>exact h.so.up Ou
theorem apC:SO (N+2) σ (Wq F d p o e l σ):=by
 by_cases aq:e=.stop
 ·subst aq;exact h.so.up Ou
 ·have hw:=(ah.s (h.q aq) h0 (fun e=>by rw[dn] at e;cases e) h.la).1
  have z:=Oq (∀{G}(h:G:=by
  cases ay with
  | no=>
   simp only
   split
   ·exact hw.up Ou
   ·exact⟨hw.iv.up Ou,hw.ex,h.er.up hw.er hw.ex aq,h.va.up hw.ex.ob,hw.la⟩
  | _=>exact hw.up Ou),G);exact aCQ
end
def aqC (ah:FI F f):∀ (ks:List Nd) {N:Int} {o:Oc} {e:Er} {l:Option Va} {σ:St},Z f N p σ o e l->(∀ k ∈ ks,Nk 1 (Oy k 0).2/\PE (Oy k 0).2=false)->SO (N+2 * ks.length) σ (aao F p ks o e l σ)
 | [],N,o,e,l,σ,h,_=>h.so.up O8
 | k::ks,N,o,e,l,σ,h,E=>by
  obtain⟨cB,b5⟩:=E k List.mem_cons_self;rw[aao];have h1:SO (N+2) σ (if k.2.kd=13 then XV F k p o e l σ else Wq F k p o e l σ):=by
   split
   ·exact apB ah h cB b5
   ·exact apC ah h cB b5
  generalize (if k.2.kd=13 then XV F k p o e l σ else Wq F k p o e l σ)=r at h1 ⊢
  have U:=aqC ah ks (N:=N+2) (o:=r.1.1) (e:=r.1.2.1) (l:=r.1.2.2) (σ:=r.2) ⟨by have:=h.fu;have:=h1.ex.st;omega,h1.iv,h.po.up h1.ex,h1.er,h1.va,h1.la⟩ (fun x ae=>E x (List.mem_cons_of_mem _ ae))
  exact(U.after h1.ex).up (by rw[List.length_cons];push_cast;omega)
def aFv (ah:FI F f)(h:Q (f+1) N p σ)(hd:Nk 1 d.2)(nf:PE d.2=true->K4 σ.M p.scope d.2.tx)(hl:Lg σ l):SO N σ (stF F f d p l σ)/\σ.steps<(stF F f d p l σ).2.steps:=by
 suffices H:SO N σ.step (stF F f d p l σ) from ⟨H.after (Ex.step σ),H.ex.st⟩
 by_cases ac:σ.steps<20000
 ·have ag:=h.step (show ¬ 20000<σ.steps+1 by omega);have az:=(Nx.refl ag.iv).up (show N - 10000<=N by omega);have eZ:Lg σ.step l:=hl
  cases hd.sk with
  | decl E cM eT=>
   by_cases ds:d.2.kd=2
   ·rw[aCR ac ds]
    split
    ·exact .ret az ag.st (VD _) eZ
    ·rename_i h0
     have aS:(Oy d 0) ∈ P9 d:=aCS
     have av:=(ah.v ag (eT _ aS)).1;unfold avQ
     rcases aa:F.v (Oy d 0) p σ.step with ⟨⟨v,e⟩,σ1⟩
     rw[aa] at av
     cases e with
     | no=>
      obtain⟨bE,bX,fY⟩:=aqy av.iv av.er av.va (σ.step.M.find p.scope d.2.tx) d.2.tx p.strict;exact⟨bE.up Ou,av.ex.trans bX,fY,VD _,eZ.up (av.ex.trans bX)⟩
     | _=>exact(av.aqv eZ).up Ou
   ·have aK:stF F f d p l σ=((QW,(aci d p (Vl F (P9 d) p σ.step)).1,l),(aci d p (Vl F (P9 d) p σ.step)).2):=by
     rcases E with k|k|k
     ·exact absurd k ds
     ·exact aCT ac k
     ·exact aCU ac k
    have hlet:PE d.2=true:=by
     unfold PE
     rcases E with k|k|k
     ·exact absurd k ds
     all_goals
      rw[k];rfl
    rw[aK];have av:=ajn ah ag eT;unfold aci
    rcases aa:Vl F (P9 d) p σ.step with ⟨⟨v,e⟩,σ1⟩
    rw[aa] at av
    cases e with
    | no=>
     have bE:=av.iv.start av.va p.scope d.2.tx;have bX:K4 σ1.M p.scope d.2.tx:=av.ex.k4 _ _ (nf hlet);refine⟨bE.iv.up Ou,av.ex.trans bE.ex,?_,VD _,eZ.up (av.ex.trans bE.ex)⟩
     show Eo _ (erP (σ1.M.start p.scope d.2.tx v).1)
     rw[aqx bX];exact av.er
    | _=>exact(av.aqv eZ).up Ou
  | func E=>rw[ad3 ac Ou];exact .ret az ag.st (VD _) eZ
  | empty E=>rw[ad3 ac Ou];exact .ret az ag.st (VD _) eZ
  | blk E D=>
   rw[aCV ac E];obtain⟨h1,U,aw⟩:=ag.iv.block D ag.po;have eU:Q f (N - 10000+5000) (Qg d p σ.step).1 (Qg d p σ.step).2:=⟨by rw[h1.st];exact ag.fu,by rw[h1.st];exact ag.st,h1.iv,U⟩
   exact((Ym ah (P9 d) eU (fun k E=>D.ks _ (Qq E)) aw (eZ.up h1.ex)).after h1.ex).up Ou
  | sif E cM cB b5 bR ef=>
   rw[aCW ac E];have av:=(ah.v ag cB).1;unfold chQ
   rcases aa:F.v (Oy d 0) p σ.step with ⟨⟨v,e⟩,σ1⟩
   rw[aa] at av;have gn:=eZ.up av.ex
   cases e with
   | no=>
    simp only
    split
    ·exact((ah.s (ag.next av) b5 (fun e=>by rw[bR] at e;cases e) gn).1.after av.ex).up Ou
    ·split
     ·obtain⟨d7,hD⟩:=ef Ou;exact((ah.s (ag.next av) d7 (fun e=>by rw[hD] at e;cases e) gn).1.after av.ex).up Ou
     ·exact⟨av.iv.up Ou,av.ex,av.er,VD _,gn⟩
   | _=>exact(av.aqv eZ).up Ou
  | loop E cM cB b5 bR=>
   rcases E with E|E
   ·rw[aCX ac E];exact(aqB ah cB b5 bR f ag ag.fu eZ).up Ou
   ·rw[aCY ac E];obtain⟨bK,b',gr,_⟩:=aaw ah ag (d:=Oy d 0) cB;unfold wiQ
    rcases aa:UW F (Oy d 0) p σ.step with ⟨⟨o,e⟩,σ1⟩
    rw[aa] at bK b' gr;have gn:=eZ.up b'
    cases e with
    | no=>
     simp only;have h1:=bK.opn p.scope o (-2);have z:=Oq (∀{G}(h:G:=by
     have eU:Q f (N - 10000+1) { p with scope:=σ1.top } (σ1.opn p.scope o (-2)):=⟨by have:=ag.fu;have:=b'.st;dsimp only at this;show 20001<σ1.steps+f;omega,by rw[h1.st];exact gr,h1.iv,kv⟩
     exact((ah.s eU b5 (fun e=>by rw[bR] at e;cases e) (gn.up h1.ex)).1.after (b'.trans h1.ex)).up Ou),G);exact aCZ
    | _=>exact⟨bK.up Ou,b',gr,VD _,gn⟩
  | give E cM eT=>
   rw[au4 ac E];have av:=ajn ah ag eT;exact⟨av.iv.up Ou,av.ex,av.er,av.va,eZ.up av.ex⟩
  | one E cM cB=>
   have av:=(ah.v ag cB).1
   rcases E with E|E
   ·rw[au5 ac E];unfold ao7
    rcases aa:F.v (Oy d 0) p σ.step with ⟨⟨v,e⟩,σ1⟩
    rw[aa] at av
    cases e with
    | no=>exact⟨av.iv.up Ou,av.ex,⟨av.er,av.va⟩,VD _,eZ.up av.ex⟩
    | _=>exact(av.aqv eZ).up Ou
   ·rw[au6 ac E];unfold agV
    rcases aa:F.v (Oy d 0) p σ.step with ⟨⟨v,e⟩,σ1⟩
    rw[aa] at av
    cases e with
    | no=>
     refine⟨av.iv.up Ou,av.ex,av.er,VD _,fun x ae=>?_⟩
     cases l with
     | none=>cases ae
     | some y=>cases ae;exact av.va
    | _=>exact(av.aqv eZ).up Ou
  | atm E cM cB dn eT=>
   rw[au7 ac E];have hw:=(ah.s ag cB (fun e=>by rw[dn] at e;cases e) eZ).1
   generalize F.s (Oy d 0) p l σ.step=r at hw ⊢
   have U:=aqC ah (P9 d).tail (N:=N - 10000) (o:=r.1.1) (e:=r.1.2.1) (l:=r.1.2.2) (σ:=r.2) ⟨by have:=ag.fu;have:=hw.ex.st;omega,hw.iv,ag.po.up hw.ex,hw.er,hw.va,hw.la⟩ (fun x ae=>⟨(eT x ae).2.2.1,(eT x ae).2.2.2⟩)
   exact(U.after hw.ex).up (by rw[List.length_tail,Si];omega)
 ·rw[akC ac];have:=h.st;exact⟨h.iv.step.up Ou,Ex.refl _,by show σ.steps+1=20001;omega,VD _,hl⟩
def ZO:∀ f,FI (fx f) f
 | 0=>⟨fun h _=>by have:=h.fu;have:=h.st;omega,fun h _ _ _=>by have:=h.fu;have:=h.st;omega⟩
 | f+1=>⟨fun h hd=>aFu (ZO f) h hd,fun h hd E hl=>aFv (ZO f) h hd E hl⟩
def base0:St:=⟨⟨[⟨0,[]⟩],[⟨-1,0,[]⟩,⟨0,-1,[]⟩]⟩,[],0,[],[-1,0],[],0⟩
def akF:Iv 10 base0:=by
 refine⟨⟨10,⟨⟨⟨fun i x h=>?_,fun i x h=>?_,fun i x h=>?_,fun i x h=>?_⟩,by decide,by decide,fun x ae=>?_,fun x ae=>?_⟩,by decide,by decide,by decide,by decide,rfl⟩,by decide⟩,⟨fun x ae q ag=>?_,fun x ae q ag=>?_,fun x ae=>?_⟩,(fun f aH=>by cases aH),by decide,by decide,by decide⟩
 ·rcases i with _|_|i
  ·
   cases h;exact⟨by decide,by decide⟩
  ·
   cases h;exact⟨by decide,by decide⟩
  ·
   cases h
 ·rcases i with _|_|i
  ·
   cases h;exact .inr ⟨0,rfl,by decide⟩
  ·
   cases h;exact .inl rfl
  ·
   cases h
 ·rcases i with _|i
  ·
   cases h;intro i j c d aj;cases aj
  ·
   cases h
 ·rcases i with _|_|i
  ·
   cases h;intro i j c d aj;cases aj
  ·
   cases h;intro i j c d aj;cases aj
  ·
   cases h
 ·rw[List.mem_singleton.1 ae];exact Nat.zero_le _
 ·rcases List.mem_cons.1 ae with rfl|ae
  ·exact Nat.zero_le _
  ·rw[List.mem_singleton.1 ae];exact Nat.zero_le _
 ·rw[List.mem_singleton.1 ae] at ag;cases ag
 ·rcases List.mem_cons.1 ae with rfl|ae
  ·
   cases ag
  ·rw[List.mem_singleton.1 ae] at ag;cases ag
 ·rw[List.mem_singleton.1 ae];exact⟨by decide,by decide⟩
def Wv:Iv 100 QA/\N4 QA.M 1:=by
 have h1:=akF.Pz (c:=1) Oz;have U:=h1.iv.put (v:=Um 1) (gvR ⟨by decide,by decide⟩) 0 SL false;have aw:=U.iv.Pz (c:=2) ⟨by decide,by show (2:Int)<3+_;omega⟩
 have aL:=aw.iv.put (v:=Um 2) (gvR ⟨by decide,by
  show (2:Int)<((Mo.Pz _ 2).objs.length:Nat)
  have e:(Mo.put (base0.M.Pz 1) 0 SL (Um 1) false).2.objs.length=2:=by rw[(VY _ _ _ _ _).ol];rfl
  show (2:Int)<(((Mo.put (base0.M.Pz 1) 0 SL (Um 1) false).2.objs++[_]).length:Nat)
  rw[List.length_append,e]
  decide⟩) 0 Vx false
 have dn:N4 base0.M 1:=⟨1,_,rfl,rfl,rfl,fun c aj=>by cases aj⟩;have c7:=N4.chg (M:=base0.M.Pz 1) (show N4 (base0.M.Pz 1) 1 from dn) (VY _ 0 SL (Um 1) false) Oz;have rG:=N4.chg (M:=((base0.M.Pz 1).put 0 SL (Um 1) false).2.Pz 2) c7 (VY _ 0 Vx (Um 2) false) Oz;exact⟨aL.iv.up Oz,rG⟩
def axC {t:Tr}(bc:Bk t):SO 9000 QA ((Q8 (fx 20002) (PZ (some 0,t) QA).1 (P9 (some 0,t)) none (PZ (some 0,t) QA).2)):=by
 obtain⟨h1,U,aw⟩:=Wv.1.prog (d:=(some 0,t)) bc Wv.2;have ag:Q 20002 9000 (PZ (some 0,t) QA).1 (PZ (some 0,t) QA).2:=⟨by omega,by rw[h1.st];decide,h1.iv.up Ou,U⟩
 exact(Ym (ZO 20002) (P9 (some 0,t)) (l:=none) ag (fun k E=>bc.ks _ (Qq E)) aw (fun _ e=>by cases e)).after h1.ex
def YZ (s:OH):Tr:=.mk 15 Ox 0 [.mk 35 Ox 0 [.mk 23 SL 0 [],.mk 18 s 0 []]]
def ak3 (F:Fx)(p:Pl)(x:List Nd):∀ (a6:List Nd) (l:Option Va) (σ:St),Q8 F p (a6++x) l σ=match Q8 F p a6 l σ with
  | ((o,.no,b3),σ1)=>if o.ret then ((o,.no,b3),σ1) else Q8 F p x b3 σ1
  | r=>r
 | [],l,σ=>rfl
 | d::a6,l,σ=>by
  rw[List.cons_append,Q8,Q8]
  rcases F.s d p l σ with ⟨⟨o,e,b3⟩,σ1⟩
  cases e with
  | no=>
   cases aa:o.ret with
   | true=>simp only[aa,if_true]
   | false=>
    simp only[aa];exact ak3 F p x a6 b3 σ1
  | stop=>rfl
  | XU v=>rfl
  | mis=>rfl
def ahU:∀ (a:List Tr) (x:Tr) (no:Option Nat),∃ k,YL no (a++[x])=YL no a++[(k,x)]
 | [],x,no=>⟨no,rfl⟩
 | t::a,x,no=>by
  obtain⟨k,h⟩:=ahU a x (no.map (· + t.count));exact⟨k,by rw[List.cons_append,YL,YL,h];rfl⟩
def ajY:∀ (xs:List Tr) (s:OH),∃ T,Tv (.mk 1 Ox 0 xs)=.mk 1 T 0 xs/\Tv (.mk 1 Ox 0 (xs++[YZ s]))=.mk 1 T 0 (xs++[YZ s])
 | [],_=>⟨Ox,rfl,rfl⟩
 | .mk _ _ _ []::_,_=>⟨Ox,rfl,rfl⟩
 | .mk _ _ _ (.mk _ _ _ _::_)::_,_=>⟨_,rfl,rfl⟩
def ahV:∀ (a:List Tr) (x:Tr) (s i b:Bool),chk x s i b=none->TS (a++[x]) s i b=TS a s i b
 | [],x,s,i,b,h=>by simp only[List.nil_append,TS,h]
 | t::a,x,s,i,b,h=>by
  rw[List.cons_append,TS,TS]
  cases chk t s i b with
  | some e=>rfl
  | none=>exact ahV a x s i b h
def auk (s:OH)(a i b:Bool):chk (YZ s) a i b=none:=by rfl
section
variable (T:OH) (xs:List Tr) (s:OH)
def ak4:P6 (.mk 1 T 0 (xs++[YZ s]))=P6 (.mk 1 T 0 xs):=by
 show WH (vws (xs++[YZ s]))=WH (vws xs)
 rw[aeF,show vws [YZ s]=[] from rfl,List.append_nil]
def ak5:Pv (.mk 1 T 0 (xs++[YZ s]))=Pv (.mk 1 T 0 xs):=by
 show (xs++[YZ s]).filter PE=xs.filter PE
 rw[List.filter_append];exact List.append_nil _
def ayK:TV (.mk 1 T 0 (xs++[YZ s]))=TV (.mk 1 T 0 xs):=by
 show (xs++[YZ s]).filter TM=xs.filter TM
 rw[List.filter_append];exact List.append_nil _
def ayL:chk (.mk 1 T 0 (xs++[YZ s])) false false false=chk (.mk 1 T 0 xs) false false false:=by
 have h1:∀ ks a i b,wrT (.mk 1 T 0 ks) a i b=scE (.mk 1 T 0 ks) true:=fun _ _ _ _=>rfl;rw[chk,chk,h1,h1];have U:scE (.mk 1 T 0 (xs++[YZ s])) true=scE (.mk 1 T 0 xs) true:=by
  unfold scE scT scU;rw[ak4,ak5,ayK]
 rw[U]
 cases scE (.mk 1 T 0 xs) true with
 | some e=>rfl
 | none=>exact ahV xs _ _ _ _ (auk s _ _ _)
def aqL:∃ k,P9 (some 0,.mk 1 T 0 (xs++[YZ s]))=P9 (some 0,.mk 1 T 0 xs)++[(k,YZ s)]:=ahU xs _ _
def ayM:PZ (some 0,.mk 1 T 0 (xs++[YZ s])) QA=PZ (some 0,.mk 1 T 0 xs) QA:=by
 have h:TY (some 0,.mk 1 T 0 (xs++[YZ s]))=TY (some 0,.mk 1 T 0 xs):=by
  obtain⟨k,E⟩:=aqL T xs s;unfold TY;rw[E,List.filter_append];exact List.append_nil _
 unfold PZ;simp only;rw[ak4,ak5,h];rfl
def ayN (a8:Bk (.mk 1 T 0 (xs++[YZ s]))):(QI (.mk 1 T 0 xs)).2.log <+:(QI (.mk 1 T 0 (xs++[YZ s]))).2.log/\((QI (.mk 1 T 0 xs)).1=.no\/QI (.mk 1 T 0 (xs++[YZ s]))=QI (.mk 1 T 0 xs)):=by
 obtain⟨k,E⟩:=aqL T xs s;obtain⟨h1,U,aw⟩:=Wv.1.prog (d:=(some 0,.mk 1 T 0 (xs++[YZ s]))) a8 Wv.2;have hd:∀ x ∈ P9 (some 0,.mk 1 T 0 (xs++[YZ s])),Nk 1 x.2:=fun x ae=>a8.ks _ (Qq ae);have ag:Q 20002 9000 (PZ (some 0,.mk 1 T 0 (xs++[YZ s])) QA).1 (PZ (some 0,.mk 1 T 0 (xs++[YZ s])) QA).2:=⟨by omega,by rw[h1.st];decide,h1.iv.up Ou,U⟩
 unfold QI;simp only;rw[E] at hd aw ⊢;rw[ayM] at ag aw ⊢;have ac:=Ym (ZO 20002) (P9 (some 0,.mk 1 T 0 xs)) (l:=none) ag (fun x ae=>hd x (List.mem_append_left _ ae)) (fun x ae=>aw x (List.mem_append_left _ ae)) (fun _ e=>by cases e);rw[ak3]
 rcases aa:Q8 (fx 20002) (PZ (some 0,.mk 1 T 0 xs) QA).1 (P9 (some 0,.mk 1 T 0 xs)) none (PZ (some 0,.mk 1 T 0 xs) QA).2 with ⟨⟨o,e,b3⟩,σ1⟩
 rw[aa] at ac
 cases e with
 | no=>
  simp only;refine⟨?_,.inl trivial⟩
  split
  ·exact List.prefix_rfl
  ·exact(Ym (ZO 20002) [(k,YZ s)] (ag.nexts ac) (fun x ae=>hd x (List.mem_append_right _ ae)) (fun x ae hl=>by rw[List.mem_singleton.1 ae] at hl;cases hl) ac.la).ex.lg
 | stop=>exact⟨List.prefix_rfl,.inr rfl⟩
 | XU v=>exact⟨List.prefix_rfl,.inr rfl⟩
 | mis=>exact⟨List.prefix_rfl,.inr rfl⟩
end
def dPd (k:Nat):OH:=⟨#[UInt8.ofNat (48+k)]⟩
def sPd (k:Nat):OH:=⟨#[112,114,105,110,116,40,39,UInt8.ofNat (48+k),39,41,59]⟩
def aqN (s d:OH)(aI:s.size=11)(aZ:OT Qe s 0=0)(t0:RU Pn Ph s 0=.tok 1 SL 0 5)(Fa:OT Qe s 5=5)(t5:RU Pn Ph s 5=.tok 5 Rk 0 6)(KO:OT Qe s 6=6)(KZ:RU Pn Ph s 6=.tok 4 d 0 9)
  (KP:OT Qe s 9=9) (t9:RU Pn Ph s 9=.tok 5 SA 0 10) (KM:OT Qe s 10=10) (KY:RU Pn Ph s 10=.tok 5 Qv 0 11) (KN:OT Qe s 11=11) :
  RH Pn Ph s (OT Qe s 0) []=.ok [⟨1,SL,0,0⟩,⟨5,Rk,0,5⟩,⟨4,d,0,6⟩,⟨5,SA,0,9⟩,⟨5,Qv,0,10⟩,⟨6,Ox,0,11⟩]:=by
 rw[aZ,Qh Pn Ph s 0 [] 1 0 SL 5 Ou t0 Oz,Fa,Qh Pn Ph s 5 _ 5 0 Rk 6 Ou t5 Oz,KO,Qh Pn Ph s 6 _ 4 0 d 9 Ou KZ Oz,KP,
  Qh Pn Ph s 9 _ 5 0 SA 10 Ou t9 Oz,KM,Qh Pn Ph s 10 _ 5 0 Qv 11 Ou KY Oz,KN,UN Pn Ph s 11 _ Ou,aI]
 rfl
def aul (k:Nat)(E:k<10):RH Pn Ph (sPd k) (OT Qe (sPd k) 0) []=.ok [⟨1,SL,0,0⟩,⟨5,Rk,0,5⟩,⟨4,dPd k,0,6⟩,⟨5,SA,0,9⟩,⟨5,Qv,0,10⟩,⟨6,Ox,0,11⟩]:=by
 obtain rfl|rfl|rfl|rfl|rfl|rfl|rfl|rfl|rfl|rfl:k=0\/k=1\/k=2\/k=3\/k=4\/k=5\/k=6\/k=7\/k=8\/k=9:=Ou
 all_goals exact aqN _ _ rfl (by decide +kernel) PK (by decide +kernel) PK (by decide +kernel) PK (by decide +kernel) PK (by decide +kernel) PK (by decide +kernel)
def aqO (k:Nat)(E:k<10):Qd Pn Ph (sPd k)=.ok (.mk 1 Ox 0 [YZ (dPd k)]):=by
 have h1:Uh [⟨1,SL,0,0⟩,⟨5,Rk,0,5⟩,⟨4,dPd k,0,6⟩,⟨5,SA,0,9⟩,⟨5,Qv,0,10⟩,⟨6,Ox,0,11⟩] (fns [⟨1,SL,0,0⟩,⟨5,Rk,0,5⟩,⟨4,dPd k,0,6⟩,⟨5,SA,0,9⟩,⟨5,Qv,0,10⟩,⟨6,Ox,0,11⟩] KK)=.ok (.mk 1 Ox 0 [YZ (dPd k)]) 5:=by kernel_rfl
 have U:(Tr.mk 1 Ox 0 [YZ (dPd k)]).count=5:=by kernel_rfl
 unfold Qd;rw[if_neg (by show ¬ 3000<11;decide),aul k E]
 simp only;rw[h1];simp only;rw[U,if_neg Oz]
def aum {s:OH}{t:Tr}(aI:s.size<=2000)(al:Qd Pn Ph s=.ok t)(k:Nat)(E:k<10):Qd Pn Ph (jn s (sPd k))=.bare\/∃ T xs,t=.mk 1 T 0 xs/\Qd Pn Ph (jn s (sPd k))=.ok (.mk 1 T 0 (xs++[YZ (dPd k)])):=by
 rcases ajG Pn Ph s (sPd k) t _ V3 Oz (by show _+11<=2500;omega) al (aqO k E) with h|⟨h1,U⟩
 ·exact .inl h
 ·obtain⟨T,aw,aL⟩:=ajY t.kids (dPd k);exact .inr ⟨T,t.kids,h1.trans aw,U.trans (congrArg _ aL)⟩
def ayO (a b:OH):a ++ ⟨#[10]⟩++b=jn a b:=by
 apply ByteArray.ext;simp[jn]
def ayP (k:Nat):(⟨#[112,114,105,110,116,40,39]⟩:OH)++dPd k ++ ⟨#[39,41,59]⟩=sPd k:=by
 apply ByteArray.ext;simp[dPd,sPd]
