import Derived.Test.YticfnaiehdpbmaaGreatDoorAg38
import Derived.Test.YticfnaiehdpbmaaGreatDoorAg32
import Derived.Test.YticfnaiehdpbmaaGreatDoorAg35
set_option maxRecDepth 100000
set_option maxHeartbeats 8000000
set_option linter.unusedVariables false
namespace Go.Proofs.YticfnaiehdpbmaaGreatDoor
open Go.RowKit Go.Proofs.Tryz
namespace Hp
section
variable {w0:Ny} {mb af:Nat} {aa:List Nat} {es aS aB az aL:NP} {w w' w2:Ny} {σ:St} {N:Nat} {F:Fx} {L:Option Nat} {eb:Addr}
section
variable (bF:Stp w0 mb es eb) (aK:Ms w0 mb af aa w σ) {a:Ad} {d:Nd} (hd:Oa aa w a d)
include bF aK a d hd
theorem ahl (eA:σ.steps<=20000)(hst1:20000<=σ.steps)(p:Pl)(aC:Option Addr) :
  NK 196 #[Nu mb,Nu a.p,OQ p aC] w (Oh w0 mb af aa es w ((vU,.stop),σ.step)):=by
 have z:=kk (∀{G}(h:G:=by
 have hstep:=adE bF dj eA;rw[if_pos Nw,bF.is] at hstep;have n6:=hide bF.is;obtain⟨q,bo⟩:=xH a.p;rw[<-bo.out] at dL ⊢;clear bK hr2 ds cH d5;go_enter func196,ntmps196;have z:=kk (∀{G}(h:G:=by
 have ee:=g6.lt;obtain⟨cy,bQ,b5,dn,dp,dq,rl⟩:=Ot dU.out;have z:=kk (∀{G}(h:G:=by
 refine bodyPost_ret (v:=.tuple #[vA vU,.iface 359 (.pointer (some eb))]) (by simp[results,results196,go_sem,bi,aY,aX,vU]) rfl ?_;exact⟨⟨_,rfl,n6.out.symm⟩,bv,bx⟩),G);exact apS),G);exact aa3),G);exact VT
theorem ahm (bn:d.2.kd=23)(eA:σ.steps<=20000)(hst1:σ.steps<20000)(p:Pl)(aC:Option Addr){rs:(Va × Er) × St}(bq:∀ X,Ms w0 mb af aa X σ.step->Oa aa X a d->NK 256 #[Nu mb,Nu a.p,OQ p aC] X (Oh w0 mb af aa es X rs)) :
  NK 196 #[Nu mb,Nu a.p,OQ p aC] w (Oh w0 mb af aa es w rs):=by
 have z:=kk (∀{G}(h:G:=by
 have z:=kk (∀{G}(h:G:=by
 have ah:=hide bq;have e5:(d.2.kd:Int)=23:=by rw[bn]
 exact X6),G);exact zsy),G);exact VT
theorem adG (bn:d.2.kd=24)(eA:σ.steps<=20000)(hst1:σ.steps<20000)(p:Pl)(aC:Option Addr){rs:(Va × Er) × St}(bq:∀ X,Ms w0 mb af aa X σ.step->Oa aa X a d->NK 257 #[Nu mb,Nu a.p,OQ p aC] X (Oh w0 mb af aa es X rs)) :
  NK 196 #[Nu mb,Nu a.p,OQ p aC] w (Oh w0 mb af aa es w rs):=by
 have z:=kk (∀{G}(h:G:=by
 have z:=kk (∀{G}(h:G:=by
 have ah:=hide bq;have e5:(d.2.kd:Int)=24:=by rw[bn]
 exact X6),G);exact zsy),G);exact VT
theorem am1 (bn:d.2.kd=25)(eA:σ.steps<=20000)(hst1:σ.steps<20000)(p:Pl)(aC:Option Addr){rs:(Va × Er) × St}(bq:∀ X,Ms w0 mb af aa X σ.step->Oa aa X a d->NK 258 #[Nu mb,Nu a.p,OQ p aC] X (Oh w0 mb af aa es X rs)) :
  NK 196 #[Nu mb,Nu a.p,OQ p aC] w (Oh w0 mb af aa es w rs):=by
 have z:=kk (∀{G}(h:G:=by
 have z:=kk (∀{G}(h:G:=by
 have ah:=hide bq;have e5:(d.2.kd:Int)=25:=by rw[bn]
 exact X6),G);exact zsy),G);exact VT
theorem akq (bn:d.2.kd=26)(eA:σ.steps<=20000)(hst1:σ.steps<20000)(p:Pl)(aC:Option Addr){rs:(Va × Er) × St}(bq:∀ X,Ms w0 mb af aa X σ.step->Oa aa X a d->NK 258 #[Nu mb,Nu a.p,OQ p aC] X (Oh w0 mb af aa es X rs)) :
  NK 196 #[Nu mb,Nu a.p,OQ p aC] w (Oh w0 mb af aa es w rs):=by
 have z:=kk (∀{G}(h:G:=by
 have z:=kk (∀{G}(h:G:=by
 have ah:=hide bq;have e5:(d.2.kd:Int)=26:=by rw[bn]
 exact X6),G);exact zsy),G);exact VT
theorem ahn (bn:d.2.kd=27)(eA:σ.steps<=20000)(hst1:σ.steps<20000)(p:Pl)(aC:Option Addr){rs:(Va × Er) × St}(bq:∀ X,Ms w0 mb af aa X σ.step->Oa aa X a d->NK 259 #[Nu mb,Nu a.p,OQ p aC] X (Oh w0 mb af aa es X rs)) :
  NK 196 #[Nu mb,Nu a.p,OQ p aC] w (Oh w0 mb af aa es w rs):=by
 have z:=kk (∀{G}(h:G:=by
 have z:=kk (∀{G}(h:G:=by
 have ah:=hide bq;have e5:(d.2.kd:Int)=27:=by rw[bn]
 exact X6),G);exact zsy),G);exact VT
theorem aho (bn:d.2.kd=28)(eA:σ.steps<=20000)(hst1:σ.steps<20000)(p:Pl)(aC:Option Addr){rs:(Va × Er) × St}(bq:∀ X,Ms w0 mb af aa X σ.step->Oa aa X a d->NK 259 #[Nu mb,Nu a.p,OQ p aC] X (Oh w0 mb af aa es X rs)) :
  NK 196 #[Nu mb,Nu a.p,OQ p aC] w (Oh w0 mb af aa es w rs):=by
 have z:=kk (∀{G}(h:G:=by
 have z:=kk (∀{G}(h:G:=by
 have ah:=hide bq;have e5:(d.2.kd:Int)=28:=by rw[bn]
 exact X6),G);exact zsy),G);exact VT
theorem akr (bn:d.2.kd=29)(eA:σ.steps<=20000)(hst1:σ.steps<20000)(p:Pl)(aC:Option Addr){rs:(Va × Er) × St}(bq:∀ X,Ms w0 mb af aa X σ.step->Oa aa X a d->NK 259 #[Nu mb,Nu a.p,OQ p aC] X (Oh w0 mb af aa es X rs)) :
  NK 196 #[Nu mb,Nu a.p,OQ p aC] w (Oh w0 mb af aa es w rs):=by
 have z:=kk (∀{G}(h:G:=by
 have z:=kk (∀{G}(h:G:=by
 have ah:=hide bq;have e5:(d.2.kd:Int)=29:=by rw[bn]
 exact X6),G);exact zsy),G);exact VT
theorem aks (bn:d.2.kd=30)(eA:σ.steps<=20000)(hst1:σ.steps<20000)(p:Pl)(aC:Option Addr){rs:(Va × Er) × St}(bq:∀ X,Ms w0 mb af aa X σ.step->Oa aa X a d->NK 259 #[Nu mb,Nu a.p,OQ p aC] X (Oh w0 mb af aa es X rs)) :
  NK 196 #[Nu mb,Nu a.p,OQ p aC] w (Oh w0 mb af aa es w rs):=by
 have z:=kk (∀{G}(h:G:=by
 have z:=kk (∀{G}(h:G:=by
 have ah:=hide bq;have e5:(d.2.kd:Int)=30:=by rw[bn]
 exact X6),G);exact zsy),G);exact VT
theorem akt (bn:d.2.kd=31)(eA:σ.steps<=20000)(hst1:σ.steps<20000)(p:Pl)(aC:Option Addr){rs:(Va × Er) × St}(bq:∀ X,Ms w0 mb af aa X σ.step->Oa aa X a d->NK 259 #[Nu mb,Nu a.p,OQ p aC] X (Oh w0 mb af aa es X rs)) :
  NK 196 #[Nu mb,Nu a.p,OQ p aC] w (Oh w0 mb af aa es w rs):=by
 have z:=kk (∀{G}(h:G:=by
 have z:=kk (∀{G}(h:G:=by
 have ah:=hide bq;have e5:(d.2.kd:Int)=31:=by rw[bn]
 exact X6),G);exact zsy),G);exact VT
theorem aku (bn:d.2.kd=32)(eA:σ.steps<=20000)(hst1:σ.steps<20000)(p:Pl)(aC:Option Addr){rs:(Va × Er) × St}(bq:∀ X,Ms w0 mb af aa X σ.step->Oa aa X a d->NK 260 #[Nu mb,Nu a.p,OQ p aC] X (Oh w0 mb af aa es X rs)) :
  NK 196 #[Nu mb,Nu a.p,OQ p aC] w (Oh w0 mb af aa es w rs):=by
 have z:=kk (∀{G}(h:G:=by
 have z:=kk (∀{G}(h:G:=by
 have ah:=hide bq;have e5:(d.2.kd:Int)=32:=by rw[bn]
 exact X6),G);exact zsy),G);exact VT
theorem adH (bn:d.2.kd=33)(eA:σ.steps<=20000)(hst1:σ.steps<20000)(p:Pl)(aC:Option Addr){rs:(Va × Er) × St}(bq:∀ X,Ms w0 mb af aa X σ.step->Oa aa X a d->NK 261 #[Nu mb,Nu a.p,OQ p aC] X (Oh w0 mb af aa es X rs)) :
  NK 196 #[Nu mb,Nu a.p,OQ p aC] w (Oh w0 mb af aa es w rs):=by
 have z:=kk (∀{G}(h:G:=by
 have z:=kk (∀{G}(h:G:=by
 have ah:=hide bq;have e5:(d.2.kd:Int)=33:=by rw[bn]
 exact X6),G);exact zsy),G);exact VT
theorem adI (bn:d.2.kd=34)(eA:σ.steps<=20000)(hst1:σ.steps<20000)(p:Pl)(aC:Option Addr){rs:(Va × Er) × St}(bq:∀ X,Ms w0 mb af aa X σ.step->Oa aa X a d->NK 262 #[Nu mb,Nu a.p,OQ p aC] X (Oh w0 mb af aa es X rs)) :
  NK 196 #[Nu mb,Nu a.p,OQ p aC] w (Oh w0 mb af aa es w rs):=by
 have z:=kk (∀{G}(h:G:=by
 have z:=kk (∀{G}(h:G:=by
 have ah:=hide bq;have e5:(d.2.kd:Int)=34:=by rw[bn]
 exact X6),G);exact zsy),G);exact VT
theorem ahp (bn:d.2.kd=35)(eA:σ.steps<=20000)(hst1:σ.steps<20000)(p:Pl)(aC:Option Addr){rs:(Va × Er) × St}(bq:∀ X,Ms w0 mb af aa X σ.step->Oa aa X a d->NK 263 #[Nu mb,Nu a.p,OQ p aC] X (Oh w0 mb af aa es X rs)) :
  NK 196 #[Nu mb,Nu a.p,OQ p aC] w (Oh w0 mb af aa es w rs):=by
 have z:=kk (∀{G}(h:G:=by
 have z:=kk (∀{G}(h:G:=by
 have ah:=hide bq;have e5:(d.2.kd:Int)=35:=by rw[bn]
 exact X6),G);exact zsy),G);exact VT
theorem adJ (bn:d.2.kd=36)(eA:σ.steps<=20000)(hst1:σ.steps<20000)(p:Pl)(aC:Option Addr){rs:(Va × Er) × St}(bq:∀ X,Ms w0 mb af aa X σ.step->Oa aa X a d->NK 264 #[Nu mb,Nu a.p,OQ p aC] X (Oh w0 mb af aa es X rs)) :
  NK 196 #[Nu mb,Nu a.p,OQ p aC] w (Oh w0 mb af aa es w rs):=by
 have z:=kk (∀{G}(h:G:=by
 have z:=kk (∀{G}(h:G:=by
 have ah:=hide bq;have e5:(d.2.kd:Int)=36:=by rw[bn]
 exact X6),G);exact zsy),G);exact VT
theorem adK (bn:d.2.kd=38)(eA:σ.steps<=20000)(hst1:σ.steps<20000)(p:Pl)(aC:Option Addr){rs:(Va × Er) × St}(bq:∀ X,Ms w0 mb af aa X σ.step->Oa aa X a d->NK 266 #[Nu mb,Nu a.p,OQ p aC] X (Oh w0 mb af aa es X rs)) :
  NK 196 #[Nu mb,Nu a.p,OQ p aC] w (Oh w0 mb af aa es w rs):=by
 have z:=kk (∀{G}(h:G:=by
 have z:=kk (∀{G}(h:G:=by
 have ah:=hide bq;have e5:(d.2.kd:Int)=38:=by rw[bn]
 exact X6),G);exact zsy),G);exact VT
theorem akv (bn:d.2.kd=18)(eA:σ.steps<=20000)(hst1:σ.steps<20000)(p:Pl)(aC:Option Addr) :
  NK 196 #[Nu mb,Nu a.p,OQ p aC] w (Oh w0 mb af aa es w ((U1 d.2.tx,.no),σ.step)):=by
 have z:=kk (∀{G}(h:G:=by
 have z:=kk (∀{G}(h:G:=by
 have e5:(d.2.kd:Int)=18:=by rw[bn]
 obtain⟨bL,cZ⟩:=xH (U1 d.2.tx);rw[<-cZ.out];have s3:Hid (∀ X,NK 254 #[ND d.2.tx] X fun e w'=>e=NU (vA bL)/\NJ X w'):=fun X=>by
  show Calls _ _ _ _ _
  rw[cZ.out];exact YA d.2.tx X
 obtain⟨tx,lF⟩:=xH d.2.tx;obtain⟨gy,nw⟩:=xH d.2.n;rw[<-lF.out] at s3;exact aqk),G);exact zsy),G);exact VT
theorem ahq (bn:d.2.kd=19)(eA:σ.steps<=20000)(hst1:σ.steps<20000)(p:Pl)(aC:Option Addr) :
  NK 196 #[Nu mb,Nu a.p,OQ p aC] w (Oh w0 mb af aa es w ((Pg true,.no),σ.step)):=by
 have z:=kk (∀{G}(h:G:=by
 have z:=kk (∀{G}(h:G:=by
 have e5:(d.2.kd:Int)=19:=by rw[bn]
 obtain⟨bL,cZ⟩:=xH (Pg true);rw[<-cZ.out];have s3:Hid (∀ X,NK 255 #[NI true] X fun e w'=>e=NU (vA bL)/\NJ X w'):=fun X=>by
  show Calls _ _ _ _ _
  rw[cZ.out];exact UA true X
 obtain⟨tx,lF⟩:=xH d.2.tx;obtain⟨gy,nw⟩:=xH d.2.n;exact aqk),G);exact zsy),G);exact VT
theorem afu (bn:d.2.kd=20)(eA:σ.steps<=20000)(hst1:σ.steps<20000)(p:Pl)(aC:Option Addr) :
  NK 196 #[Nu mb,Nu a.p,OQ p aC] w (Oh w0 mb af aa es w ((Pg false,.no),σ.step)):=by
 have z:=kk (∀{G}(h:G:=by
 have z:=kk (∀{G}(h:G:=by
 have e5:(d.2.kd:Int)=20:=by rw[bn]
 obtain⟨bL,cZ⟩:=xH (Pg false);rw[<-cZ.out];have s3:Hid (∀ X,NK 255 #[NI false] X fun e w'=>e=NU (vA bL)/\NJ X w'):=fun X=>by
  show Calls _ _ _ _ _
  rw[cZ.out];exact UA false X
 obtain⟨tx,lF⟩:=xH d.2.tx;obtain⟨gy,nw⟩:=xH d.2.n;exact aqk),G);exact zsy),G);exact VT
theorem value_num (bn:d.2.kd=17)(eA:σ.steps<=20000)(hst1:σ.steps<20000)(p:Pl)(aC:Option Addr) :
  NK 196 #[Nu mb,Nu a.p,OQ p aC] w (Oh w0 mb af aa es w ((VF d.2.n,.no),σ.step)):=by
 have z:=kk (∀{G}(h:G:=by
 have z:=kk (∀{G}(h:G:=by
 have e5:(d.2.kd:Int)=17:=by rw[bn]
 obtain⟨bL,cZ⟩:=xH (VF d.2.n);rw[<-cZ.out];have s3:Hid (∀ X,NK 253 #[Nr d.2.n] X fun e w'=>e=NU (vA bL)/\NJ X w'):=fun X=>by
  show Calls _ _ _ _ _
  rw[cZ.out];exact adq d.2.n X
 obtain⟨tx,lF⟩:=xH d.2.tx;obtain⟨gy,nw⟩:=xH d.2.n;rw[<-nw.out] at s3;exact aqk),G);exact zsy),G);exact VT
theorem adL (bn:d.2.kd=37)(eA:σ.steps<=20000)(hst1:σ.steps<20000)(p:Pl)(aC:Option Addr){bL:Va}{σ1:St}(bq:∀ X,Ms w0 mb af aa X σ.step->Oa aa X a d->NK 265 #[Nu mb,Nu a.p,OQ p aC] X fun e w'=>e=NU (vA bL)/\Ms w0 mb af aa w' σ1/\Om none mb X w') :
  NK 196 #[Nu mb,Nu a.p,OQ p aC] w (Oh w0 mb af aa es w ((bL,.no),σ1)):=by
 have z:=kk (∀{G}(h:G:=by
 have z:=kk (∀{G}(h:G:=by
 have ah:=hide bq;have e5:(d.2.kd:Int)=37:=by rw[bn]
 clear bK hr2 ds cH d5 bq bn;go_enter func196,ntmps196;have z:=kk (∀{G}(h:G:=by
 have z:=kk (∀{G}(h:G:=by
 have bA:=(Ns ah wz g6 g8);rw[<-bo.out] at g' g7 bA;have z:=kk (∀{G}(h:G:=by
 rintro e aD ⟨rfl,aK,ak⟩;have dG:=hide (ak.keep dU.out NH);have fc:=(di.trans ak);clear aW p1 cr cL dY g7 g';obtain⟨hz,g4,gR,kx,ky,kz,kA⟩:=Ot dG.out;go_wp2_with fail;obtain⟨b3,bz,bb,bx,bv,bi,aY,aX⟩:=rt3 dG.out cI.out bI fc aK (Nr bL.k) (Nr bL.n) (ND bL.s);exact azx),G);exact aql),G);exact ahk),G);exact aa3),G);exact zsy),G);exact VT
theorem ahr (bn:d.2.kd=21)(eA:σ.steps<=20000)(hst1:σ.steps<20000)(p:Pl)(aC:Option Addr) :
  NK 196 #[Nu mb,Nu a.p,OQ p aC] w (Oh w0 mb af aa es w ((afd,.no),σ.step)):=by
 have z:=kk (∀{G}(h:G:=by
 have z:=kk (∀{G}(h:G:=by
 have e5:(d.2.kd:Int)=21:=by rw[bn]
 clear bn;clear bK hr2 ds cH d5;go_enter func196,ntmps196;have z:=kk (∀{G}(h:G:=by
 have ee:=g6.lt;have g8:=cS.kp i8.SX;obtain⟨g',g7,_⟩:=g8.cells;rw[<-bo.out] at g' g7;rw[e5] at g7;clear e5;obtain⟨hz,g4,gR,kx,ky,kz,kA⟩:=Ot dU.out;go_wp2_with fail;obtain⟨b3,bz,bb,bx,bv,bi,aY,aX⟩:=rt3 dU.out cI.out bI di g6 (Nr 1) (Nr 0) (OG);rw[<-bz];refine bodyPost_ret (v:=.tuple #[vA afd,Pe]) (by simp[results,results196,go_sem,bi,aY,aX,afd]) rfl ?_;exact⟨⟨_,rfl,rfl⟩,bv,bx⟩),G);exact aa3),G);exact zsy),G);exact VT
theorem afv (bn:d.2.kd≠17/\d.2.kd≠18/\d.2.kd≠19/\d.2.kd≠20/\d.2.kd≠21/\d.2.kd≠23/\d.2.kd≠24/\d.2.kd≠25/\d.2.kd≠26/\d.2.kd≠27/\d.2.kd≠28/\d.2.kd≠29/\d.2.kd≠30/\d.2.kd≠31/\d.2.kd≠32/\d.2.kd≠33/\d.2.kd≠34/\d.2.kd≠35/\d.2.kd≠36/\d.2.kd≠37/\d.2.kd≠38)(eA:σ.steps<=20000)(hst1:σ.steps<20000)(p:Pl)(aC:Option Addr) :
  NK 196 #[Nu mb,Nu a.p,OQ p aC] w (Oh w0 mb af aa es w ((vU,.no),σ.step)):=by
 have z:=kk (∀{G}(h:G:=by
 have z:=kk (∀{G}(h:G:=by
 obtain⟨JH,JI,JJ,JK,JL,JM,x9,JN,JO,JP,JQ,JR,JS,JT,JU,JV,ya,JW,JX,yb,JY⟩:=bn;obtain⟨kkq,pd⟩:=xH d.2.kd;rw[<-pd.out] at JH JI JJ JK JL JM x9 JN JO JP JQ JR JS JT JU JV ya JW JX yb JY;clear bK hr2 ds cH d5;go_enter func196,ntmps196;have z:=kk (∀{G}(h:G:=by
 have ee:=g6.lt;have g8:=cS.kp i8.SX;obtain⟨g',g7,_⟩:=g8.cells;rw[<-bo.out] at g' g7;rw[<-pd.out] at g7;obtain⟨hz,g4,gR,kx,ky,kz,kA⟩:=Ot dU.out;have z:=kk (∀{G}(h:G:=by
 refine bodyPost_ret (v:=.tuple #[vA vU,Pe]) (by simp[results,results196,go_sem,bi,aY,aX,vU]) rfl ?_;exact⟨⟨_,rfl,rfl⟩,bv,bx⟩),G);exact apS),G);exact aa3),G);exact zsy),G);exact VT
end
theorem aa1 {w:Ny}{b:Nat}{x:NP}{t:TypeId}(h:w.heap[b]? = some (Og #[x] t)):w.cell? (Nv b 0)=some x/\(∀ j,w.frozen? (Nv b j)=false)/\b<w.heap.size:=by
 refine⟨?_,fun j=>?_,lt_of_heap h⟩
 ·rw[cell_of h];rfl
 ·simp[World.frozen?,h]
section
variable (bF:Stp w0 mb es eb) (aK:Ms w0 mb af aa w σ) {a:Ad} {d:Nd} (p:Pl) (o:Oc) {l:Option Va} (hl:NY w L l)
include bF aK a d p o l hl
theorem amZ :
  NK 201 #[Nu mb,Nu a.p,OQ p (LA L),RX o,Pe] w (OY w0 mb af aa es L w (WC F d p o .no l σ)):=by
 obtain⟨aC,oO⟩:=xE (LA L);rw[<-oO];have z:=kk (∀{G}(h:G:=by
 have z:=kk (∀{G}(h:G:=by
 have z:=kk (∀{G}(h:G:=by
 have kC:NK 32 #[Pe,.iface 123 (NM tb 0)] w2 fun e w'=>e=NU (NI false)/\NJ w2 w':=(alk tb w2 123).mono (by rintro e w' ⟨rfl,rfl⟩;exact⟨rfl,P8⟩)
 have n6:=hide bF.is;obtain⟨q,ag⟩:=xE a.p;obtain⟨rs,d6⟩:=xE (WC F d ⟨aq,aF,st⟩ ⟨fY,⟨ok,on,fX⟩⟩ .no l σ);rw[<-d6,<-ag];have aH:rs=((⟨fY,⟨ok,on,fX⟩⟩,.no,l),σ):=d6;have z:=kk (∀{G}(h:G:=by
 refine bodyPost_ret (v:=.tuple #[RX ⟨fY,⟨ok,on,fX⟩⟩,Pe]) (by simp[results,results201,go_sem,bi,aY,aX,cu]) rfl ?_;rw[cz.out];exact⟨⟨_,rfl,rfl⟩,bv,bx,fB.Rk bb⟩),G);exact auK),G);exact aqg),G);exact zsk),G);exact zsx
theorem akn :
  NK 201 #[Nu mb,Nu a.p,OQ p (LA L),RX o,.iface 34 (Nr 7)] w (OY w0 mb af aa es L w (WC F d p o .mis l σ)):=by
 obtain⟨aC,oO⟩:=xE (LA L);rw[<-oO];have z:=kk (∀{G}(h:G:=by
 have z:=kk (∀{G}(h:G:=by
 have z:=kk (∀{G}(h:G:=by
 have kC:NK 32 #[.iface 34 (Nr 7),.iface 123 (NM tb 0)] w2 fun e w'=>e=NU (NI false)/\NJ w2 w':=aoM 7 tb w2 t0 (tf 0) o9 kR;have n6:=hide bF.is;obtain⟨q,ag⟩:=xE a.p;obtain⟨rs,d6⟩:=xE (WC F d ⟨aq,aF,st⟩ ⟨fY,⟨ok,on,fX⟩⟩ .mis l σ);rw[<-d6,<-ag];have aH:rs=((⟨fY,⟨ok,on,fX⟩⟩,.mis,l),σ):=d6;have z:=kk (∀{G}(h:G:=by
 refine bodyPost_ret (v:=.tuple #[RX ⟨fY,⟨ok,on,fX⟩⟩,.iface 34 (Nr 7)]) (by simp[results,results201,go_sem,bi,aY,aX,cu]) rfl ?_;rw[cz.out];exact⟨⟨_,rfl,rfl⟩,bv,bx,fB.Rk bb⟩),G);exact auK),G);exact aqg),G);exact zsk),G);exact zsx
theorem ahj :
  NK 201 #[Nu mb,Nu a.p,OQ p (LA L),RX o,.iface 359 (.pointer (some eb))] w (OY w0 mb af aa es L w (WC F d p o .stop l σ)):=by
 obtain⟨aC,oO⟩:=xE (LA L);rw[<-oO];have z:=kk (∀{G}(h:G:=by
 have z:=kk (∀{G}(h:G:=by
 have z:=kk (∀{G}(h:G:=by
 have kC:NK 32 #[.iface 359 (.pointer (some eb)),.iface 123 (NM tb 0)] w2 fun e w'=>e=NU (NI false)/\NJ w2 w':=aeB eb tb w2 t0 (tf 0) o9 kR;have n6:=hide bF.is;obtain⟨q,ag⟩:=xE a.p;obtain⟨rs,d6⟩:=xE (WC F d ⟨aq,aF,st⟩ ⟨fY,⟨ok,on,fX⟩⟩ .stop l σ);rw[<-d6,<-ag];have aH:rs=((⟨fY,⟨ok,on,fX⟩⟩,.stop,l),σ):=d6;have z:=kk (∀{G}(h:G:=by
 refine bodyPost_ret (v:=.tuple #[RX ⟨fY,⟨ok,on,fX⟩⟩,.iface 359 (.pointer (some eb))]) (by simp[results,results201,go_sem,bi,aY,aX,cu]) rfl ?_;rw[cz.out];exact⟨⟨_,rfl,n6.out.symm⟩,bv,bx,fB.Rk bb⟩),G);exact auK),G);exact aqg),G);exact zsk),G);exact zsx
end
theorem ako (bF:Stp w0 mb es eb)(aZ:Bs w0 mb af aa es)(aK:Ms w0 mb af aa w σ){a:Ad}{d:Nd}(hd:Oa aa w a d)(E:d.2.kids.length=1)(p:Pl)(o:Oc)(lv:Nat)(x:Va)(ac:w.heap[lv]? = some (Og #[Nr x.k,Nr x.n,ND x.s] 126)){l:Option Va}(hl:NY w L l)
  (aJ:Sz N σ) (hN:N<1000000000) (mr:(σ.M.ro p.scope).isSome=true) (cq:Sz N (σ.opn p.scope (-1) (own d)))
  (h1:V7 w0 mb af aa es ((σ.opn p.scope (-1) (own d)).dec σ.top d.2.tx 0 x) (Nz d 0) { p with scope:=σ.top } L l (F.s (Nz d 0) { p with scope:=σ.top } l ((σ.opn p.scope (-1) (own d)).dec σ.top d.2.tx 0 x))) :
  NK 201 #[Nu mb,Nu a.p,OQ p (LA L),RX o,.iface 122 (NM lv 0)] w (OY w0 mb af aa es L w (WC F d p o (.Wq x) l σ)):=by
 obtain⟨aC,kG⟩:=xH (LA L);rw[<-kG.out];have z:=kk (∀{G}(h:G:=by
 have z:=kk (∀{G}(h:G:=by
 have z:=kk (∀{G}(h:G:=by
 have kC:=(aio lv tb w2 eS t0 (tf 0) o9 kR);have t8:=lt_of_heap ac;have ED:lv≠bc:=Nw;have GX:=hide ED;have CK:=hide ac;have y0:=aK;have f2:=hide E;have Gx:=hide mr;obtain⟨q,bo⟩:=xH a.p;obtain⟨ow,k8⟩:=xH (own d:Int);obtain⟨eZ,xc⟩:=xH (σ.top:Int);obtain⟨ck,zf⟩:=xH (σ.opn aq (-1) (own d));obtain⟨qL,Cw⟩:=xH ((σ.opn aq (-1) (own d)).dec σ.top d.2.tx 0 x);obtain⟨rs,d6⟩:=xE (WC F d ⟨aq,aF,st⟩ ⟨fY,⟨ok,on,fX⟩⟩ (.Wq x) l σ);have eU:V7 w0 mb af aa es qL (Nz d 0) ⟨eZ,aF,st⟩ L l rs:=by
  show V7 _ _ _ _ _ _ _ _ _ _ _
  rw[d6,xc.out,Cw.out];exact h1
 rw[<-d6,<-bo.out];clear E bK hr2 j2 eS de d6 ds cH d5 A0 rr t0 tf o9 kR ac mr h1 ED;go_enter func201,ntmps201;go_wp2_with fail;rw[<-bu.out,<-b1,<-f9,<-bU,<-htb'];clear bU b1 f9 ll htb';refine cm kC ?_;rintro e wz ⟨rfl,wm,iC⟩;have rr:=Ns iM;have pt:NJ w wz:=aE.trans (iC.mono rr.2.2.2);have GN:=hide wm;have eG:=hide ((iC.block bc rr.1).trans dF.out);have dU:=hide ((iC.block aR rr.2.2.1).trans bj.out);have jl:=(y0.later pt);have fB:=(hl.later pt);have pV:=(hd.kp (Kp.of pt))
 have op:=hide (stays pt CK.out);have di:=(Om.of (L:=none) pt (Oi bI));have r1:=hide (cells4 eG.out);have ee:=jl.lt;have iR:=lt_of_heap eG.out;have g':q<wz.heap.size:=by rw[bo.out];exact pV.cells.1
 have Gf:Hid (∀ X,NJ wz X->NK 51 #[Nu mb,Nu q] X fun e w'=>e=NU (Nr ow)/\NJ wz w'):=fun X aj=>by
  obtain⟨_,_,_,_,hy⟩:=jl.later aj;rw[bo.out,k8.out];exact(XD aZ hy (pV.kp (Kp.of aj))).mono (by rintro e w' ⟨rfl,rfl⟩;exact⟨rfl,aj⟩)
 have cg:Hid (∀ X,NJ wz X->NK 50 #[Nu mb,Nr aq,Nr (-1),Nr ow] X fun e w'=>e=NU (Nr eZ)/\Ms w0 mb af aa w' ck/\Om none mb wz w'):=fun X aj=>by
  obtain⟨_,_,_,_,hy⟩:=jl.later aj;refine(X4 hy aJ hN aq (-1) ow Gx.out).mono ?_;rintro e w' ⟨rfl,wG,e8,cQ⟩;rw[xc.out,zf.out,<-k8.out];exact⟨rfl,⟨_,_,_,_,e8⟩,(Om.of aj (Oi ee)).trans (cQ.ZO hy)⟩
 clear wm rr;go_wp2_with fail;refine Rj 6 fun ab=>?_;refine up 0 mb 0 ab ?_;refine up 1 bc 0 ab ?_;refine uk 2 (r1.out.1) ab ?_;refine up 3 mb 0 ab ?_;refine up 4 q 0 ab ?_;refine O0 5 fun K A=>?_;go_simp;refine cm (Ns Gf _ ab) ?_;rintro e Nl ⟨rfl,DD⟩;refine A.out _ _ (fun _=>DD) ?_;clear A K;refine O0 6 fun K A=>?_;go_simp;refine cm (Ns cg _ DD) ?_;rintro e ao ⟨rfl,eV,f4⟩;refine ko A ?_;clear A K;have fi:=hide (f4.keep eG.out NH);have c8:=hide (f4.keep dU.out NH);have zk:=hide (f4.keep GN.out NH)
 have eF:=hide (f4.keep op.out NH);have uJ:=(fB.keep f4);have cV:=(di.trans f4);have lC:=(pV.kp f4.SX);obtain⟨aW,p1,cr,cL,gQ,dY⟩:=cells4 fi.out;have z:=kk (∀{G}(h:G:=by
 have m6:Kp ao (ao.setCell (Nv bc 0) (Nr eZ)):=fun b c e D au=>lk.rest b c e D (by rcases au with rfl|rfl <;> decide);have kF:=(eV.Xd lk NH);have kH:=hide (XE fi.out (Nr eZ));have gA:Hid (bB.heap[aR]? = some (Og #[NI false,Nr 0,Nr 0,OG] 67)):=by
  exact apK
 have CD:Hid (bB.heap[tb]? = some (Og #[NM lv 0] 122)):=by
  show _=_
  rw[eL,heap_setCell_other _ _ _ _ (Ne.symm Gn.out)];exact Ns zk
 have f3:Hid (bB.heap[lv]? = some (Og #[Nr x.k,Nr x.n,ND x.s] 126)):=by
  show _=_
  rw[eL,heap_setCell_other _ _ _ _ GX.out];exact Ns eF
 have fI:=(cV.newT lk (YF r6.out _));have qT:=(uJ.Rk lk);have pb:=(lC.kp m6);rw[<-eL] at kF kH fI qT pb ⊢;have uR:=hide (cells4 kH.out);have GL:=hide (aa1 CD.out);have GV:=hide (cells3 f3.out);have gx:=kF.lt;have lj:=lt_of_heap kH.out;have Ml:=lt_of_heap CD.out;have gN:=lt_of_heap f3.out;obtain⟨tx,cD⟩:=xE d.2.tx;have fF:=pb.cells;rw[<-bo.out,<-cD] at fF;have rN:=hide fF;have tY:=fF.1
 have s7:Hid (∀ X,NJ bB X->NK 128 #[Nu mb,Nr eZ,ND tx,Nr 0,vA x] X fun e w'=>(∃ ev,e=NU ev)/\Ms w0 mb af aa w' qL/\Om none mb bB w'):=fun X aj=>by
  obtain⟨_,_,_,_,hy⟩:=kF.later aj;rw[<-zf.out] at cq;refine(VJ hy cq hN eZ tx 0 x).mono ?_;rintro e w' ⟨rfl,e8,cQ⟩;rw[Cw.out,<-zf.out,<-xc.out,<-cD];exact⟨⟨_,rfl⟩,⟨_,_,_,_,e8⟩,(Om.of aj (Oi gx)).trans (Om.ofT cQ)⟩
 clear eL aW p1 cr cL dY o6 fF cD;go_wp2_with fail;refine Rj 13 fun ab=>?_;have z:=kk (∀{G}(h:G:=by
 refine up 3 bc 0 ab ?_;refine uk 4 (uR.out.1) ab ?_;refine up 5 q 0 ab ?_;refine up 6 q 0 ab ?_;refine up 7 q 1 ab ?_;refine uk 8 (rN.out.2.2.1) ab ?_;refine uk 9 (GL.out.1) ab ?_;refine up 10 lv 0 ab ?_;refine up 11 lv 0 ab ?_;refine uk3 12 GV.out ab ?_;refine O0 13 fun K A=>?_;go_simp;refine cm (Ns s7 _ ab) ?_;rintro e b' ⟨⟨ev,rfl⟩,tK,qg⟩;refine ko A ?_;clear A K;have i6:=hide (qg.keep kH.out NH);have fM:=hide (qg.keep gA.out NH);have w5:=(qT.keep qg);have gq:=(fI.trans qg);have ni:=(pb.kp qg.SX)
 refine QX ?_ _;go_simp;have cM:=Ns f2;obtain⟨ce,cC,cap0,c3,dJ,fQ,_⟩:=ni.Xe (i:=0) Nw;rw[cM] at c3;obtain⟨kp,dd⟩:=xE ce.p;have Gg:=hide (cells4 i6.out);have fa:=hide (fun X (aj:NJ b' X)=>eU X ce (tK.later aj) (fQ.kp (Kp.of aj)) (w5.later aj));rw[<-kG.out,<-dd] at fa;rw[<-bo.out] at c3;rw[<-dd] at dJ;have eB:=hide c3;have lz:=hide dJ;have hM:=tK.lt;have qw:=lt_of_heap i6.out;have xU:=cell_lt c3;have LI:=cell_lt dJ;clear cM c3 dJ dd;go_wp2_with fail;refine Rj 8 fun ab=>?_
 have z:=kk (∀{G}(h:G:=by
 have z:=kk (∀{G}(h:G:=by
 refine uk4 7 Gg.out ab ?_;refine O0 8 fun K A=>?_;have z:=kk (∀{G}(h:G:=by
 have jJ:=(Om.of (L:=L) ab (Oi hM)).trans ak;have dG:=hide (jJ.P7 w5 fM.out NH NH);have fc:=(gq.up.trans jJ);have z:=kk (∀{G}(h:G:=by
 refine bodyPost_ret (v:=.tuple #[RX jR,ev]) (by simp[results,results201,go_sem,bi,aY,aX,cu]) rfl ?_;exact ap8),G);exact auu),G);exact amU),G);exact amO),G);exact U5),G);exact RU),G);exact atQ),G);exact aqg),G);exact zsk),G);exact zsx
theorem aqh (bF:Stp w0 mb es eb)(aZ:Bs w0 mb af aa es)(aK:Ms w0 mb af aa w σ){a:Ad}{d:Nd}(hd:Oa aa w a d)(E:d.2.kids.length=1)(p:Pl)(o:Oc){e:Er}{ev:NP}(br:U4 es w ev e){l:Option Va}(hl:NY w L l)(hN:N<1000000000)
  (h1:∀ x,e=.Wq x->Sz N σ/\(σ.M.ro p.scope).isSome=true/\Sz N (σ.opn p.scope (-1) (own d))/\V7 w0 mb af aa es ((σ.opn p.scope (-1) (own d)).dec σ.top d.2.tx 0 x) (Nz d 0) { p with scope:=σ.top } L l (F.s (Nz d 0) { p with scope:=σ.top } l ((σ.opn p.scope (-1) (own d)).dec σ.top d.2.tx 0 x))) :
  NK 201 #[Nu mb,Nu a.p,OQ p (LA L),RX o,ev] w (OY w0 mb af aa es L w (WC F d p o e l σ)):=by
 cases e with
 | no=>obtain rfl:ev=.nilIface:=br;exact amZ bF aK p o hl
 | stop=>rw[show ev=.iface 359 (.pointer (some eb)) from (show ev=es from br).trans bF.is];exact ahj bF aK p o hl
 | mis=>obtain rfl:ev=.iface 34 (Nr 7):=br;exact akn bF aK p o hl
 | Wq x=>
  obtain⟨lv,rfl,h⟩:=br;obtain⟨O,ax,aU,bN⟩:=h1 x rfl;exact ako bF aZ aK hd E p o lv x h hl O hN ax aU bN
def TD (F:Fx)(k:Nd)(p:Pl)(o:Oc)(e:Er)(l:Option Va)(σ:St):(Oc × Er × Option Va) × St:=if k.2.kd=13 then WC F k p o e l σ else U3 F k p o e l σ
def aD3 (w0:Ny)(mb af:Nat)(aa:List Nat)(es:NP)(F:Fx)(L:Option Nat)(k:Nd)(p:Pl)(o:Oc)(e:Er)(l:Option Va)(σ:St):Prop:=
 ∀ X (a:Ad) (ev:NP),Ms w0 mb af aa X σ->Oa aa X a k->NY X L l->U4 es X ev e ->
  (k.2.kd=13->NK 201 #[Nu mb,Nu a.p,OQ p (LA L),RX o,ev] X (OY w0 mb af aa es L X (WC F k p o e l σ))) /\
  (k.2.kd≠13->NK 202 #[Nu mb,Nu a.p,OQ p (LA L),RX o,ev] X (OY w0 mb af aa es L X (U3 F k p o e l σ)))
theorem aqi {w:Ny}{v:NP}{cW:List Ad}{g n cap:Nat}(h:QT 0 w v cW)(ap:v=.slice (some (Nv g 0)) n cap):n<=cap:=by
 rcases h.1.2 with ⟨h1,_⟩|⟨gX,cap',cl,h1,_,_,O,_⟩
 ·rw[ap] at h1;cases h1
 ·rw[ap] at h1;simp only[Value.slice.injEq] at h1;omega
theorem tail_drop (a1:List Nd)(k:Nat)(h:k+1<a1.length):a1.tail.drop k=a1[k+1]::a1.tail.drop (k+1):=by
 have h1:k<a1.tail.length:=by rw[List.length_tail];omega
 rw[List.drop_eq_getElem_cons h1,List.getElem_tail]
theorem akp {p:Pl}{k:Nd}{ks:List Nd}{o bG:Oc}{e av:Er}{l b8:Option Va}{σ1:St}(h:TD F k p o e l σ=((bG,av,b8),σ1)):Za F p (k::ks) o e l σ=Za F p ks bG av b8 σ1:=by
 rw[Za];unfold TD at h;simp only[h]
theorem azt (_:Yh es)(aK:Ms w0 mb af aa w σ){a:Ad}{d:Nd}(hd:Oa aa w a d){m:Nat}(E:d.2.kids.length=m+1)(nO:1<=m)(D0:m<1000000)(p:Pl){l:Option Va}(hl:NY w L l)
  (h0:V7 w0 mb af aa es σ (Nz d 0) p L l (F.s (Nz d 0) p l σ))
  (P:Oc->Er->Option Va->St->Prop) (hP:∀ o e b8 σ1,F.s (Nz d 0) p l σ=((o,e,b8),σ1)->P o e b8 σ1)
  (bq:∀ k ∈ (O3 d).tail,∀ o e l σ,P o e l σ->aD3 w0 mb af aa es F L k p o e l σ/\∀ bG av b8 σ1,TD F k p o e l σ=((bG,av,b8),σ1)->P bG av b8 σ1) :
  NK 116 #[Nu mb,Nu a.p,OQ p (LA L)] w (OY w0 mb af aa es L w (let r:=F.s (Nz d 0) p l σ;Za F p (O3 d).tail r.1.1 r.1.2.1 r.1.2.2 r.2)):=by
 have z:=kk (∀{G}(h:G:=by
 have z:=kk (∀{G}(h:G:=by
 have z:=kk (∀{G}(h:G:=by
 have z:=kk (∀{G}(h:G:=by
 obtain⟨cT,dO,c3,hrow⟩:=cS.ar;rw[E] at c3 hrow;have hlen:a.ks.length=m+1:=by rw[cS.ks,E]
 have xD:(O3 d).length=m+1:=by rw[QI,E]
 obtain⟨cC,cap0,pK,vJ,dJ,AE⟩:=hrow.cell 0 Nw;clear AE;simp only[Value.slice.injEq] at pK;obtain⟨rfl,Iw,rfl⟩:=pK;clear Iw;have Mm:dO≠1:=by have:=aqi hrow rfl;omega
 have fQ:Oa aa w2 (a.ks[0]'Nw) (Nz d 0):=by
  obtain⟨k,iQ,ax,aU⟩:=cS.azu (i:=0) Nw;rw[List.getElem?_eq_getElem Nw] at iQ;cases iQ;exact aU
 have fm:=cS.ndl;obtain⟨q,ag⟩:=xE a.p;obtain⟨ce,iP⟩:=xE (a.ks[0]'Nw);rw[<-iP] at dJ fQ;obtain⟨kp,dd⟩:=xE ce.p;have bA:=hide (fun X (aj:NJ w2 X)=>h0 X ce (dj.later aj) (fQ.kp (Kp.of aj)) ((hl.later aE).later aj))
 rcases U:F.s (Nz d 0) ⟨aq,aF,st⟩ l σ with ⟨⟨bG,av,b8⟩,σ1⟩
 rw[U] at bA;obtain⟨rs,bD⟩:=xH (Za F ⟨aq,aF,st⟩ (O3 d).tail bG av b8 σ1)
 show Calls _ _ _ _ (OY w0 mb af aa es L w (Za F ⟨aq,aF,st⟩ (O3 d).tail bG av b8 σ1))
 rw[<-bD.out,<-ag];have hblk:=cS.blk;rw[<-ag] at c3 dL hblk;rw[<-dd] at dJ bA;rw[<-kG.out] at bA;have eB:=hide c3;have lz:=hide dJ;have ix:=hide hblk;have HLEN:=hide hlen;have BY:=hide xD;have od:=hide (hP _ _ _ _ U);have ah:=hide bq;have ep:=(hl.later aE);have r5:=hide (tail_drop (O3 d));clear aK hd bK hr2 aE U ag h0 ds cH d5 fQ c3 dJ dd hl hblk hP bq iP hlen E;go_enter func116,ntmps116;go_wp2_with fail;rw[<-bu.out,<-b1,<-bU];clear bU b1
 refine UC (H:=fun wz vb ev=>SB w0 mb af aa es L w2 bG av b8 σ1 wz vb ev) (G:=?GG) (fun dI=>?ways) ?rest
 case ways=>
  exact aqd
 rintro wz ob ev cG;have AJ:=cG.fr.kpL ep;have dU:=hide (cG.fr.P7 ep bj.out NH NH);have eG:=hide (cG.fr.P7 ep dF.out NH NH);have di:=(da.up.trans cG.fr);have jl:=cG.ms;have rQ:=cG.er;have fB:=cG.la;have y8:=hide cG.o;have Cm:=hide cG.ob;have ee:=cG.ms.lt;have vR:ob≠aR:=fun e=>by
  have h1:=cG.ob;have O:=lt_of_heap bj.out;omega
 have Da:=AJ.RP eB.out ix.out (Or.inl rfl);have v8:=cell_lt Da;have uU:=cG.fr;clear AJ cG;go_wp2_with fail;clear Da v8
 go_loopw [9,30] (fun ev i wr=>∃ (k:Nat) (ok:Oc) (oy:Er) (hv:Option Va) (dy:St),k<=m/\i=Nr k/\Ms w0 mb af aa wr dy/\P ok oy hv dy/\Om L mb w2 wr/\NY wr L hv/\wr.heap[ob]? = some (ocO ok)/\U4 es wr ev oy/\rs=Za F ⟨aq,aF,st⟩ ((O3 d).tail.drop k) ok oy hv dy) (fun _ i _=>m - (intOf i).toNat)
 case atStart=>exact⟨0,bG,av,b8,σ1,Nat.zero_le _,rfl,jl,od.out,uU,fB,y8.out,rQ,bD.out⟩
 case round=>
  obtain⟨k,ok,oy,hv,dy,rj,rfl,aK,ld,ak,ki,vY,xp,iJ⟩:=hrel;have hU:=aK;have w6:=ki;have y6:=hide vY;have Fy:=xp;have iN:=hide iJ;have h6:=aK.lt;have xK:=ak.kpL ep;have bY:=hide (ak.P7 ep bj.out NH NH);have fD:=hide (ak.P7 ep dF.out NH NH);obtain⟨iu,⟨ew,dC,eE⟩⟩:=ok
  by_cases aQ:k<m
  ·have eR:k+1<a.ks.length:=by rw[HLEN.out];omega
   have gg:k+1<(O3 d).length:=by rw[BY.out];omega
   obtain⟨g,cap,ap,hg,ai,AE⟩:=(hrow.kp xK).cell (k+1) eR;clear AE;simp only[Value.slice.injEq,Option.some.injEq,Addr.mk.injEq] at ap;obtain⟨⟨Aw,It⟩,AD⟩:=ap;have jd:=RV.get _ _ (RV.kp xK _ _ fm) (k+1) eR gg;obtain⟨kd,bn⟩:=xE ((O3 d)[k+1]);obtain⟨pN,qs⟩:=xE (a.ks[k+1]);rw[<-bn,<-qs] at jd;rw[<-qs,<-Aw,Nat.add_comm] at ai;rw[<-Aw] at hg;have hmem:kd ∈ (O3 d).tail:=by
    have bN:k<(O3 d).tail.length:=by rw[List.length_tail];omega
    rw[bn,<-List.getElem_tail bN];exact List.getElem_mem _
   obtain⟨qk,hnext⟩:=Ns ah kd hmem ⟨iu,⟨ew,dC,eE⟩⟩ oy hv dy ld;have qk:=qk _ pN _ aK jd ki xp;rw[<-kG.out] at qk;obtain⟨wE,pE⟩:=xE pN.p;rw[<-pE] at ai qk;have fF:=jd.cells;rw[<-pE] at fF;obtain⟨Mc,ge,vN⟩:=fF;obtain⟨kkq,cM⟩:=xE kd.2.kd;rw[<-cM] at ge qk
   rcases dh:TD F kd ⟨aq,aF,st⟩ ⟨iu,⟨ew,dC,eE⟩⟩ oy hv dy with ⟨⟨iU,bC,rB⟩,ck⟩
   have ny:=hide (hnext _ _ _ _ dh);have zc:Hid (rs=Za F ⟨aq,aF,st⟩ ((O3 d).tail.drop (k+1)) iU bC rB ck):=by
    show _=_
    rw[iJ,Ns r5 k gg,<-bn];exact akp dh
   have hL:(k:Int)<(m:Int):=Nw;have cZ:=hide dh;clear aK ld ki vY xp iJ jd bn qs hmem hnext xK dh eR gg Aw pE It AD vN;obtain⟨aW,p1,cr,cL,_,dY⟩:=cells4 fD.out;obtain⟨hk,gn,gp,pR,ib,ic,id,pS,hm⟩:=PE y6.out
   by_cases tD:kkq=13
   ·have fL:=(qk.1 tD);have bF:TD F kd ⟨aq,aF,st⟩ ⟨iu,⟨ew,dC,eE⟩⟩ oy hv dy=WC F kd ⟨aq,aF,st⟩ ⟨iu,⟨ew,dC,eE⟩⟩ oy hv dy:=if_pos (cM ▸ tD);exact azv
   ·have fL:=(qk.2 tD);have bF:TD F kd ⟨aq,aF,st⟩ ⟨iu,⟨ew,dC,eE⟩⟩ oy hv dy=U3 F kd ⟨aq,aF,st⟩ ⟨iu,⟨ew,dC,eE⟩⟩ oy hv dy:=if_neg (cM ▸ tD);exact azv
  ·have cM:k=m:=Nw;have aH:rs=((⟨iu,⟨ew,dC,eE⟩⟩,oy,hv),dy):=by rw[iJ,cM,List.drop_eq_nil_of_le (by rw[List.length_tail,BY.out];omega)];rfl
   have cz:=hide aH;have hL:¬ (k:Int)<(m:Int):=Nw;have qQ:=(da.up.trans ak);obtain⟨cy,bQ,b5,d',dn,dp,dq,iL,rl⟩:=PE bY.out;obtain⟨hk,gn,gp,pR,ib,ic,id,pS,hm⟩:=PE y6.out;clear aH cM xK aK ld ki vY xp iJ;go_wp2_with fail;obtain⟨b3,bz,bb,bx,bv,bi,aY,aX,cu⟩:=rt4 bY.out cI.out bI qQ hU (NI iu) (Nr ew) (Nr dC) (ND eE);rw[<-bz];refine bodyPost_ret (v:=.tuple #[RX ⟨iu,⟨ew,dC,eE⟩⟩,u9]) (by simp[results,results116,go_sem,bi,aY,aX,cu]) rfl ?_;rw[cz.out]
   exact⟨⟨_,rfl,Fy.O6 bb NH⟩,bv,bx,w6.Rk bb⟩),G);exact zsc),G);exact V8),G);exact zsd),G);exact zso
end
end Hp
end Go.Proofs.YticfnaiehdpbmaaGreatDoor
