import Derived.Test.YticfnaiehdpbmaaGreatDoorSt11
import Derived.Test.YticfnaiehdpbmaaGreatDoorSt12
set_option maxRecDepth 100000
set_option maxHeartbeats 8000000
set_option linter.all false
namespace Go.Proofs.YticfnaiehdpbmaaGreatDoor
open Go.RowKit Go.Proofs.Tryz
namespace Hp
section
variable {w0:Og} {mb af:Nat} {O:List Nat} {es d6 d4 d1 d5:Ot} {w w' w2:Og} {σ:St} {ba:Nat} {F:Fx} {L:Option Nat} {a8:Addr}
section
variable (bC:Stp w0 mb es a8) (aJ:Ms w0 mb af O w σ) {a:Ad} {b:Nd} (hd:OJ O w a b)
include bC aJ a b hd
def ai0 (d:σ.steps<=20000)(hst1:20000<=σ.steps)(p:Pl)(aC:Option Addr) :
  Oq 196 #[N7 mb,N7 a.p,PD p aC] w (OQ w0 mb af O es w ((vU,.stop),σ.step)):=by
 have z:=N8 (∀{G}(h:G:=by
 have z:=N8 (∀{G}(h:G:=by
 have hstep:=aeQ bC cU d;rw[if_pos Oe,bC.is] at hstep;have f:=hide bC.is;have⟨s,c⟩:=xH a.p;rw[<-c.out] at ds ⊢;clear bb hr2 dq cE d2;go_enter func196,ntmps196;have z:=N8 (∀{G}(h:G:=by
 have dm:=cG.trans hF;have r:=hc.lt;have⟨i,g,j,l,o,q,u⟩:=O3 ed.out;have z:=N8 (∀{G}(h:G:=by
 refine Y2 (v:=.tuple #[vA vU,.iface 359 (.pointer (some a8))]) ?_;exact⟨⟨_,rfl,f.out.symm⟩,bE,bI⟩),G);exact aw1),G);exact abY),G);exact UZ),G);exact Xd
def ai1 (bm:b.2.kd=23)(ey:σ.steps<=20000)(hst1:σ.steps<20000)(p:Pl)(aC:Option Addr){rs:(Va × Er) × St}(br:∀ X,Ms w0 mb af O X σ.step->OJ O X a b->Oq 256 #[N7 mb,N7 a.p,PD p aC] X (OQ w0 mb af O es X rs)) :
  Oq 196 #[N7 mb,N7 a.p,PD p aC] w (OQ w0 mb af O es w rs):=by
 have z:=N8 (∀{G}(h:G:=by
 have b7:=hide bb;have z:=N8 (∀{G}(h:G:=by
 have z:=N8 (∀{G}(h:G:=by
 have aj:=hide br;have e5:(b.2.kd:Int)=23:=by rw[bm]
 exact Y3),G);exact V8),G);exact UZ),G);exact Xd
def aeS (bm:b.2.kd=24)(ey:σ.steps<=20000)(hst1:σ.steps<20000)(p:Pl)(aC:Option Addr){rs:(Va × Er) × St}(br:∀ X,Ms w0 mb af O X σ.step->OJ O X a b->Oq 257 #[N7 mb,N7 a.p,PD p aC] X (OQ w0 mb af O es X rs)) :
  Oq 196 #[N7 mb,N7 a.p,PD p aC] w (OQ w0 mb af O es w rs):=by
 have z:=N8 (∀{G}(h:G:=by
 have b7:=hide bb;have z:=N8 (∀{G}(h:G:=by
 have z:=N8 (∀{G}(h:G:=by
 have aj:=hide br;have e5:(b.2.kd:Int)=24:=by rw[bm]
 exact Y3),G);exact V8),G);exact UZ),G);exact Xd
def aph (bm:b.2.kd=25)(ey:σ.steps<=20000)(hst1:σ.steps<20000)(p:Pl)(aC:Option Addr){rs:(Va × Er) × St}(br:∀ X,Ms w0 mb af O X σ.step->OJ O X a b->Oq 258 #[N7 mb,N7 a.p,PD p aC] X (OQ w0 mb af O es X rs)) :
  Oq 196 #[N7 mb,N7 a.p,PD p aC] w (OQ w0 mb af O es w rs):=by
 have z:=N8 (∀{G}(h:G:=by
 have b7:=hide bb;have z:=N8 (∀{G}(h:G:=by
 have z:=N8 (∀{G}(h:G:=by
 have aj:=hide br;have e5:(b.2.kd:Int)=25:=by rw[bm]
 exact Y3),G);exact V8),G);exact UZ),G);exact Xd
def amn (bm:b.2.kd=26)(ey:σ.steps<=20000)(hst1:σ.steps<20000)(p:Pl)(aC:Option Addr){rs:(Va × Er) × St}(br:∀ X,Ms w0 mb af O X σ.step->OJ O X a b->Oq 258 #[N7 mb,N7 a.p,PD p aC] X (OQ w0 mb af O es X rs)) :
  Oq 196 #[N7 mb,N7 a.p,PD p aC] w (OQ w0 mb af O es w rs):=by
 have z:=N8 (∀{G}(h:G:=by
 have b7:=hide bb;have z:=N8 (∀{G}(h:G:=by
 have z:=N8 (∀{G}(h:G:=by
 have aj:=hide br;have e5:(b.2.kd:Int)=26:=by rw[bm]
 exact Y3),G);exact V8),G);exact UZ),G);exact Xd
def ai2 (bm:b.2.kd=27)(ey:σ.steps<=20000)(hst1:σ.steps<20000)(p:Pl)(aC:Option Addr){rs:(Va × Er) × St}(br:∀ X,Ms w0 mb af O X σ.step->OJ O X a b->Oq 259 #[N7 mb,N7 a.p,PD p aC] X (OQ w0 mb af O es X rs)) :
  Oq 196 #[N7 mb,N7 a.p,PD p aC] w (OQ w0 mb af O es w rs):=by
 have z:=N8 (∀{G}(h:G:=by
 have b7:=hide bb;have z:=N8 (∀{G}(h:G:=by
 have z:=N8 (∀{G}(h:G:=by
 have aj:=hide br;have e5:(b.2.kd:Int)=27:=by rw[bm]
 exact Y3),G);exact V8),G);exact UZ),G);exact Xd
def ai3 (bm:b.2.kd=28)(ey:σ.steps<=20000)(hst1:σ.steps<20000)(p:Pl)(aC:Option Addr){rs:(Va × Er) × St}(br:∀ X,Ms w0 mb af O X σ.step->OJ O X a b->Oq 259 #[N7 mb,N7 a.p,PD p aC] X (OQ w0 mb af O es X rs)) :
  Oq 196 #[N7 mb,N7 a.p,PD p aC] w (OQ w0 mb af O es w rs):=by
 have z:=N8 (∀{G}(h:G:=by
 have b7:=hide bb;have z:=N8 (∀{G}(h:G:=by
 have z:=N8 (∀{G}(h:G:=by
 have aj:=hide br;have e5:(b.2.kd:Int)=28:=by rw[bm]
 exact Y3),G);exact V8),G);exact UZ),G);exact Xd
def amo (bm:b.2.kd=29)(ey:σ.steps<=20000)(hst1:σ.steps<20000)(p:Pl)(aC:Option Addr){rs:(Va × Er) × St}(br:∀ X,Ms w0 mb af O X σ.step->OJ O X a b->Oq 259 #[N7 mb,N7 a.p,PD p aC] X (OQ w0 mb af O es X rs)) :
  Oq 196 #[N7 mb,N7 a.p,PD p aC] w (OQ w0 mb af O es w rs):=by
 have z:=N8 (∀{G}(h:G:=by
 have b7:=hide bb;have z:=N8 (∀{G}(h:G:=by
 have z:=N8 (∀{G}(h:G:=by
 have aj:=hide br;have e5:(b.2.kd:Int)=29:=by rw[bm]
 exact Y3),G);exact V8),G);exact UZ),G);exact Xd
def amq (bm:b.2.kd=30)(ey:σ.steps<=20000)(hst1:σ.steps<20000)(p:Pl)(aC:Option Addr){rs:(Va × Er) × St}(br:∀ X,Ms w0 mb af O X σ.step->OJ O X a b->Oq 259 #[N7 mb,N7 a.p,PD p aC] X (OQ w0 mb af O es X rs)) :
  Oq 196 #[N7 mb,N7 a.p,PD p aC] w (OQ w0 mb af O es w rs):=by
 have z:=N8 (∀{G}(h:G:=by
 have b7:=hide bb;have z:=N8 (∀{G}(h:G:=by
 have z:=N8 (∀{G}(h:G:=by
 have aj:=hide br;have e5:(b.2.kd:Int)=30:=by rw[bm]
 exact Y3),G);exact V8),G);exact UZ),G);exact Xd
def amr (bm:b.2.kd=31)(ey:σ.steps<=20000)(hst1:σ.steps<20000)(p:Pl)(aC:Option Addr){rs:(Va × Er) × St}(br:∀ X,Ms w0 mb af O X σ.step->OJ O X a b->Oq 259 #[N7 mb,N7 a.p,PD p aC] X (OQ w0 mb af O es X rs)) :
  Oq 196 #[N7 mb,N7 a.p,PD p aC] w (OQ w0 mb af O es w rs):=by
 have z:=N8 (∀{G}(h:G:=by
 have b7:=hide bb;have z:=N8 (∀{G}(h:G:=by
 have z:=N8 (∀{G}(h:G:=by
 have aj:=hide br;have e5:(b.2.kd:Int)=31:=by rw[bm]
 exact Y3),G);exact V8),G);exact UZ),G);exact Xd
def ams (bm:b.2.kd=32)(ey:σ.steps<=20000)(hst1:σ.steps<20000)(p:Pl)(aC:Option Addr){rs:(Va × Er) × St}(br:∀ X,Ms w0 mb af O X σ.step->OJ O X a b->Oq 260 #[N7 mb,N7 a.p,PD p aC] X (OQ w0 mb af O es X rs)) :
  Oq 196 #[N7 mb,N7 a.p,PD p aC] w (OQ w0 mb af O es w rs):=by
 have z:=N8 (∀{G}(h:G:=by
 have b7:=hide bb;have z:=N8 (∀{G}(h:G:=by
 have z:=N8 (∀{G}(h:G:=by
 have aj:=hide br;have e5:(b.2.kd:Int)=32:=by rw[bm]
 exact Y3),G);exact V8),G);exact UZ),G);exact Xd
def aeT (bm:b.2.kd=33)(ey:σ.steps<=20000)(hst1:σ.steps<20000)(p:Pl)(aC:Option Addr){rs:(Va × Er) × St}(br:∀ X,Ms w0 mb af O X σ.step->OJ O X a b->Oq 261 #[N7 mb,N7 a.p,PD p aC] X (OQ w0 mb af O es X rs)) :
  Oq 196 #[N7 mb,N7 a.p,PD p aC] w (OQ w0 mb af O es w rs):=by
 have z:=N8 (∀{G}(h:G:=by
 have b7:=hide bb;have z:=N8 (∀{G}(h:G:=by
 have z:=N8 (∀{G}(h:G:=by
 have aj:=hide br;have e5:(b.2.kd:Int)=33:=by rw[bm]
 exact Y3),G);exact V8),G);exact UZ),G);exact Xd
def aeU (bm:b.2.kd=34)(ey:σ.steps<=20000)(hst1:σ.steps<20000)(p:Pl)(aC:Option Addr){rs:(Va × Er) × St}(br:∀ X,Ms w0 mb af O X σ.step->OJ O X a b->Oq 262 #[N7 mb,N7 a.p,PD p aC] X (OQ w0 mb af O es X rs)) :
  Oq 196 #[N7 mb,N7 a.p,PD p aC] w (OQ w0 mb af O es w rs):=by
 have z:=N8 (∀{G}(h:G:=by
 have b7:=hide bb;have z:=N8 (∀{G}(h:G:=by
 have z:=N8 (∀{G}(h:G:=by
 have aj:=hide br;have e5:(b.2.kd:Int)=34:=by rw[bm]
 exact Y3),G);exact V8),G);exact UZ),G);exact Xd
def ai4 (bm:b.2.kd=35)(ey:σ.steps<=20000)(hst1:σ.steps<20000)(p:Pl)(aC:Option Addr){rs:(Va × Er) × St}(br:∀ X,Ms w0 mb af O X σ.step->OJ O X a b->Oq 263 #[N7 mb,N7 a.p,PD p aC] X (OQ w0 mb af O es X rs)) :
  Oq 196 #[N7 mb,N7 a.p,PD p aC] w (OQ w0 mb af O es w rs):=by
 have z:=N8 (∀{G}(h:G:=by
 have b7:=hide bb;have z:=N8 (∀{G}(h:G:=by
 have z:=N8 (∀{G}(h:G:=by
 have aj:=hide br;have e5:(b.2.kd:Int)=35:=by rw[bm]
 exact Y3),G);exact V8),G);exact UZ),G);exact Xd
def aeV (bm:b.2.kd=36)(ey:σ.steps<=20000)(hst1:σ.steps<20000)(p:Pl)(aC:Option Addr){rs:(Va × Er) × St}(br:∀ X,Ms w0 mb af O X σ.step->OJ O X a b->Oq 264 #[N7 mb,N7 a.p,PD p aC] X (OQ w0 mb af O es X rs)) :
  Oq 196 #[N7 mb,N7 a.p,PD p aC] w (OQ w0 mb af O es w rs):=by
 have z:=N8 (∀{G}(h:G:=by
 have b7:=hide bb;have z:=N8 (∀{G}(h:G:=by
 have z:=N8 (∀{G}(h:G:=by
 have aj:=hide br;have e5:(b.2.kd:Int)=36:=by rw[bm]
 exact Y3),G);exact V8),G);exact UZ),G);exact Xd
def aeW (bm:b.2.kd=38)(ey:σ.steps<=20000)(hst1:σ.steps<20000)(p:Pl)(aC:Option Addr){rs:(Va × Er) × St}(br:∀ X,Ms w0 mb af O X σ.step->OJ O X a b->Oq 266 #[N7 mb,N7 a.p,PD p aC] X (OQ w0 mb af O es X rs)) :
  Oq 196 #[N7 mb,N7 a.p,PD p aC] w (OQ w0 mb af O es w rs):=by
 have z:=N8 (∀{G}(h:G:=by
 have b7:=hide bb;have z:=N8 (∀{G}(h:G:=by
 have z:=N8 (∀{G}(h:G:=by
 have aj:=hide br;have e5:(b.2.kd:Int)=38:=by rw[bm]
 exact Y3),G);exact V8),G);exact UZ),G);exact Xd
def amu (bm:b.2.kd=18)(ey:σ.steps<=20000)(hst1:σ.steps<20000)(p:Pl)(aC:Option Addr) :
  Oq 196 #[N7 mb,N7 a.p,PD p aC] w (OQ w0 mb af O es w ((VD b.2.tx,.no),σ.step)):=by
 have z:=N8 (∀{G}(h:G:=by
 have z:=N8 (∀{G}(h:G:=by
 have z:=N8 (∀{G}(h:G:=by
 have e5:(b.2.kd:Int)=18:=by rw[bm]
 have⟨b5,c⟩:=xH (VD b.2.tx);rw[<-c.out];have tu:Hid (∀ X,Oq 254 #[Oj b.2.tx] X λe w'=>e=OA (vA b5)/\Oo X w'):=λX=>by
  show Calls _ _ _ _ _
  rw[c.out];exact Zu b.2.tx X
 have⟨f,lO⟩:=xH b.2.tx;have⟨d,nG⟩:=xH b.2.n;rw[<-lO.out] at tu;exact asZ),G);exact V8),G);exact UZ),G);exact Xd
def ai5 (bm:b.2.kd=19)(ey:σ.steps<=20000)(hst1:σ.steps<20000)(p:Pl)(aC:Option Addr) :
  Oq 196 #[N7 mb,N7 a.p,PD p aC] w (OQ w0 mb af O es w ((PX true,.no),σ.step)):=by
 have z:=N8 (∀{G}(h:G:=by
 have z:=N8 (∀{G}(h:G:=by
 have z:=N8 (∀{G}(h:G:=by
 have e5:(b.2.kd:Int)=19:=by rw[bm]
 have⟨b5,c⟩:=xH (PX true);rw[<-c.out];have tu:Hid (∀ X,Oq 255 #[Om true] X λe w'=>e=OA (vA b5)/\Oo X w'):=λX=>by
  show Calls _ _ _ _ _
  rw[c.out];exact VF true X
 have⟨f,lO⟩:=xH b.2.tx;have⟨d,nG⟩:=xH b.2.n;exact asZ),G);exact V8),G);exact UZ),G);exact Xd
def agS (bm:b.2.kd=20)(ey:σ.steps<=20000)(hst1:σ.steps<20000)(p:Pl)(aC:Option Addr) :
  Oq 196 #[N7 mb,N7 a.p,PD p aC] w (OQ w0 mb af O es w ((PX false,.no),σ.step)):=by
 have z:=N8 (∀{G}(h:G:=by
 have z:=N8 (∀{G}(h:G:=by
 have z:=N8 (∀{G}(h:G:=by
 have e5:(b.2.kd:Int)=20:=by rw[bm]
 have⟨b5,c⟩:=xH (PX false);rw[<-c.out];have tu:Hid (∀ X,Oq 255 #[Om false] X λe w'=>e=OA (vA b5)/\Oo X w'):=λX=>by
  show Calls _ _ _ _ _
  rw[c.out];exact VF false X
 have⟨f,lO⟩:=xH b.2.tx;have⟨d,nG⟩:=xH b.2.n;exact asZ),G);exact V8),G);exact UZ),G);exact Xd
def value_num (bm:b.2.kd=17)(ey:σ.steps<=20000)(hst1:σ.steps<20000)(p:Pl)(aC:Option Addr) :
  Oq 196 #[N7 mb,N7 a.p,PD p aC] w (OQ w0 mb af O es w ((V7 b.2.n,.no),σ.step)):=by
 have z:=N8 (∀{G}(h:G:=by
 have z:=N8 (∀{G}(h:G:=by
 have z:=N8 (∀{G}(h:G:=by
 have e5:(b.2.kd:Int)=17:=by rw[bm]
 have⟨b5,c⟩:=xH (V7 b.2.n);rw[<-c.out];have tu:Hid (∀ X,Oq 253 #[NY b.2.n] X λe w'=>e=OA (vA b5)/\Oo X w'):=λX=>by
  show Calls _ _ _ _ _
  rw[c.out];exact aeB b.2.n X
 have⟨f,lO⟩:=xH b.2.tx;have⟨d,nG⟩:=xH b.2.n;rw[<-nG.out] at tu;exact asZ),G);exact V8),G);exact UZ),G);exact Xd
def aeX (d:b.2.kd=37)(ey:σ.steps<=20000)(hst1:σ.steps<20000)(p:Pl)(aC:Option Addr){c:Va}{i:St}(f:∀ X,Ms w0 mb af O X σ.step->OJ O X a b->Oq 265 #[N7 mb,N7 a.p,PD p aC] X λe w'=>e=OA (vA c)/\Ms w0 mb af O w' i/\OV none mb X w') :
  Oq 196 #[N7 mb,N7 a.p,PD p aC] w (OQ w0 mb af O es w ((c,.no),i)):=by
 have z:=N8 (∀{G}(h:G:=by
 have b7:=hide bb;have z:=N8 (∀{G}(h:G:=by
 have z:=N8 (∀{G}(h:G:=by
 have aj:=hide f;have e5:(b.2.kd:Int)=37:=by rw[d]
 clear bb hr2 dq cE d2 f d;go_enter func196,ntmps196;have z:=N8 (∀{G}(h:G:=by
 have z:=N8 (∀{G}(h:G:=by
 have z:=N8 (∀{G}(h:G:=by
 rintro e s ⟨rfl,aJ,ah⟩;have g:=hide (ah.keep ed.out Ol);have r:=dm.trans ah;clear aU p1 cp cJ d3 he hj;have⟨D,B,A,E,H,I,J⟩:=O3 g.out;go_wp2_with fail;have⟨b3,o,u,l,j,cK,b1,bU⟩:=rt3 g.out cQ.out bG r aJ (NY c.k) (NY c.n) (Oj c.s);rw[<-o];refine WB (v:=.tuple #[vA c,Qd]) ?_;exact⟨⟨_,rfl,rfl⟩,j,l⟩),G);exact as1),G);exact aBY),G);exact abY),G);exact V8),G);exact UZ),G);exact Xd
def ai6 (c:b.2.kd=21)(ey:σ.steps<=20000)(hst1:σ.steps<20000)(p:Pl)(aC:Option Addr) :
  Oq 196 #[N7 mb,N7 a.p,PD p aC] w (OQ w0 mb af O es w ((agD,.no),σ.step)):=by
 have z:=N8 (∀{G}(h:G:=by
 have z:=N8 (∀{G}(h:G:=by
 have z:=N8 (∀{G}(h:G:=by
 have d:(b.2.kd:Int)=21:=by rw[c]
 clear c;clear bb hr2 dq cE d2;go_enter func196,ntmps196;have z:=N8 (∀{G}(h:G:=by
 have l:=cG.trans hF;have u:=hc.lt;have o:=cR.kp hF.Ul;obtain⟨r,f,_⟩:=o.cells;rw[<-bj.out] at r f;rw[d] at f;clear d;have⟨B,A,v,D,E,H,I⟩:=O3 ed.out;go_wp2_with fail;have⟨b3,j,s,i,g,cK,b1,bU⟩:=rt3 ed.out cQ.out bG l hc (NY 1) (NY 0) Pm;rw[<-j];refine bodyPost_ret (v:=.tuple #[vA agD,Qd]) (by simp[results,results196,go_sem,cK,b1,bU,agD]) rfl ?_;exact⟨⟨_,rfl,rfl⟩,g,i⟩),G);exact abY),G);exact V8),G);exact UZ),G);exact Xd
def agT (S:b.2.kd≠17/\b.2.kd≠18/\b.2.kd≠19/\b.2.kd≠20/\b.2.kd≠21/\b.2.kd≠23/\b.2.kd≠24/\b.2.kd≠25/\b.2.kd≠26/\b.2.kd≠27/\b.2.kd≠28/\b.2.kd≠29/\b.2.kd≠30/\b.2.kd≠31/\b.2.kd≠32/\b.2.kd≠33/\b.2.kd≠34/\b.2.kd≠35/\b.2.kd≠36/\b.2.kd≠37/\b.2.kd≠38)(ey:σ.steps<=20000)(hst1:σ.steps<20000)(p:Pl)(aC:Option Addr) :
  Oq 196 #[N7 mb,N7 a.p,PD p aC] w (OQ w0 mb af O es w ((vU,.no),σ.step)):=by
 have z:=N8 (∀{G}(h:G:=by
 have z:=N8 (∀{G}(h:G:=by
 have z:=N8 (∀{G}(h:G:=by
 obtain⟨D,g,i,j,l,o,W,r,s,u,A,B,f,E,H,I,ad,J,M,ae,N⟩:=S;have⟨av,c⟩:=xH b.2.kd;rw[<-c.out] at D g i j l o W r s u A B f E H I ad J M ae N;clear bb hr2 dq cE d2;go_enter func196,ntmps196;have z:=N8 (∀{G}(h:G:=by
 have dm:=cG.trans hF;have ag:=hc.lt;have T:=cR.kp hF.Ul;obtain⟨V,d,_⟩:=T.cells;rw[<-bj.out] at V d;rw[<-c.out] at d;have⟨aq,ak,aj,aw,az,aD,aH⟩:=O3 ed.out;have z:=N8 (∀{G}(h:G:=by
 refine Y2 (v:=.tuple #[vA vU,Qd]) ?_;exact⟨⟨_,rfl,rfl⟩,bE,bI⟩),G);exact aw1),G);exact abY),G);exact V8),G);exact UZ),G);exact Xd
end
def aaZ (bC:Stp w0 mb es a8)(aJ:Ms w0 mb af O w σ){a:Ad}{g:Nd}(hd:OJ O w a g)(M:g.2.kd=6)(ey:σ.steps<=20000)(hst1:σ.steps<20000)(p:Pl){l:Option Va}(hl:OE w L l){E:Pl}{I:St}{H:(Oc × Er × Option Va) × St}
  (J:∀ X,Ms w0 mb af O X σ.step->OJ O X a g->Oq 110 #[N7 mb,N7 a.p,PD p (LA L)] X λe w'=>e=OA (PD E (LA L))/\Ms w0 mb af O w' I/\OV none mb X w')
  (ak:∀ X u,Ms w0 mb af O X I->RZ 0 X u a.ks->Uc O X a.ks (Px g)->OE X L l->Oq 28 #[N7 mb,u,PD E (LA L)] X (PL w0 mb af O es L X H)) :
  Oq 53 #[N7 mb,N7 a.p,PD p (LA L)] w (PL w0 mb af O es L w H):=by
 have z:=N8 (∀{G}(h:G:=by
 have z:=N8 (∀{G}(h:G:=by
 have z:=N8 (∀{G}(h:G:=by
 have z:=N8 (∀{G}(h:G:=by
 have av:=hide bb;have z:=N8 (∀{G}(h:G:=by
 have z:=N8 (∀{G}(h:G:=by
 have aH:=hide J;have aN:=hide ak;have V:(g.2.kd:Int)=6:=by rw[M]
 clear bb hr2 dq cE d2 J ak M;go_enter func53,ntmps53;have z:=N8 (∀{G}(h:G:=by
 have r:=hide (hF.keep av.out Ol);have z:=N8 (∀{G}(h:G:=by
 obtain⟨aw,aD,s,aj⟩:=gI.ar;have⟨aM,ag⟩:=xE g.2.kids.length;rw[<-ag] at s aj;have aW:=gI.ndl;have B:=gI.blk;rw[<-bj.out] at hj he s B;rw[V] at he;have aI:=hide s;have aQ:=hide B;have br:=lt_of_heap r.out;clear V s B ag;go_wp2_with fail;have ae:OV none mb wz wz.drew:=OV.of QI.drew (OO eW);have W:=NZ aH _ (hc.later (Below.refl _ wz).drew) (gI.kp (Kp.of (Below.refl _ wz).drew));rw[<-bj.out,<-kM.out] at W;refine Qs 9 (λX=>OV none mb wz X) Pe ?_
 have z:=N8 (∀{G}(h:G:=by
 refine uc 4 (.slice aw aM aD) rfl (Or.inl ⟨by kernel_rfl,λX f=>by have h0:=f.Ul.TK aI.out aQ.out (Or.inl rfl);go_simp⟩) ae ?_
 refine up 5 mb 0 ae ?_;refine up 6 q 0 ae ?_;refine uc 7 (.agg #[NY au,NY aG,Om st,.pointer aC]) rfl (Or.inl ⟨by kernel_rfl,λX f=>by have h0:=(cells4 (f.keep r.out Ol)).1;have h1:=(cells4 (f.keep r.out Ol)).2.1;have U:=(cells4 (f.keep r.out Ol)).2.2.1;have be:=(cells4 (f.keep r.out Ol)).2.2.2.1;go_simp⟩) ae ?_
 refine PS 8 λK D=>?_;go_simp;refine cm W ?_;rintro e N ⟨rfl,a6,a1⟩;have d:OV none mb wz N:=ae.trans a1;refine D.out _ _ (λ_=>d) ?_;clear D K;have ad:=NZ aN N _ a6 (aj.kp d.Ul) (Uc.kp d.Ul _ _ aW) (f2.keep d);rw[<-kM.out] at ad;have aX:=hide (d.keep ed.out Ol);have aU:=dm.trans d;have aq:=f2.keep d;refine PS 9 λK D=>?_;go_simp;refine cm ad ?_;rintro e a7 ⟨⟨ev,rfl,aL⟩,aJ,ah,g3⟩;refine ko D ?_;clear D K;have dz:=hide (ah.RS aq aX.out Ol Ol)
 have fj:=aU.up.trans ah;have⟨lE,q6⟩:=xH H.1.1;rw[<-q6.out];have⟨bn,bm,bi,bu,bv,bx,bA,bF,bD⟩:=QK dz.out;refine uz 10 (UD lE) ?_;have bL:=N8 (∀{G}(h:G:=by
 refine uz 13 ev ?_;refine RY ?_ _;go_simp;exact aDr),G);exact ztk),G);exact VZ),G);exact apg),G);exact abY),G);exact aaV),G);exact UZ),G);exact zsd),G);exact Xr),G);exact zsc),G);exact zsn
def as2:Er->Bool
 | .no=>true
 | _=>false
def aak (bC:Stp w0 mb es a8)(aJ:Ms w0 mb af O w σ){a:Ad}{g:Nd}(hd:OJ O w a g)(V:g.2.kd=10)(ey:σ.steps<=20000)(hst1:σ.steps<20000)(p:Pl){l:Option Va}(hl:OE w L l){v1:Va}{aw:Er}{M:St}
  (W:∀ X u,Ms w0 mb af O X σ.step->OJ O X a g->RZ 0 X u a.ks->Oq 114 #[N7 mb,u,PD p (LA L)] X (OQ w0 mb af O es X ((v1,aw),M))) :
  Oq 53 #[N7 mb,N7 a.p,PD p (LA L)] w (PL w0 mb af O es L w ((⟨as2 aw,v1⟩,aw,l),M)):=by
 have z:=N8 (∀{G}(h:G:=by
 have z:=N8 (∀{G}(h:G:=by
 have z:=N8 (∀{G}(h:G:=by
 have z:=N8 (∀{G}(h:G:=by
 have aN:=hide bb;have z:=N8 (∀{G}(h:G:=by
 have z:=N8 (∀{G}(h:G:=by
 have ab:=bC.WC;have aM:=hide W;have ad:(g.2.kd:Int)=10:=by rw[V]
 clear bb hr2 dq cE d2 W V;go_enter func53,ntmps53;go_wp2_with fail;rw[<-bo.out,<-b4,<-bS];clear bS b4;refine cm hstep ?_;rintro e f ⟨rfl,hc,hF⟩;have aQ:=hide (hF.keep bq.out Ol);have N:=hide (hF.keep aN.out Ol);have z:=N8 (∀{G}(h:G:=by
 obtain⟨a7,br,r,aq⟩:=gI.ar;have⟨bv,ag⟩:=xE g.2.kids.length;rw[<-ag] at r aq;have bF:=hide (λX (ak:Oo f X)=>NZ aM X _ (hc.later ak) (gI.kp (Kp.of ak)) (aq.later ak));rw[<-kM.out] at bF;rw[<-bj.out] at hj he r;rw[ad] at he;have aU:=hide r;have aW:=hide (cells4 N.out);have bA:=lt_of_heap N.out;clear ad r ag;go_wp2_with fail;refine VG (H:=λwz vb ev=>VB w0 mb af O es f v1 aw M wz vb ev) (G:=?GG) (λdD=>?ways) ?rest
 case ways=>
  refine S9 6 λae=>?_;have z:=N8 (∀{G}(h:G:=by
  refine uk 4 aU.out ae ?_;refine uk4 5 aW.out ae ?_;refine uq2 6 10 (λK D=>?_) λK D=>?_
  ·have z:=N8 (∀{G}(h:G:=by
   refine uz 7 (.tuple #[(vA v1),ev]) ?_;refine uz 8 (vA v1) ?_;refine uz 9 ev ?_;refine PS 10 λK D=>?_;go_simp;refine ko D ?_;clear D K;have z:=N8 (∀{G}(h:G:=by
   go_simp;have cj:=VB.late (v:=v1) aL aJ ((OV.of ae (OO eW)).trans ah);exact axM),G);exact apj),G);exact asF
  ·have z:=N8 (∀{G}(h:G:=by
   have d:aD.heap[f.heap.size]? = some (OM #[NY 0,NY 0,Pm] 65):=ah.keep (Oi _ _) Ol;have⟨J,s,aj,B,H,I,aH⟩:=O3 d;refine uz 7 (.tuple #[(vA v1),ev]) ?_;refine uz 8 (vA v1) ?_;refine uz 9 ev ?_;have z:=N8 (∀{G}(h:G:=by
   go_simp;have cj:=VB.early (v:=v1) d Pg (OO eW) aL aJ ((OV.of (PE.drew) (OO eW)).trans ah)
   generalize ((aD.setCell (N9 f.heap.size 0) (NY v1.k)).setCell (N9 f.heap.size 1) (NY v1.n)).setCell (N9 f.heap.size 2) (Oj v1.s)=wz at cj ⊢
   generalize f.heap.size=vb at cj ⊢
   exact dD wz vb ev cj),G);exact apj),G);exact aBH),G);exact VZ
 case rest=>
  rintro bx vb ev d;have J:=hide (d.fr.keep aQ.out Ol);have aH:=dm.trans d.fr;have F4:=f2.keep d.fr;have aj:=hide (cells3 d.v);have aI:=d.ms;have Fz:=d.er;have aX:=d.ms.lt;have bz:=lt_of_heap d.v;have⟨a6,a1,be,bu,bi,bm,bn,bD,bH⟩:=QK J.out
  by_cases ao:aw=.no
  ·have H:ev=Qd:=by have h:=d.er;rw[ao] at h;exact h
   subst H;have bO:Hid (as2 aw=true):=by rw[ao];rfl
   go_wp2_with fail;refine S9 5 λae=>?_;refine uh 0 Qd ae ?_;refine uh 1 (Om true) ae ?_;refine uk3 2 aj.out ae ?_;refine uh 3 (.agg #[Om true,NY v1.k,NY v1.n,Oj v1.s]) ae ?_;refine uh 4 Qd ae ?_;refine PS 5 λK D=>?_;go_simp;refine ko D ?_;clear D K;refine uz 6 Qd ?_;refine RY ?_ _;go_simp;go_wp2_with fail;have⟨b3,I,bh,bI,bE,cK,b1,bU,ej⟩:=rt4 J.out cQ.out bG (OV.up (L:=L) aH) aI (Om true) (NY v1.k) (NY v1.n) (Oj v1.s);rw[<-I];refine U8 (v:=.tuple #[UD ⟨true,v1⟩,Qd]) ?_;exact aB0
  ·have⟨s,B,H⟩:=d.er.WC ao ab;subst H;have bO:Hid (as2 aw=false):=by
    show _=_
    exact axO
   go_wp2_with fail;refine S9 5 λae=>?_;refine uh 0 (.iface s B) ae ?_;refine uh 1 (Om false) ae ?_;refine uk3 2 aj.out ae ?_;refine uh 3 (.agg #[Om false,NY v1.k,NY v1.n,Oj v1.s]) ae ?_;refine uh 4 (.iface s B) ae ?_;refine PS 5 λK D=>?_;go_simp;refine ko D ?_;clear D K;refine uz 6 (.iface s B) ?_;refine RY ?_ _;go_simp;go_wp2_with fail;have⟨b3,I,bh,bI,bE,cK,b1,bU,ej⟩:=rt4 J.out cQ.out bG (OV.up (L:=L) aH) aI (Om false) (NY v1.k) (NY v1.n) (Oj v1.s);rw[<-I]
   refine U8 (v:=.tuple #[UD ⟨false,v1⟩,.iface s B]) ?_;exact aB0),G);exact apg),G);exact aaV),G);exact UZ),G);exact zsd),G);exact Xr),G);exact zsc),G);exact zsn
def aaj {w:Og}{a:Nat}{x:Ot}{c:TypeId}(h:w.heap[a]? = some (OM #[x] c)):w.cell? (N9 a 0)=some x/\(∀ b,w.frozen? (N9 a b)=false)/\a<w.heap.size:=by
 refine⟨?_,λb=>?_,lt_of_heap h⟩
 ·rw[cell_of h];rfl
 ·simp[World.frozen?,h]
section
variable (bC:Stp w0 mb es a8) (aJ:Ms w0 mb af O w σ) {a:Ad} {b:Nd} (p:Pl) (o:Oc) {l:Option Va} (hl:OE w L l)
include bC aJ a b p o l hl
def ape :
  Oq 201 #[N7 mb,N7 a.p,PD p (LA L),UD o,Qd] w (PL w0 mb af O es L w (XJ F b p o .no l σ)):=by
 have⟨aC,oV⟩:=xE (LA L);rw[<-oV];have z:=N8 (∀{G}(h:G:=by
 have z:=N8 (∀{G}(h:G:=by
 have z:=N8 (∀{G}(h:G:=by
 have kJ:Oq 32 #[Qd,.iface 123 (Oy tb 0)] w2 λe w'=>e=OA (Om false)/\Oo w2 w':=(anq tb w2 123).mono (by rintro e w' ⟨rfl,rfl⟩;exact⟨rfl,QI⟩)
 have⟨d,ag⟩:=xE a.p;have⟨c,d'⟩:=xE (XJ F b ⟨au,aG,st⟩ ⟨fZ,⟨ok,on,fY⟩⟩ .no l σ);rw[<-d',<-ag];have aI:c=((⟨fZ,⟨ok,on,fY⟩⟩,.no,l),σ):=d';have z:=N8 (∀{G}(h:G:=by
 refine U8 (v:=.tuple #[UD ⟨fZ,⟨ok,on,fY⟩⟩,Qd]) ?_;rw[cD.out];exact⟨⟨_,rfl,rfl⟩,bE,bI,f2.Tv bh⟩),G);exact awZ),G);exact aw0),G);exact zsk),G);exact zsy
def amk :
  Oq 201 #[N7 mb,N7 a.p,PD p (LA L),UD o,.iface 34 (NY 7)] w (PL w0 mb af O es L w (XJ F b p o .mis l σ)):=by
 have⟨aC,oV⟩:=xE (LA L);rw[<-oV];have z:=N8 (∀{G}(h:G:=by
 have z:=N8 (∀{G}(h:G:=by
 have z:=N8 (∀{G}(h:G:=by
 have kJ:Oq 32 #[.iface 34 (NY 7),.iface 123 (Oy tb 0)] w2 λe w'=>e=OA (Om false)/\Oo w2 w':=ars 7 tb w2 t0 (tf 0) n' kr;have⟨d,ag⟩:=xE a.p;have⟨c,d'⟩:=xE (XJ F b ⟨au,aG,st⟩ ⟨fZ,⟨ok,on,fY⟩⟩ .mis l σ);rw[<-d',<-ag];have aI:c=((⟨fZ,⟨ok,on,fY⟩⟩,.mis,l),σ):=d';have z:=N8 (∀{G}(h:G:=by
 refine U8 (v:=.tuple #[UD ⟨fZ,⟨ok,on,fY⟩⟩,.iface 34 (NY 7)]) ?_;rw[cD.out];exact⟨⟨_,rfl,rfl⟩,bE,bI,f2.Tv bh⟩),G);exact awZ),G);exact aw0),G);exact zsk),G);exact zsy
def aiZ :
  Oq 201 #[N7 mb,N7 a.p,PD p (LA L),UD o,.iface 359 (.pointer (some a8))] w (PL w0 mb af O es L w (XJ F b p o .stop l σ)):=by
 have⟨aC,oV⟩:=xE (LA L);rw[<-oV];have z:=N8 (∀{G}(h:G:=by
 have z:=N8 (∀{G}(h:G:=by
 have z:=N8 (∀{G}(h:G:=by
 have kJ:Oq 32 #[.iface 359 (.pointer (some a8)),.iface 123 (Oy tb 0)] w2 λe w'=>e=OA (Om false)/\Oo w2 w':=afV a8 tb w2 t0 (tf 0) n' kr;have c:=hide bC.is;have⟨f,ag⟩:=xE a.p;have⟨d,d'⟩:=xE (XJ F b ⟨au,aG,st⟩ ⟨fZ,⟨ok,on,fY⟩⟩ .stop l σ);rw[<-d',<-ag];have aI:d=((⟨fZ,⟨ok,on,fY⟩⟩,.stop,l),σ):=d';have z:=N8 (∀{G}(h:G:=by
 refine U8 (v:=.tuple #[UD ⟨fZ,⟨ok,on,fY⟩⟩,.iface 359 (.pointer (some a8))]) ?_;rw[cD.out];exact⟨⟨_,rfl,c.out.symm⟩,bE,bI,f2.Tv bh⟩),G);exact awZ),G);exact aw0),G);exact zsk),G);exact zsy
end
def aml (cn:Stp w0 mb es a8)(ce:Bs w0 mb af O es)(aJ:Ms w0 mb af O w σ){a:Ad}{d:Nd}(hd:OJ O w a d)(E:d.2.kids.length=1)(p:Pl)(o:Oc)(f:Nat)(x:Va)(ad:w.heap[f]? = some (OM #[NY x.k,NY x.n,Oj x.s] 126)){l:Option Va}(hl:OE w L l)
  (cf:Sz ba σ) (br:ba<1000000000) (bF:(σ.M.ro p.scope).isSome=true) (bn:Sz ba (σ.opn p.scope (-1) (own d)))
  (h1:Xq w0 mb af O es ((σ.opn p.scope (-1) (own d)).dec σ.top d.2.tx 0 x) (Oa d 0) { p with scope:=σ.top } L l (F.s (Oa d 0) { p with scope:=σ.top } l ((σ.opn p.scope (-1) (own d)).dec σ.top d.2.tx 0 x))) :
  Oq 201 #[N7 mb,N7 a.p,PD p (LA L),UD o,.iface 122 (Oy f 0)] w (PL w0 mb af O es L w (XJ F d p o (.X8 x) l σ)):=by
 have⟨aC,bx⟩:=xH (LA L);rw[<-bx.out];have z:=N8 (∀{G}(h:G:=by
 have z:=N8 (∀{G}(h:G:=by
 have bL:=N8 (∀{G}(h:G:=by
 have cl:=hide bb;have dn:=hide eN;have cp:=hide cM;have cq:=hide hr2;have cQ:=hide cE;have sv:=hide dq;have tI:=hide d2;have b8:=hide A4;have cV:=hide rF;have du:=hl.later aE;have⟨bJ,tf,a1⟩:=aaj eN;have bA:=cn.ety cU;have cY:=aj3 f tb w2 eN bJ (tf 0) a1 bA;have dD:=lt_of_heap ad;have bi:f≠bc:=Oe;have bV:=hide bi;have bW:=hide ad;have dm:=aJ;have cL:=hide E;have bX:=hide bF;have⟨q,r⟩:=xH a.p;have⟨aN,bC⟩:=xH (own d:Int)
 have⟨e2,aX⟩:=xH (σ.top:Int);have⟨cj,aW⟩:=xH (σ.opn au (-1) (own d));have⟨bH,a6⟩:=xH ((σ.opn au (-1) (own d)).dec σ.top d.2.tx 0 x);have⟨rs,V⟩:=xE (XJ F d ⟨au,aG,st⟩ ⟨fZ,⟨ok,on,fY⟩⟩ (.X8 x) l σ);have cC:Xq w0 mb af O es bH (Oa d 0) ⟨e2,aG,st⟩ L l rs:=by
  show Xq _ _ _ _ _ _ _ _ _ _ _
  rw[V,aX.out,a6.out];exact h1
 rw[<-V,<-r.out];clear E bb hr2 kw eN cM V dq cE d2 A4 rF bJ tf a1 bA ad bF h1 bi;go_enter func201,ntmps201;go_wp2_with fail;rw[<-cp.out,<-b4,<-f',<-bS,<-htb'];clear bS b4 f' lv htb';refine cm cY ?_;rintro e wz ⟨rfl,bP,aH⟩;have rF:=NZ cV;have B:Oo w wz:=aE.trans (aH.mono rF.2.2.2);have b2:=hide bP;have W:=hide ((aH.block bc rF.1).trans cl.out);have cI:=hide ((aH.block aV rF.2.2.1).trans cq.out);have aM:=dm.later B;have cO:=hl.later B;have aU:=hd.kp (Kp.of B)
 have c9:=hide (stays B bW.out);have cB:=OV.of (L:=none) B (OO bG);have dc:=hide (cells4 W.out);have cH:=aM.lt;have dx:=lt_of_heap W.out;have dw:q<wz.heap.size:=by rw[r.out];exact aU.cells.1
 have b6:Hid (∀ X,Oo wz X->Oq 51 #[N7 mb,N7 q] X λe w'=>e=OA (NY aN)/\Oo wz w'):=λX ak=>by
  have⟨_,_,_,_,hy⟩:=aM.later ak;rw[r.out,bC.out];exact(Yt ce hy (aU.kp (Kp.of ak))).mono (by rintro e w' ⟨rfl,rfl⟩;exact⟨rfl,ak⟩)
 have cx:Hid (∀ X,Oo wz X->Oq 50 #[N7 mb,NY au,NY (-1),NY aN] X λe w'=>e=OA (NY e2)/\Ms w0 mb af O w' cj/\OV none mb wz w'):=λX ak=>by
  have⟨_,_,_,_,hy⟩:=aM.later ak;refine(YZ hy cf br au (-1) aN bX.out).mono ?_;rintro e w' ⟨rfl,s,aw,ag⟩;rw[aX.out,aW.out,<-bC.out];exact⟨rfl,⟨_,_,_,_,aw⟩,(OV.of ak (OO cH)).trans (ag.frL hy)⟩
 clear bP rF;go_wp2_with fail;refine S9 6 λae=>?_;refine up 0 mb 0 ae ?_;refine up 1 bc 0 ae ?_;refine uk 2 (dc.out.1) ae ?_;refine up 3 mb 0 ae ?_;refine up 4 q 0 ae ?_;refine PS 5 λK D=>?_;go_simp;refine cm (NZ b6 _ ae) ?_;rintro e ds ⟨rfl,be⟩;refine D.out _ _ (λ_=>be) ?_;clear D K;refine PS 6 λK D=>?_;go_simp;refine cm (NZ cx _ be) ?_;rintro e aq ⟨rfl,cJ,g⟩;refine ko D ?_;clear D K;have fk:=hide (g.keep W.out Ol);have dg:=hide (g.keep cI.out Ol);have de:=hide (g.keep b2.out Ol)
 have cD:=hide (g.keep c9.out Ol);have df:=cO.keep g;have cu:=cB.trans g;have cZ:=aU.kp g.Ul;have⟨ch,da,cy,cr,gU,cA⟩:=cells4 fk.out;have z:=N8 (∀{G}(h:G:=by
 have c7:Kp aq (aq.setCell (N9 bc 0) (NY e2)):=λb c e A ci=>lu.rest b c e A (by rcases ci with rfl|rfl <;> decide);have aI:=cJ.YC lu Ol;have M:=hide (Yu fk.out (NY e2));have cR:Hid (bD.heap[aV]? = some (OM #[Om false,NY 0,NY 0,Pm] 67)):=asv
 have a7:Hid (bD.heap[tb]? = some (OM #[Oy f 0] 122)):=by
  show _=_
  rw[fH,heap_setCell_other _ _ _ _ (Ne.symm b8.out)];exact NZ de
 have bo:Hid (bD.heap[f]? = some (OM #[NY x.k,NY x.n,Oj x.s] 126)):=by
  show _=_
  rw[fH,heap_setCell_other _ _ _ _ bV.out];exact NZ cD
 have bq:=cu.newT lu (ZA sv.out _);have bK:=df.Tv lu;have aQ:=cZ.kp c7;rw[<-fH] at aI M bq bK aQ ⊢;have dk:=hide (cells4 M.out);have bZ:=hide (aaj a7.out);have b5:=hide (cells3 bo.out);have cT:=aI.lt;have dA:=lt_of_heap M.out;have dp:=lt_of_heap a7.out;have dv:=lt_of_heap bo.out;have⟨bN,aj⟩:=xE d.2.tx;have J:=aQ.cells;rw[<-r.out,<-aj] at J;have db:=hide J;have dC:=J.1
 have dd:Hid (∀ X,Oo bD X->Oq 128 #[N7 mb,NY e2,Oj bN,NY 0,vA x] X λe w'=>(∃ ev,e=OA ev)/\Ms w0 mb af O w' bH/\OV none mb bD w'):=λX ak=>by
  have⟨_,_,_,_,hy⟩:=aI.later ak;rw[<-aW.out] at bn;refine(WY hy bn br e2 bN 0 x).mono ?_;rintro e w' ⟨rfl,aw,ag⟩;rw[a6.out,<-aW.out,<-aX.out,<-aj];exact⟨⟨_,rfl⟩,⟨_,_,_,_,aw⟩,(OV.of ak (OO cT)).trans (OV.ofT ag)⟩
 clear fH ch da cy cr cA pa J aj;go_wp2_with fail;refine S9 13 λae=>?_;have z:=N8 (∀{G}(h:G:=by
 refine up 3 bc 0 ae ?_;refine uk 4 (dk.out.1) ae ?_;refine up 5 q 0 ae ?_;refine up 6 q 0 ae ?_;refine up 7 q 1 ae ?_;refine uk 8 (db.out.2.2.1) ae ?_;refine uk 9 (bZ.out.1) ae ?_;refine up 10 f 0 ae ?_;refine up 11 f 0 ae ?_;refine uk3 12 b5.out ae ?_;refine PS 13 λK D=>?_;go_simp;refine cm (NZ dd _ ae) ?_;rintro e cw ⟨⟨ev,rfl⟩,bO,H⟩;refine ko D ?_;clear D K;have bv:=hide (H.keep M.out Ol);have cS:=hide (H.keep cR.out Ol);have bQ:=bK.keep H;have bR:=bq.trans H;have c8:=aQ.kp H.Ul
 refine RY ?_ _;go_simp;have bm:=NZ cL;have⟨bj,cz,dt,s,I,cP,_⟩:=c8.Yb (i:=0) Oe;rw[bm] at s;have⟨dy,N⟩:=xE bj.p;have b7:=hide (cells4 bv.out);have fa:=hide (λX (ak:Oo cw X)=>cC X bj (bO.later ak) (cP.kp (Kp.of ak)) (bQ.later ak));rw[<-bx.out,<-N] at fa;rw[<-r.out] at s;rw[<-N] at I;have ez:=hide s;have lK:=hide I;have cX:=bO.lt;have dB:=lt_of_heap bv.out;have dF:=cell_lt s;have dr:=cell_lt I;clear bm s I N;go_wp2_with fail;refine S9 8 λae=>?_
 have z:=N8 (∀{G}(h:G:=by
 have z:=N8 (∀{G}(h:G:=by
 refine uk4 7 b7.out ae ?_;refine PS 8 λK D=>?_;have z:=N8 (∀{G}(h:G:=by
 have bu:=(OV.of (L:=L) ae (OO cX)).trans ah;have dz:=hide (bu.RS bQ cS.out Ol Ol);have fj:=bR.up.trans bu;exact awI),G);exact ao9),G);exact ao3),G);exact VZ),G);exact TI),G);exact av7),G);exact ztx),G);exact zsk),G);exact zsy
def asW (e:Stp w0 mb es a8)(o:Bs w0 mb af O es)(f:Ms w0 mb af O w σ){l:Ad}{b:Nd}(u:OJ O w l b)(m:b.2.kids.length=1)(a:Pl)(d:Oc){i:Er}{c:Ot}(g:WZ es w c i){k:Option Va}(j:OE w L k)(t:ba<1000000000)
  (s:∀ x,i=.X8 x->Sz ba σ/\(σ.M.ro a.scope).isSome=true/\Sz ba (σ.opn a.scope (-1) (own b))/\Xq w0 mb af O es ((σ.opn a.scope (-1) (own b)).dec σ.top b.2.tx 0 x) (Oa b 0) { a with scope:=σ.top } L k (F.s (Oa b 0) { a with scope:=σ.top } k ((σ.opn a.scope (-1) (own b)).dec σ.top b.2.tx 0 x))) :
  Oq 201 #[N7 mb,N7 l.p,PD a (LA L),UD d,c] w (PL w0 mb af O es L w (XJ F b a d i k σ)):=by
 cases i with
 | no=>obtain rfl:c=.nilIface:=g;exact ape e f a d j
 | stop=>rw[show c=.iface 359 (.pointer (some a8)) from (show c=es from g).trans e.is];exact aiZ e f a d j
 | mis=>obtain rfl:c=.iface 34 (NY 7):=g;exact amk e f a d j
 | X8 x=>
  obtain⟨v,rfl,h⟩:=g;have⟨n,q,p,r⟩:=s x rfl;exact aml e o f u m a d v x h j n t q p r
def UU (F:Fx)(a:Nd)(e:Pl)(d:Oc)(b:Er)(c:Option Va)(σ:St):(Oc × Er × Option Va) × St:=if a.2.kd=13 then XJ F a e d b c σ else VY F a e d b c σ
def aGz (w0:Og)(mb af:Nat)(O:List Nat)(es:Ot)(F:Fx)(L:Option Nat)(b:Nd)(d:Pl)(c:Oc)(f:Er)(i:Option Va)(σ:St):Prop:=
 ∀ a (e:Ad) (g:Ot),Ms w0 mb af O a σ->OJ O a e b->OE a L i->WZ es a g f ->
  (b.2.kd=13->Oq 201 #[N7 mb,N7 e.p,PD d (LA L),UD c,g] a (PL w0 mb af O es L a (XJ F b d c f i σ))) /\
  (b.2.kd≠13->Oq 202 #[N7 mb,N7 e.p,PD d (LA L),UD c,g] a (PL w0 mb af O es L a (VY F b d c f i σ)))
def asX {w:Og}{e:Ot}{f:List Ad}{g d c:Nat}(h:RZ 0 w e f)(b:e=.slice (some (N9 g 0)) d c):d<=c:=by
 rcases h.1.2 with ⟨a,_⟩|⟨l,i,k,a,_,_,j,_⟩
 ·rw[b] at a;cases a
 ·rw[b] at a;simp only[Value.slice.injEq] at a;omega
def tail_drop (a:List Nd)(b:Nat)(h:b+1<a.length):a.tail.drop b=a[b+1]::a.tail.drop (b+1):=by
 have c:b<a.tail.length:=by rw[List.length_tail];omega
 rw[List.drop_eq_getElem_cons c,List.getElem_tail]
def amm {a:Pl}{f:Nd}{g:List Nd}{j c:Oc}{e b:Er}{i d:Option Va}{k:St}(h:UU F f a j e i σ=((c,b,d),k)):aad F a (f::g) j e i σ=aad F a g c b d k:=by
 rw[aad];unfold UU at h;simp only[h]
def aBU (_:Zf es)(aJ:Ms w0 mb af O w σ){a:Ad}{d:Nd}(hd:OJ O w a d){m:Nat}(E:d.2.kids.length=m+1)(dn:1<=m)(cY:m<1000000)(p:Pl){l:Option Va}(hl:OE w L l)
  (h0:Xq w0 mb af O es σ (Oa d 0) p L l (F.s (Oa d 0) p l σ))
  (P:Oc->Er->Option Va->St->Prop) (hP:∀ o e B H,F.s (Oa d 0) p l σ=((o,e,B),H)->P o e B H)
  (bQ:∀ k ∈ (Px d).tail,∀ o e l σ,P o e l σ->aGz w0 mb af O es F L k p o e l σ/\∀ bH W B H,UU F k p o e l σ=((bH,W,B),H)->P bH W B H) :
  Oq 116 #[N7 mb,N7 a.p,PD p (LA L)] w (PL w0 mb af O es L w (let aW:=F.s (Oa d 0) p l σ;aad F p (Px d).tail aW.1.1 aW.1.2.1 aW.1.2.2 aW.2)):=by
 have z:=N8 (∀{G}(h:G:=by
 have z:=N8 (∀{G}(h:G:=by
 have z:=N8 (∀{G}(h:G:=by
 have z:=N8 (∀{G}(h:G:=by
 have cl:=hide bb;have ei:=hide (cells4 bb);have z:=N8 (∀{G}(h:G:=by
 obtain⟨c9,cq,aj,aH⟩:=cR.ar;rw[E] at aj aH;have bV:a.ks.length=m+1:=by rw[cR.ks,E]
 have cT:(Px d).length=m+1:=by rw[RG,E]
 have⟨cz,db,b5,dt,aw,a6⟩:=aH.cell 0 Oe;clear a6;simp only[Value.slice.injEq] at b5;obtain⟨rfl,ch,rfl⟩:=b5;clear ch;have c7:cq≠1:=by have:=asX aH rfl;omega
 have bn:OJ O w2 (a.ks[0]'Oe) (Oa d 0):=by
  have⟨k,f,av,g⟩:=cR.aBV (i:=0) Oe;rw[List.getElem?_eq_getElem Oe] at f;cases f;exact g
 have cw:=cR.ndl;have⟨q,be⟩:=xE a.p;have⟨bN,bZ⟩:=xE (a.ks[0]'Oe);rw[<-bZ] at aw bn;have⟨dm,bD⟩:=xE bN.p;have bF:=hide (λX (ak:Oo w2 X)=>h0 X bN (cU.later ak) (bn.kp (Kp.of ak)) ((hl.later aE).later ak))
 rcases aa:F.s (Oa d 0) ⟨au,aG,st⟩ l σ with ⟨⟨bH,W,B⟩,H⟩
 rw[aa] at bF;have⟨bz,bO⟩:=xH (aad F ⟨au,aG,st⟩ (Px d).tail bH W B H)
 show Calls _ _ _ _ (PL w0 mb af O es L w (aad F ⟨au,aG,st⟩ (Px d).tail bH W B H))
 rw[<-bO.out,<-be];have br:=cR.blk;rw[<-be] at aj ds br;rw[<-bD] at aw bF;rw[<-kM.out] at bF;have ez:=hide aj;have lK:=hide aw;have cB:=hide br;have ce:=hide bV;have bI:=hide cT;have cH:=hide (hP _ _ _ _ aa);have ci:=hide bQ;have fe:=hl.later aE;have cI:=hide (tail_drop (Px d));clear aJ hd bb hr2 aE aa be h0 dq cE d2 bn aj aw bD hl br hP bQ bZ bV E;go_enter func116,ntmps116;go_wp2_with fail;rw[<-bo.out,<-b4,<-bS];clear bS b4
 refine VG (H:=λwz vb ev=>SB w0 mb af O es L w2 bH W B H wz vb ev) (G:=?GG) (λdD=>?ways) ?rest
 case ways=>
  exact asU
 case rest=>
  rintro wz ob ev f;have bE:=f.fr.kpL fe;have dc:=cG.up.trans f.fr;have cD:=f.ms;have cM:=f.er;have cr:=f.la;have cV:=hide f.o;have Cp:=hide f.ob;have dd:=f.ms.lt;have cX:ob≠aV:=λe=>by
   have h1:=f.ob;have U:=lt_of_heap bq.out;omega
  have bJ:=bE.TK ez.out cB.out (Or.inl rfl);have cP:=cell_lt bJ;have cO:=f.fr;clear bE f;go_wp2_with fail;clear bJ cP
  go_loopw [9,30] (λev i wr=>∃ (k:Nat) (ad:Oc) (s:Er) (r:Option Va) (g:St),k<=m/\i=NY k/\Ms w0 mb af O wr g/\P ad s r g/\OV L mb w2 wr/\OE wr L r/\wr.heap[ob]? = some (ocO ad)/\WZ es wr ev s/\bz=aad F ⟨au,aG,st⟩ ((Px d).tail.drop k) ad s r g) (λ_ i _=>m - (intOf i).toNat)
  case atStart=>exact⟨0,bH,W,B,H,Nat.zero_le _,rfl,cD,cH.out,cO,cr,cV.out,cM,bO.out⟩
  case round=>
   obtain⟨k,ad,s,r,g,dp,rfl,aJ,bu,ah,aN,bA,aX,aI⟩:=hrel;have cy:=aJ;have xy:=aN;have si:=hide bA;have b8:=aX;have dg:=aJ.lt;have a1:=ah.kpL fe;have bP:=hide (ah.RS fe bq.out Ol Ol);have cu:=hide (ah.RS fe cl.out Ol Ol);obtain⟨N,⟨J,I,M⟩⟩:=ad
   by_cases c8:k<m
   ·have bj:k+1<a.ks.length:=by rw[ce.out];omega
    have bm:k+1<(Px d).length:=by rw[bI.out];omega
    obtain⟨de,da,bK,cA,ai,a6⟩:=(aH.kp a1).cell (k+1) bj;clear a6;simp only[Value.slice.injEq,Option.some.injEq,Addr.mk.injEq] at bK;obtain⟨⟨a7,cf⟩,b7⟩:=bK;have aM:=Uc.get _ _ (Uc.kp a1 _ _ cw) (k+1) bj bm;have⟨V,ag⟩:=xE ((Px d)[k+1]);have⟨b2,bx⟩:=xE (a.ks[k+1]);rw[<-ag,<-bx] at aM;rw[<-bx,<-a7,Nat.add_comm] at ai;rw[<-a7] at cA;have bW:V ∈ (Px d).tail:=by
     have cn:k<(Px d).tail.length:=by rw[List.length_tail];omega
     rw[ag,<-List.getElem_tail cn];exact List.getElem_mem _
    have⟨qu,bX⟩:=NZ ci V bW ⟨N,⟨J,I,M⟩⟩ s r g bu;have qu:=qu _ b2 _ aJ aM aN aX;rw[<-kM.out] at qu;have⟨dr,bv⟩:=xE b2.p;rw[<-bv] at ai qu;have bR:=aM.cells;rw[<-bv] at bR;obtain⟨cZ,gf,cS⟩:=bR;have⟨cC,cL⟩:=xE V.2.kd;rw[<-cL] at gf qu
    rcases aq:UU F V ⟨au,aG,st⟩ ⟨N,⟨J,I,M⟩⟩ s r g with ⟨⟨iY,bi,mN⟩,b6⟩
    have nJ:=hide (bX _ _ _ _ aq);have zq:Hid (bz=aad F ⟨au,aG,st⟩ ((Px d).tail.drop (k+1)) iY bi mN b6):=by
     show _=_
     rw[aI,NZ cI k bm,<-ag];exact amm aq
    have cx:(k:Int)<(m:Int):=Oe;have df:=hide aq;clear aJ bu aN bA aX aI aM ag bx bW bX a1 aq bj bm a7 bv cf b7 cS;have⟨aU,p1,cp,cJ,_,d3⟩:=cells4 cu.out;have⟨hM,gW,gX,rT,iK,iL,iM,rU,hO⟩:=QK si.out
    by_cases aQ:cC=13
    ·have gc:=qu.1 aQ;have bC:UU F V ⟨au,aG,st⟩ ⟨N,⟨J,I,M⟩⟩ s r g=XJ F V ⟨au,aG,st⟩ ⟨N,⟨J,I,M⟩⟩ s r g:=if_pos (cL ▸ aQ);exact aBW
    ·have gc:=qu.2 aQ;have bC:UU F V ⟨au,aG,st⟩ ⟨N,⟨J,I,M⟩⟩ s r g=VY F V ⟨au,aG,st⟩ ⟨N,⟨J,I,M⟩⟩ s r g:=if_neg (cL ▸ aQ);exact aBW
   ·have cL:k=m:=Oe;have V:bz=((⟨N,⟨J,I,M⟩⟩,s,r),g):=by rw[aI,cL,List.drop_eq_nil_of_le (by rw[List.length_tail,bI.out];omega)];rfl
    have a7:=hide V;have cx:¬ (k:Int)<(m:Int):=Oe;have ag:=cG.up.trans ah;have⟨bm,bj,bv,bW,bx,bK,bR,bX,b2⟩:=QK bP.out;have⟨hM,gW,gX,rT,iK,iL,iM,rU,hO⟩:=QK si.out;clear V cL a1 aJ bu aN bA aX aI;go_wp2_with fail;have⟨b3,aQ,bh,aM,aq,cK,b1,bU,ej⟩:=rt4 bP.out cQ.out bG ag cy (Om N) (NY J) (NY I) (Oj M);rw[<-aQ];refine U8 (v:=.tuple #[UD ⟨N,⟨J,I,M⟩⟩,u9]) ?_;rw[a7.out];exact⟨⟨_,rfl,b8.Qn bh Ol⟩,aq,aM,xy.Tv bh⟩),G);exact UZ),G);exact zsd),G);exact Xr),G);exact zsc),G);exact zsn
def apd (ab:Zf es)(aJ:Ms w0 mb af O w σ){a:Ad}{g:Nd}(hd:OJ O w a g)(E:g.2.kids.length=2)(p:Pl){l:Option Va}(hl:OE w L l)(aX:Nat)
  (P:Nat->St->Option Va->Prop) (hP:P aX σ l) (cy:∀ σ l,¬ P 0 σ l)
  (ci:∀ k σ l,P (k+1) σ l->Tt w0 mb af O es σ (Oa g 0) p (F.v (Oa g 0) p σ)/\∀ v I,F.v (Oa g 0) p σ=((v,.no),I)->v.tru=true->Xq w0 mb af O es I (Oa g 1) p L l (F.s (Oa g 1) p l I)/\∀ o H B,F.s (Oa g 1) p l I=((o,.no,H),B)->P k B H) :
  Oq 112 #[N7 mb,N7 a.p,PD p (LA L)] w (PL w0 mb af O es L w (WV F g p aX l σ)):=by
 have z:=N8 (∀{G}(h:G:=by
 have z:=N8 (∀{G}(h:G:=by
 have z:=N8 (∀{G}(h:G:=by
 have z:=N8 (∀{G}(h:G:=by
 have cO:=hide bb;have z:=N8 (∀{G}(h:G:=by
 have⟨q,ch⟩:=xH a.p;have⟨W,b8⟩:=xH (WV F g ⟨au,aG,st⟩ aX l σ);rw[<-b8.out,<-ch.out];have dy:=hide hP;have dG:=hide cy;have cM:=hide ci;have dz:=hide E;have a1:=hl.later aE;clear bb hr2 dq cE d2 hP cy ci E ds;go_enter func112,ntmps112;go_wp2_with fail;rw[<-bo.out,<-b4,<-bS];clear bS b4
 go_loopg [] aX (λk wr=>∃ (M:Option Va) (ad:St),Ms w0 mb af O wr ad/\P k ad M/\OV L mb w2 wr/\OE wr L M/\W=WV F g ⟨au,aG,st⟩ k M ad)
 case atStart=>exact⟨l,σ,cU,dy.out,OV.of QI (OO dk),a1,b8.out⟩
 case round=>
  obtain⟨M,ad,aJ,bV,ah,du,cq⟩:=hrel;obtain⟨k,rfl⟩:∃ k,gk=k+1:=by
   cases gk with
   | zero=>exact absurd bV (NZ dG _ _)
   | succ k=>exact⟨k,rfl⟩
  have⟨cj,cn⟩:=NZ cM k ad M bV;have c9:=aJ;have ag:=hide cq;have bO:=aJ.lt;have cJ:=ah.kpL a1;have cf:=hide (ah.RS a1 bq.out Ol Ol);have bK:=hide (ah.RS a1 cO.out Ol Ol);have cI:=hide (cells4 bK.out);have dO:=lt_of_heap bK.out;have dt:=cG.up.trans ah;have a6:=cR.kp cJ;have c8:=ah;have cl:=NZ dz;have⟨b7,ce,cz,dR,aN,aQ,bN,cV,dr⟩:=a6.adL cl;have⟨dT,b2⟩:=xE b7.p;have⟨dW,cw⟩:=xH ce.p
  have bF:=hide (λX (ak:Oo wr X)=>cj X b7 aC (c9.later ak) (cV.kp (Kp.of ak)));have bP:=a6.blk;have cp:=a6.akq aN;have cL:=a6.cells.1;rw[<-ch.out] at aN bP cL;rw[<-b2] at aQ bF;rw[<-cw.out] at bN
  rcases bA:F.v (Oa g 0) ⟨au,aG,st⟩ ad with ⟨⟨v1,aw⟩,I⟩
  rw[bA] at bF;have N:=hide bA;have dB:=hide cn;have ez:=hide aN;have lK:=hide aQ;have dx:=hide bN;have dp:=hide bP;have dA:=hide cp;have dS:=cell_lt aQ;clear bV cq cn cl b2 bP cp aN aQ bN bA;go_wp2_with fail;refine VG (H:=λwz vb ev=>VB w0 mb af O es wr v1 aw I wz vb ev) (G:=?GG) (λdD=>?ways) ?rest
  case ways=>
   refine S9 8 λae=>?_;have z:=N8 (∀{G}(h:G:=by
   have z:=N8 (∀{G}(h:G:=by
   refine uk4 7 cI.out ae ?_;refine uq2 8 12 (λK D=>?_) λK D=>?_
   ·have z:=N8 (∀{G}(h:G:=by
    refine uz 14 ev ?_;refine RY ?_ _;go_simp;have cj:=VB.late (v:=v1) aL aJ ((OV.of ae (OO bO)).trans ah);exact axM),G);exact asI
   ·have z:=N8 (∀{G}(h:G:=by
    have fi:aD.heap[wr.heap.size]? = some (OM #[NY 0,NY 0,Pm] 65):=ah.keep (Oi _ _) Ol;have z:=N8 (∀{G}(h:G:=by
    have z:=N8 (∀{G}(h:G:=by
    have cj:=VB.early (v:=v1) fi Pg (OO bO) aL aJ ((OV.of (PE.drew) (OO bO)).trans ah);exact aBy),G);exact aiV),G);exact asJ),G);exact asK),G);exact ao3),G);exact VZ
  case rest=>
   rintro wz vb ev d;have aW:=hide (d.fr.keep cf.out Ol);have cA:=hide (d.fr.keep bK.out Ol);have bx:=dt.trans d.fr.up;have cH:=c8.trans d.fr.up;have bJ:=du.keep d.fr;have dI:=d.er;have bR:=d.ms;have bC:=d.ms.lt;have dQ:vb≠aV:=λe=>by
    have h1:=d.vb;have U:=lt_of_heap cf.out;omega
   have⟨bm,bj,bn,bD,br,bu,bv,bQ,bZ⟩:=QK aW.out;have⟨cT,cP,cS,dg,dm,dn,df⟩:=O3 (d.v)
   by_cases ao:aw=.no
   ·subst ao;have s:ev=Qd:=d.er;subst s;have aU:=WX v1 wz;have dJ:=hide (d.fr.Ul.TK ez.out dp.out (Or.inl rfl));have dK:=hide (d.fr.Ul.TK dx.out dA.out (Or.inr rfl));have dL:=dr.kp d.fr.Ul
    cases V:v1.tru with
    | true=>
     rw[V] at aU;have⟨de,cr⟩:=NZ dB v1 I N.out V;have dv:=hide cr;have a7:=hide V;clear V cr;go_wp2_with fail;refine cm aU ?_;rintro e J ⟨rfl,f⟩;have j0:=bR.later f;have aH:=bJ.later f;have jJ:=hide (stays f aW.out);have cu:=hide (cells4 (stays f cA.out));have m0:=bx.trans (OV.of (L:=L) f (OO bC));have cB:=cH.trans (OV.of (L:=L) f (OO bC));have b5:=hide (OT f dJ.out);have b6:=hide (OT f dK.out);have bX:=j0.lt;have dX:=cu.out.2.2.2.2.2
     have dU:=cell_lt b5.out;have dV:=cell_lt b6.out;have fa:=hide (λX (ak:Oo J X)=>de X ce (j0.later ak) ((dL.kp (Kp.of f)).kp (Kp.of ak)) (aH.later ak));rw[<-kM.out,<-cw.out] at fa
     rcases be:F.s (Oa g 1) ⟨au,aG,st⟩ M I with ⟨⟨bH,bi,H⟩,B⟩
     rw[be] at fa;have aM:=hide be;clear be bm bj bn bD br bu bv bQ bZ cT cP cS dg dm dn df;go_wp2_with fail;refine VG (H:=λwz vb ev=>SB w0 mb af O es L J bH bi H B wz vb ev) (G:=?GGT) (λdD=>?aBP) ?aHI
     case aBP=>
      refine S9 8 λae=>?_;have z:=N8 (∀{G}(h:G:=by
      refine uk 4 b5.out ae ?_;refine up 5 cz 1 ae ?_;refine uk 6 b6.out ae ?_;refine uk4 7 cu.out ae ?_;refine uq2 8 12 (λK D=>?_) λK D=>?_
      ·have z:=N8 (∀{G}(h:G:=by
       refine uz 9 (.tuple #[(UD bH),ev]) ?_;refine uz 10 (UD bH) ?_;have bL:=N8 (∀{G}(h:G:=by
       have z:=N8 (∀{G}(h:G:=by
       have cj:=SB.late (o:=bH) aL aJ ((OV.of ae (OO bX)).trans ah) g3;exact axQ),G);exact aiV),G);exact ztk),G);exact ao9
      ·have bL:=N8 (∀{G}(h:G:=by
       refine cm (NZ fa _ (PE.drew)) ?_;rintro e aD ⟨⟨ev,rfl,aL⟩,aJ,ah,g3⟩;refine ko D ?_;clear D K;have fi:aD.heap[J.heap.size]? = some (OM #[Om false,NY 0,NY 0,Pm] 67):=ah.RS (aH.later (PE.drew)) (Oi _ _) Ol Ol;have⟨z0,oc,z2,d0,od,og,oh,dY,zl⟩:=QK fi;refine uz 9 (.tuple #[(UD bH),ev]) ?_;refine uz 10 (UD bH) ?_;refine uz 11 ev ?_;have z:=N8 (∀{G}(h:G:=by
       have cj:=SB.early (o:=bH) fi Pg (OO bX) aL aJ ((OV.of (PE.drew) (OO bX)).trans ah) g3
       generalize (((aD.setCell (N9 J.heap.size 0) (Om bH.ret)).setCell (N9 J.heap.size 1) (NY bH.v.k)).setCell (N9 J.heap.size 2) (NY bH.v.n)).setCell (N9 J.heap.size 3) (Oj bH.v.s)=wz at cj ⊢
       generalize J.heap.size=vb at cj ⊢
       exact dD wz vb ev cj),G);exact aiV),G);exact zts),G);exact VZ
     rintro wt dw cx r;have hs:=hide (r.fr.RS aH jJ.out Ol Ol);have i':=m0.trans r.fr;have cC:=cB.trans r.fr;have pk:=r.ms;have lM:=r.er;have bW:=r.la;have dP:=r.ms.lt;have dM:dw≠aV:=λe=>by
      have h1:=r.ob;have U:=lt_of_heap jJ.out;omega
     obtain⟨da,⟨eD,dN,eP⟩⟩:=bH;have⟨bm,bj,bn,bD,br,bu,bv,bQ,bZ⟩:=QK hs.out;have⟨cZ,cX,cY,dC,db,dc,dd,dF,c7⟩:=QK (r.o)
     cases da with
     | true=>
      by_cases gy:bi=.no
      ·subst gy;have s:cx=Qd:=r.er;subst s;have aI:W=((⟨true,⟨eD,dN,eP⟩⟩,.no,H),B):=by rw[ag.out,WV,N.out];simp only[a7.out,if_true];rw[aM.out];rfl
       have cD:=hide aI;clear aI;have z:=N8 (∀{G}(h:G:=by
       refine U8 (v:=.tuple #[UD ⟨true,⟨eD,dN,eP⟩⟩,Qd]) ?_;exact atD),G);exact asR
      ·have⟨aj,aq,s⟩:=r.er.WC gy ab;subst s;have aI:W=((⟨true,⟨eD,dN,eP⟩⟩,bi,H),B):=by
        rw[ag.out,WV,N.out];simp only[a7.out,if_true];rw[aM.out];exact awr
       have cD:=hide aI;clear aI gy;have z:=N8 (∀{G}(h:G:=by
       refine U8 (v:=.tuple #[UD ⟨true,⟨eD,dN,eP⟩⟩,.iface aj aq]) ?_;exact atD),G);exact asR
     | false=>
      by_cases gy:bi=.no
      ·subst gy;have s:cx=Qd:=r.er;subst s;have aI:W=WV F g ⟨au,aG,st⟩ k H B:=by rw[ag.out,WV,N.out];simp only[a7.out,if_true];rw[aM.out];rfl
       have cD:=hide aI;clear aI;go_wp2
       go_roundg k
       case measure=>omega
       case rel=>exact⟨H,B,pk,NZ dv _ H B aM.out,cC,bW,cD.out⟩
      ·have⟨aj,aq,s⟩:=r.er.WC gy ab;subst s;have aI:W=((⟨false,⟨eD,dN,eP⟩⟩,bi,H),B):=by
        rw[ag.out,WV,N.out];simp only[a7.out,if_true];rw[aM.out];exact awr
       have z:=N8 (∀{G}(h:G:=by
       refine U8 (v:=.tuple #[UD ⟨false,⟨eD,dN,eP⟩⟩,.iface aj aq]) ?_;exact atD),G);exact aBR
    | false=>
     rw[V] at aU;have aI:W=((Qy,.no,M),I):=by rw[ag.out,WV,N.out];simp[V]
     have cD:=hide aI;clear V aI;go_wp2_with fail;refine cm aU ?_;rintro e J ⟨rfl,f⟩;have j0:=bR.later f;have aH:=bJ.later f;have jJ:=hide (stays f aW.out);have m0:=bx.trans (OV.of (L:=L) f (OO bC));have⟨cZ,cX,cY,dC,db,dc,dd,dF,c7⟩:=QK jJ.out;clear bm bj bn bD br bu bv bQ bZ;have z:=N8 (∀{G}(h:G:=by
     exact⟨⟨_,rfl,rfl⟩,bE,bI,aH.Tv bh⟩),G);exact aBJ
   ·have⟨aj,aq,s⟩:=d.er.WC ao ab;subst s;have aI:W=((Qy,aw,M),I):=by
     rw[ag.out,WV,N.out];exact axO
    have cD:=hide aI;clear aI ao;go_wp2_with fail;have⟨b3,bz,bh,bI,bE,cK,b1,bU,ej⟩:=rt4 aW.out cQ.out bG bx bR (Om false) (NY 0) (NY 0) Pm;rw[<-bz];refine agP (v:=.tuple #[UD Qy,.iface aj aq]) ?_;rw[cD.out];exact⟨⟨_,rfl,dI.Qn bh Ol⟩,bE,bI,bJ.Tv bh⟩),G);exact UZ),G);exact zsd),G);exact Xr),G);exact zsc),G);exact zsn
def awK (ab:Zf es)(aJ:Ms w0 mb af O w σ){a:Ad}{d:Nd}(hd:OJ O w a d)(E:d.2.kids.length=2)(p:Pl){l:Option Va}(hl:OE w L l)(h1:Tt w0 mb af O es σ (Oa d 0) p (F.v (Oa d 0) p σ))
  (U:∀ o f,Sl F (Oa d 0) p σ=((o,.no),f)->Xq w0 mb af O es (f.opn p.scope o (-2)) (Oa d 1) { p with scope:=f.top } L l (F.s (Oa d 1) { p with scope:=f.top } l (f.opn p.scope o (-2)))/\Sz ba f/\(f.M.ro p.scope).isSome=true) (cq:ba<1000000000) :
  Oq 113 #[N7 mb,N7 a.p,PD p (LA L)] w (PL w0 mb af O es L w (wiQ F d p l σ)):=by
 have z:=N8 (∀{G}(h:G:=by
 have z:=N8 (∀{G}(h:G:=by
 have z:=N8 (∀{G}(h:G:=by
 have z:=N8 (∀{G}(h:G:=by
 have bR:=hide bb;have ei:=hide (cells4 bb);have z:=N8 (∀{G}(h:G:=by
 have⟨bW,bj,cz,cO,B,H,aI,fU,cu⟩:=cR.adL E;have⟨q,bm⟩:=xH a.p;have⟨cT,a7⟩:=xE bW.p;have⟨cZ,bN⟩:=xH bj.p;have z:=N8 (∀{G}(h:G:=by
 have⟨rs,V⟩:=xH (wiQ F d ⟨au,aG,st⟩ l σ);rw[<-V.out,<-bm.out];have aM:=cR.blk;have bx:=cR.akq B;rw[<-bm.out] at B ds aM;rw[<-a7] at H bF;rw[<-bN.out] at aI
 rcases aa:Sl F (Oa d 0) ⟨au,aG,st⟩ σ with ⟨⟨bH,aw⟩,f⟩
 rw[aa] at bF;have ez:=hide B;have lK:=hide H;have cx:=hide aI;have bA:=hide aM;have bK:=hide bx;have cP:=cell_lt H;have W:=hide aa;have cn:=hide U;have cj:=hl.later aE;have sv:=hide dq;have tI:=hide d2;clear bb hr2 aa h1 dq cE d2 B H aI a7 U aM bx;go_enter func113,ntmps113;have z:=N8 (∀{G}(h:G:=by
 have z:=N8 (∀{G}(h:G:=by
 have z:=N8 (∀{G}(h:G:=by
 have be:=hide (mB.keep bR.out Ol);have bn:=cG.trans mB;have br:=cj.keep mB;have cD:=hide (mB.Ul.TK ez.out bA.out (Or.inl rfl));have cL:=hide (mB.Ul.TK cx.out bK.out (Or.inr rfl));have bO:Hid (∃ c,wz.heap[q]? = some (OM c 40)):=by have⟨c,r⟩:=NZ bA;exact⟨c,mB.Ul _ _ _ r (Or.inl rfl)⟩
 have bP:Hid (∃ c,wz.heap[cz]? = some (OM c 22)):=by have⟨c,r⟩:=NZ bK;exact⟨c,mB.Ul _ _ _ r (Or.inr rfl)⟩
 have cM:=cu.kp mB.Ul;have cS:=hc.lt;have⟨bZ,bX,b5,ch,b7,b8,ce,cw,cB⟩:=QK ed.out
 by_cases ao:aw=.no
 ·subst ao;have ad:ev=Qd:=aL;subst ad;have⟨cr,bV,bJ⟩:=NZ cn bH f W.out;have⟨e2,J⟩:=xE (f.top:Int);have⟨N,I⟩:=xE (f.opn au bH (-2));have b6:Oq 50 #[N7 mb,NY au,NY bH,NY (-2)] wz λe w'=>e=OA (NY e2)/\Ms w0 mb af O w' N/\OV none mb wz w':=by
   have⟨_,_,_,_,aN⟩:=id hc;refine(YZ aN bV cq au bH (-2) bJ).mono ?_;rintro e w' ⟨rfl,aX,aW,aQ⟩;rw[J,I];exact⟨rfl,⟨_,_,_,_,aW⟩,aQ.frL aN⟩
  have s:rs=F.s (Oa d 1) ⟨e2,aG,st⟩ l N:=by rw[V.out];unfold wiQ;rw[W.out,J,I]
  have cf:Xq w0 mb af O es N (Oa d 1) ⟨e2,aG,st⟩ L l rs:=by
   show Xq _ _ _ _ _ _ _ _ _ _ _
   rw[s,J,I];exact cr
  have⟨M,aU,aj,ag,_,aH⟩:=cells4 be.out;clear bJ J I s bZ bX b5 ch b7 b8 ce cw cB;go_simp;go_wp2_with fail;refine cm b6 ?_;rintro e aq ⟨rfl,ci,g⟩;have fk:=hide (g.keep be.out Ol);have dg:=hide (g.keep ed.out Ol);have cI:=br.keep g;have b2:=bn.trans g;have cA:=hide (g.Ul.TK cD.out bO.out (Or.inl rfl));have cH:=hide (g.Ul.TK cL.out bP.out (Or.inr rfl));have cC:Hid (∃ c,aq.heap[q]? = some (OM c 40)):=by have⟨c,r⟩:=NZ bO;exact⟨c,g.Ul _ _ _ r (Or.inl rfl)⟩
  have cJ:Hid (∃ c,aq.heap[cz]? = some (OM c 22)):=by have⟨c,r⟩:=NZ bP;exact⟨c,g.Ul _ _ _ r (Or.inr rfl)⟩
  have bQ:=cM.kp g.Ul;clear M aU aj ag aH;have⟨M,aU,aj,ag,bv,aH⟩:=cells4 fk.out;have cy:=bv 0;clear bv;go_wp2_with fail;have bL:=N8 (∀{G}(h:G:=by
  have aQ:Kp aq (aq.setCell (N9 bc 0) (NY e2)):=λb c e A ao=>lu.rest b c e A (by rcases ao with rfl|rfl <;> decide);have aN:=ci.YC lu Ol;have aX:=hide (cells4 (Yu fk.out (NY e2)));have cl:Hid (bD.heap[aV]? = some (OM #[Om false,NY 0,NY 0,Pm] 67)):=asv
  have bu:=b2.newT lu (ZA sv.out _);have aW:=cI.Tv lu;have a1:=hide (aQ.TK cA.out cC.out (Or.inl rfl));have a6:=hide (aQ.TK cH.out cJ.out (Or.inr rfl));have bi:=bQ.kp aQ;rw[<-fH] at aN aX bu aW a1 a6 bi ⊢;have fa:=hide (λX (ak:Oo bD X)=>cf X bj (aN.later ak) (bi.kp (Kp.of ak)) (aW.later ak));rw[<-kM.out,<-bN.out] at fa;have cp:=aN.lt;have cV:=aX.out.2.2.2.2.2;have cY:=cell_lt a1.out;have cX:=cell_lt a6.out;clear fH M aU aj ag aH cy;refine S9 8 λae=>?_
  have z:=N8 (∀{G}(h:G:=by
  refine uk 4 a1.out ae ?_;refine up 5 cz 1 ae ?_;refine uk 6 a6.out ae ?_;refine uk4 7 aX.out ae ?_;refine PS 8 λK D=>?_;have z:=N8 (∀{G}(h:G:=by
  have bC:=(OV.of (L:=L) ae (OO cp)).trans ah;have dz:=hide (bC.RS aW cl.out Ol Ol);have fj:=bu.up.trans bC;exact awI),G);exact ao9),G);exact VZ),G);exact aBO
 ·have⟨I,J,ad⟩:=aL.WC ao ab;subst ad;have s:rs=((Qy,aw,l),f):=by
   rw[V.out];unfold wiQ;rw[W.out];exact axO
  have g:=hide s;clear ao s;go_simp;go_wp2_with fail;have⟨b3,bz,bh,bI,bE,cK,b1,bU,ej⟩:=rt4 ed.out cQ.out bG bn hc (Om false) (NY 0) (NY 0) Pm;rw[<-bz];refine agP (v:=.tuple #[UD Qy,.iface I J]) ?_;rw[g.out];exact⟨⟨_,rfl,tB.Qn bh Ol⟩,bE,bI.up,br.Tv bh⟩),G);exact awm),G);exact VZ),G);exact asC),G);exact awn),G);exact UZ),G);exact zsd),G);exact Xr),G);exact zsc),G);exact zsn
variable {a:Nd}{b:Pl}{c:Option Va}{d:Nat}
def ae5 (e:¬ σ.steps<20000):YB F a b σ=((vU,.stop),σ.step):=if_pos (show 20000<σ.steps+1 by omega)
def ae6 (e:¬ σ.steps<20000):stF F d a b c σ=((Qy,.stop,c),σ.step):=if_pos (show 20000<σ.steps+1 by omega)
section
variable (A:σ.steps<20000)
include A
def akx (E:a.2.kd=17):YB F a b σ=((V7 a.2.n,.no),σ.step):=by
 obtain⟨no,e,i,g,f⟩:=a;change e=17 at E;exact Vw
def ag8 (E:a.2.kd=18):YB F a b σ=((VD a.2.tx,.no),σ.step):=by
 obtain⟨no,e,i,g,f⟩:=a;change e=18 at E;exact Vw
def aky (E:a.2.kd=19):YB F a b σ=((PX true,.no),σ.step):=by
 obtain⟨no,e,i,g,f⟩:=a;change e=19 at E;exact Vw
def akz (E:a.2.kd=20):YB F a b σ=((PX false,.no),σ.step):=by
 obtain⟨no,e,i,g,f⟩:=a;change e=20 at E;exact Vw
def akA (E:a.2.kd=21):YB F a b σ=((agD,.no),σ.step):=by
 obtain⟨no,e,i,g,f⟩:=a;change e=21 at E;exact Vw
def akB (E:a.2.kd=23):YB F a b σ=adJ a b σ.step:=by
 obtain⟨no,e,i,g,f⟩:=a;change e=23 at E;exact Vw
def akC (E:a.2.kd=24):YB F a b σ=aeA F a b σ.step:=by
 obtain⟨no,e,i,g,f⟩:=a;change e=24 at E;exact Vw
def akD (E:a.2.kd=25):YB F a b σ=Zw F a b σ.step:=by
 obtain⟨no,e,i,g,f⟩:=a;change e=25 at E;exact Vw
def akE (E:a.2.kd=26):YB F a b σ=Zw F a b σ.step:=by
 obtain⟨no,e,i,g,f⟩:=a;change e=26 at E;exact Vw
def akF (E:a.2.kd=27):YB F a b σ=YF F a b σ.step:=by
 obtain⟨no,e,i,g,f⟩:=a;change e=27 at E;exact Vw
def akG (E:a.2.kd=28):YB F a b σ=YF F a b σ.step:=by
 obtain⟨no,e,i,g,f⟩:=a;change e=28 at E;exact Vw
def akH (E:a.2.kd=29):YB F a b σ=YF F a b σ.step:=by
 obtain⟨no,e,i,g,f⟩:=a;change e=29 at E;exact Vw
def akI (E:a.2.kd=30):YB F a b σ=YF F a b σ.step:=by
 obtain⟨no,e,i,g,f⟩:=a;change e=30 at E;exact Vw
def akJ (E:a.2.kd=31):YB F a b σ=YF F a b σ.step:=by
 obtain⟨no,e,i,g,f⟩:=a;change e=31 at E;exact Vw
def akK (E:a.2.kd=32):YB F a b σ=aiP F a b σ.step:=by
 obtain⟨no,e,i,g,f⟩:=a;change e=32 at E;exact Vw
def akL (E:a.2.kd=33):YB F a b σ=ac7 F a b σ.step:=by
 obtain⟨no,e,i,g,f⟩:=a;change e=33 at E;exact Vw
def akM (E:a.2.kd=34):YB F a b σ=Zt F a b σ.step:=by
 obtain⟨no,e,i,g,f⟩:=a;change e=34 at E;exact Vw
def akN (E:a.2.kd=35):YB F a b σ=XF F a b σ.step:=by
 obtain⟨no,e,i,g,f⟩:=a;change e=35 at E;exact Vw
def akO (E:a.2.kd=36):YB F a b σ=aiQ F a b σ.step:=by
 obtain⟨no,e,i,g,f⟩:=a;change e=36 at E;exact Vw
def akP (E:a.2.kd=37):YB F a b σ=(((Uz a b σ.step).1,.no),(Uz a b σ.step).2):=by
 obtain⟨no,e,i,g,f⟩:=a;change e=37 at E;exact Vw
def akQ (E:a.2.kd=38):YB F a b σ=Xp F b σ.step.M.objs.length (Px a) { σ.step with M:=σ.step.M.OY 0 }:=by
 obtain⟨no,e,i,g,f⟩:=a;change e=38 at E;exact Vw
def atd (E:a.2.kd=2):stF F d a b c σ=if a.2.kids.length=0 then ((Qy,.no,c),σ.step) else ((Qy,(avQ F a b σ.step).1,c),(avQ F a b σ.step).2):=by
 obtain⟨no,j,m,l,g⟩:=a;change j=2 at E;have z:=N8 (∀{G}(h:G:=by
 by_cases e:g.length=0
 ·exact(if_pos e).trans (if_pos e).symm
 ·refine((if_neg e).trans ?_).trans (if_neg e).symm;unfold avQ
  show (match F.v _ b σ.step with | ((n,.no),i)=>_ | ((_,f),i)=>_)=_
  rcases F.v (Oa (no,.mk 2 m l g) 0) b σ.step with ⟨⟨n,f⟩,i⟩
  cases f <;> rfl),G);exact ajw
def axi (E:a.2.kd=3):stF F d a b c σ=((Qy,(Zx a b (Tq F (Px a) b σ.step)).1,c),(Zx a b (Tq F (Px a) b σ.step)).2):=by
 obtain⟨no,g,l,j,i⟩:=a;change g=3 at E;have z:=N8 (∀{G}(h:G:=by
 show (match Tq F _ b σ.step with | ((m,.no),f)=>_ | ((_,e),f)=>_)=_
 rcases Tq F (Px (no,.mk 3 l j i)) b σ.step with ⟨⟨m,e⟩,f⟩
 cases e <;> rfl),G);exact ajw
def axj (E:a.2.kd=4):stF F d a b c σ=((Qy,(Zx a b (Tq F (Px a) b σ.step)).1,c),(Zx a b (Tq F (Px a) b σ.step)).2):=by
 obtain⟨no,g,l,j,i⟩:=a;change g=4 at E;have z:=N8 (∀{G}(h:G:=by
 show (match Tq F _ b σ.step with | ((m,.no),f)=>_ | ((_,e),f)=>_)=_
 rcases Tq F (Px (no,.mk 4 l j i)) b σ.step with ⟨⟨m,e⟩,f⟩
 cases e <;> rfl),G);exact ajw
def ate (E:a.2.kd=6):stF F d a b c σ=Qm F (Ph a b σ.step).1 (Px a) c (Ph a b σ.step).2:=by
 obtain⟨no,e,i,g,f⟩:=a;change e=6 at E;exact Vw
def atg (E:a.2.kd=7):stF F d a b c σ=chQ F a b c σ.step:=by
 obtain⟨no,e,i,g,f⟩:=a;change e=7 at E;exact Vw
def ath (E:a.2.kd=8):stF F d a b c σ=WV F a b d c σ.step:=by
 obtain⟨no,e,i,g,f⟩:=a;change e=8 at E;exact Vw
def ati (E:a.2.kd=9):stF F d a b c σ=wiQ F a b c σ.step:=by
 obtain⟨no,e,i,g,f⟩:=a;change e=9 at E;exact Vw
def akS (E:a.2.kd=10):stF F d a b c σ=((⟨as2 (Tq F (Px a) b σ.step).1.2,(Tq F (Px a) b σ.step).1.1⟩,(Tq F (Px a) b σ.step).1.2,c),(Tq F (Px a) b σ.step).2):=by
 obtain⟨no,i,m,l,j⟩:=a;change i=10 at E;have z:=N8 (∀{G}(h:G:=by
 show (match Tq F _ b σ.step with | ((f,.no),g)=>_ | ((f,e),g)=>_)=_
 rcases Tq F (Px (no,.mk 10 m l j)) b σ.step with ⟨⟨f,e⟩,g⟩
 cases e <;> rfl),G);exact ajw
def apB (E:a.2.kd=11):stF F d a b c σ=((Qy,(ami (F.v (Oa a 0) b σ.step)).1,c),(ami (F.v (Oa a 0) b σ.step)).2):=by
 obtain⟨no,g,l,j,i⟩:=a;change g=11 at E;have z:=N8 (∀{G}(h:G:=by
 show (match F.v _ b σ.step with | ((m,.no),f)=>_ | ((_,e),f)=>_)=_
 rcases F.v (Oa (no,.mk 11 l j i) 0) b σ.step with ⟨⟨m,e⟩,f⟩
 cases e <;> rfl),G);exact ajw
def auY (E:a.2.kd=12):stF F d a b c σ=aad F b (Px a).tail (F.s (Oa a 0) b c σ.step).1.1 (F.s (Oa a 0) b c σ.step).1.2.1 (F.s (Oa a 0) b c σ.step).1.2.2 (F.s (Oa a 0) b c σ.step).2:=by
 obtain⟨no,e,i,g,f⟩:=a;change e=12 at E;exact Vw
def ag9 (E:a.2.kd=15):stF F d a b c σ=((Qy,(aeL c (F.v (Oa a 0) b σ.step)).1.1,(aeL c (F.v (Oa a 0) b σ.step)).1.2),(aeL c (F.v (Oa a 0) b σ.step)).2):=by
 obtain⟨no,g,l,j,i⟩:=a;change g=15 at E;have z:=N8 (∀{G}(h:G:=by
 show (match F.v _ b σ.step with | ((m,.no),f)=>_ | ((_,e),f)=>_)=_
 rcases F.v (Oa (no,.mk 15 l j i) 0) b σ.step with ⟨⟨m,e⟩,f⟩
 cases e <;> rfl),G);exact ajw
def akR (e:a.2.kd≠17/\a.2.kd≠18/\a.2.kd≠19/\a.2.kd≠20/\a.2.kd≠21/\a.2.kd≠23/\a.2.kd≠24/\a.2.kd≠25/\a.2.kd≠26/\a.2.kd≠27/\a.2.kd≠28/\a.2.kd≠29/\a.2.kd≠30/\a.2.kd≠31/\a.2.kd≠32/\a.2.kd≠33/\a.2.kd≠34/\a.2.kd≠35/\a.2.kd≠36/\a.2.kd≠37/\a.2.kd≠38):YB F a b σ=((vU,.no),σ.step):=by
 obtain⟨f,s,g,t,i,p,j,k,l,z,D,B,E,C,u,r,m,v,q,n,o⟩:=e;refine(if_neg (show ¬ 20000<σ.steps+1 by omega)).trans ?_;refine(if_neg f).trans ?_;refine(if_neg s).trans ?_;refine(if_neg (λh=>h.elim g t)).trans ?_;refine(if_neg i).trans ?_;refine(if_neg p).trans ?_;refine(if_neg j).trans ?_;refine(if_neg (λh=>h.elim k l)).trans ?_;refine(if_neg (λh=>by omega)).trans ?_;refine(if_neg u).trans ?_;refine(if_neg r).trans ?_;refine(if_neg m).trans ?_
 refine(if_neg v).trans ?_;refine(if_neg q).trans ?_;refine(if_neg n).trans ?_;refine(if_neg o).trans ?_;rfl
def adQ (e:a.2.kd≠2/\a.2.kd≠3/\a.2.kd≠4/\a.2.kd≠6/\a.2.kd≠7/\a.2.kd≠8/\a.2.kd≠9/\a.2.kd≠10/\a.2.kd≠11/\a.2.kd≠12/\a.2.kd≠15):stF F d a b c σ=((Qy,.no,c),σ.step):=by
 obtain⟨f,i,g,j,l,m,n,p,q,k,o⟩:=e;refine(if_neg (show ¬ 20000<σ.steps+1 by omega)).trans ?_;refine(if_neg f).trans ?_;refine(if_neg (λh=>h.elim i g)).trans ?_;refine(if_neg j).trans ?_;refine(if_neg l).trans ?_;refine(if_neg m).trans ?_;refine(if_neg n).trans ?_;refine(if_neg p).trans ?_;refine(if_neg q).trans ?_;refine(if_neg k).trans ?_;refine(if_neg o).trans ?_;rfl
end
end
section
variable {a:Nd} (h:Nk 0 a.2)
include a h
def Nk.Xb (c:24<=a.2.kd/\a.2.kd<=36):Nk 0 (Oa a 0).2/\1<=a.2.kids.length:=by
 obtain⟨no,f⟩:=a;have d:=h.sh;simp only at d c h
 cases d with
 | anG _ b=>exact⟨h.kid List.mem_cons_self b,Pg⟩
 | call b _ _=>exact⟨h.kid List.mem_cons_self b,by show 1<=(_::_).length;simp⟩
 | one _ b=>exact⟨h.kid List.mem_cons_self b,Pg⟩
 | two _ b _=>exact⟨h.kid List.mem_cons_self b,by show 1<=2;omega⟩
 | Zj _ b _=>exact⟨h.kid List.mem_cons_self b,by show 1<=2;omega⟩
 | lit e=>simp only[Tr.kd] at c;omega
 | _=>simp only[Tr.kd] at c;omega
def Nk.ajd (b:24<=a.2.kd/\a.2.kd<=31):Nk 0 (Oa a 1).2/\a.2.kids.length=2:=by
 obtain⟨no,f⟩:=a;have d:=h.sh;simp only at d b h
 cases d with
 | two _ _ c=>exact⟨h.kid (List.mem_cons_of_mem _ List.mem_cons_self) c,rfl⟩
 | Zj _ _ c=>exact⟨h.kid (List.mem_cons_of_mem _ List.mem_cons_self) c,rfl⟩
 | lit e=>simp only[Tr.kd] at b;omega
 | one e=>simp only[Tr.kd] at b;omega
 | _=>simp only[Tr.kd] at b;omega
def Nk.one1 (b:32<=a.2.kd/\a.2.kd<=36/\a.2.kd≠35):a.2.kids.length=1:=by
 obtain⟨no,f⟩:=a;have c:=h.sh;simp only at c b h
 cases c with
 | anG _ d=>rfl
 | one _ d=>rfl
 | lit e=>simp only[Tr.kd] at b;omega
 | two e=>simp only[Tr.kd] at b;omega
 | _=>simp only[Tr.kd] at b;omega
def Nk.lam (b:a.2.kd=37):Fg a.2:=by
 refine⟨h.ct,h.nb,?_⟩;obtain⟨no,g⟩:=a;have c:=h.sh;simp only at c b h
 cases c with
 | lam _ f e=>exact⟨_,_,_,_,_,rfl,f,e⟩
 | lit d=>simp only[Tr.kd] at b;omega
 | one d=>simp only[Tr.kd] at b;omega
 | two d=>simp only[Tr.kd] at b;omega
 | _=>cases b
def Nk.obj (b:a.2.kd=38):(∀ e ∈ Px a,Nk 0 (Oa e 0).2/\e.2.kids.length=1)/\a.2.kids.length<=8:=by
 obtain⟨no,l⟩:=a;have d:=h.sh;simp only at d b h
 cases d with
 | obj d j=>
  refine⟨λe b=>?_,j⟩;have g:=Qh b;have c:=d _ g;have f:=h.kid g c;obtain⟨k,m⟩:=e;simp only at c f
  cases c with
  | prop _ i=>exact⟨f.kid List.mem_cons_self i,rfl⟩
 | lit c=>simp only[Tr.kd] at b;omega
 | one c=>simp only[Tr.kd] at b;omega
 | two c=>simp only[Tr.kd] at b;omega
 | _=>cases b
end
def Nk.num {c:Tr}(h:Nk 0 c)(a:c.kd=17):Nb c.n:=by
 have d:=h.sh
 cases d with
 | num b=>exact b
 | lit b=>simp only[Tr.kd] at a;omega
 | one b=>simp only[Tr.kd] at a;omega
 | two b=>simp only[Tr.kd] at a;omega
 | _=>cases a
def Nk.str {c:Tr}(h:Nk 0 c)(a:c.kd=18):Sm c.tx:=by
 have d:=h.sh
 cases d with
 | str b=>exact b
 | lit b=>simp only[Tr.kd] at a;omega
 | one b=>simp only[Tr.kd] at a;omega
 | two b=>simp only[Tr.kd] at a;omega
 | _=>cases a
section
variable {q aj:Int} {e p ag:St} {v:Va} {j:Er} {s:Nat} {g:Pl} {k:Fx} {d:Nd} {aq ak:Option Va} {o:Oc}
def Ex.step (e:St):Ex e e.step:=⟨Pg,Pg,rfl,Nat.le_succ _,λ_ _ x=>x,List.prefix_rfl⟩
def Iv.step (h:Iv q e):Iv (q - 10000) e.step:=by
 obtain⟨b,a,c⟩:=h.pz;exact⟨⟨b,⟨a.go,a.ow,a.fn,a.lg,a.se,a.oe⟩,by show (b:Int)<=q - 10000+10000 * ((e.steps+1:Nat):Int);push_cast;omega⟩,h.gm,h.fn,h.ca,h.lr,h.lo⟩
def Q.step (h:Q (s+1) q g e)(a:¬ 20000<e.step.steps):Q s (q - 10000) g e.step:=⟨by have:=h.fu;show 20001<e.steps+1+s;omega,by omega,h.iv.step,h.po⟩
section
variable (t:FI k s) (h:Q s q g e) (u:Nk 0 d.2)
include t h u
def ayq (H:d.2.kd=24):VO (q+10) e (aeA k d g e):=by
 have C:=(u.Xb Oe).1;have A:=(u.ajd Oe).1;unfold aeA;simp only
 split
 ·rename_i I
  have f:=(t.v h (C.Xb Oe).1).1
  rcases aa:k.v (Oa (Oa d 0) 0) g e with ⟨⟨E,j⟩,p⟩
  rw[aa] at f
  cases j with
  | no=>
   simp only;have l:=(t.v (h.next f) A).1
   rcases D:k.v (Oa d 1) g p with ⟨⟨v,j⟩,ag⟩
   rw[D] at l;have B:=(f.va).up l.ex.ob;have r:=f.ex.trans l.ex
   cases j with
   | no=>
    simp only
    split
    ·exact⟨l.iv.up Oe,r,⟨l.er,gvT smT⟩,Vs _⟩
    ·rename_i z
     have F:=B.r (by simpa using z);have m:=l.iv.put l.va E.n (Oa d 0).2.tx false;refine⟨m.iv.up Oe,r.trans m.ex,?_,l.va.up m.ex.ob⟩;rw[aqv F];exact l.er
   | _=>exact⟨l.iv.up Oe,r,l.er,Vs _⟩
  | _=>exact⟨f.iv.up Oe,f.ex,f.er,Vs _⟩
 ·have l:=h.iv.look (Oa d 0) g;have f:=(t.v (h.nx l) A).1
  rcases aa:k.v (Oa d 1) g (look (Oa d 0) g e).2 with ⟨⟨v,j⟩,p⟩
  rw[aa] at f;have r:=l.ex.trans f.ex
  cases j with
  | no=>
   simp only;have⟨z,m,B⟩:=aqx f.iv f.er f.va (look (Oa d 0) g e).1 (Oa d 0).2.tx g.strict;exact⟨z.up Oe,r.trans m,B,f.va.up m.ob⟩
  | _=>exact⟨f.iv.up Oe,r,f.er,Vs _⟩
def ayr (A:d.2.kd=34):VO (q+10) e (Zt k d g e):=by
 have z:=(u.Xb Oe).1;unfold Zt;simp only
 split
 ·have f:=h.iv.drop (e.M.find g.scope (Oa d 0).2.tx) (Oa d 0).2.tx;exact .ret (f.up Oe) h.st (gvB _ _)
 ·split
  ·have⟨r,l,m,B⟩:=aal t h (d:=Oa (Oa d 0) 0) (z.Xb Oe).1
   rcases aa:Sl k (Oa (Oa d 0) 0) g e with ⟨⟨o,j⟩,p⟩
   rw[aa] at r l m
   cases j with
   | no=>
    simp only;have f:=r.cut o (Oa d 0).2.tx
    split
    ·exact⟨f.iv.up Oe,l.trans f.ex,⟨m,gvT smT⟩,Vs _⟩
    ·exact⟨f.iv.up Oe,l.trans f.ex,m,gvB _ _⟩
   | _=>exact⟨r.up Oe,l,m,Vs _⟩
  ·have f:=(t.v h z).1
   rcases aa:k.v (Oa d 0) g e with ⟨⟨v,j⟩,p⟩
   rw[aa] at f
   cases j with
   | no=>exact⟨f.iv.up Oe,f.ex,f.er,gvB _ _⟩
   | _=>exact⟨f.iv.up Oe,f.ex,f.er,Vs _⟩
end
def Nk.adL {d:Nd}(i:Nk 0 d.2)(r:27<=d.2.kd/\d.2.kd<=31):∀ x ∈ Px d,Nk 0 x.2:=λx m=>by
 have b:=i.ajd Oe;have n:=i.Xb Oe;have l:=Qh m;have⟨a,f,j⟩:=List.getElem_of_mem l;have c:=V3 d a;rw[List.getD_eq_getElem?_getD,List.getElem?_eq_getElem f,j] at c;rw[b.2] at f;rw[show x.2=(Oa d a).2 from c.symm]
 rcases a with _|_|a
 ·exact n.1
 ·exact b.1
 ·omega
def ays (n:FI k s)(h:Q s q g e)(u:Nk 0 d.2)(l:27<=d.2.kd/\d.2.kd<=31):VO q e (YF k d g e):=by
 have a:=ab7 n (Px d) [] h (u.adL l) (λ_ h=>by cases h);unfold YF
 rcases m:Tn k g (Px d) [] e with ⟨⟨i,j⟩,p⟩
 rw[m] at a
 rcases i with _|⟨c,_|⟨f,i⟩⟩
 ·exact⟨a.iv,a.ex,a.er,Vs _⟩
 ·exact⟨a.iv,a.ex,a.er,Vs _⟩
 ·
  cases j with
  | no=>
   have⟨r,b⟩:=auh p.M.objs.length p.M d.2.kd c f;refine⟨a.iv,a.ex,?_,r⟩
   show Eo p (UO p.M d.2.kd c f).2
   rcases b with b|⟨w,b,t⟩
   ·rw[b];exact a.er
   ·rw[b];exact⟨a.er,gvT t⟩
  | _=>exact⟨a.iv,a.ex,a.er,Vs _⟩
def aFq (r:FI k s)(h:Q (s+1) q g e)(m:Nk 0 d.2):VO q e (YB k d g e)/\e.steps<(YB k d g e).2.steps:=by
 suffices H:VO q e.step (YB k d g e) from ⟨H.after (Ex.step e),H.ex.st⟩
 by_cases ab:e.steps<20000
 ·have f:=h.step (show ¬ 20000<e.steps+1 by omega);have t:=(Nx.refl f.iv).up (show q - 10000<=q by omega)
  by_cases M:d.2.kd=17
  ·rw[akx ab M];exact .ret t f.st (gvN (m.num M))
  by_cases N:d.2.kd=18
  ·rw[ag8 ab N];exact .ret t f.st (gvT (m.str N))
  by_cases W:d.2.kd=19
  ·rw[aky ab W];exact .ret t f.st (gvB _ _)
  by_cases X:d.2.kd=20
  ·rw[akz ab X];exact .ret t f.st (gvB _ _)
  by_cases Y:d.2.kd=21
  ·rw[akA ab Y];exact .ret t f.st ⟨λ_=>by decide,sm0,λj=>by cases j⟩
  by_cases T:d.2.kd=23
  ·rw[akB ab T];have u:=f.iv.look d g;unfold adJ;simp only
   split
   ·exact .ret (u.up Oe) f.st (aug u.iv.gm _ _)
   ·exact .bad (u.up Oe) f.st smR
  by_cases E:d.2.kd=24
  ·rw[akC ab E];exact(ayq r f m E).up Oe
  by_cases V:d.2.kd=25\/d.2.kd=26
  ·have j:YB k d g e=Zw k d g e.step:=by rcases V with z|z;exact akD ab z;exact akE ab z
   rw[j];have l:=(r.v f (m.Xb Oe).1).1;unfold Zw
   rcases aa:k.v (Oa d 0) g e.step with ⟨⟨v,j⟩,p⟩
   rw[aa] at l
   cases j with
   | no=>
    simp only
    split
    ·exact l.up Oe
    ·exact((r.v (f.next l) (m.ajd Oe).1).1.after l.ex).up Oe
   | _=>exact l.up Oe
  by_cases R:27<=d.2.kd/\d.2.kd<=31
  ·have j:YB k d g e=YF k d g e.step:=by
    obtain h|h|h|h|h:d.2.kd=27\/d.2.kd=28\/d.2.kd=29\/d.2.kd=30\/d.2.kd=31:=Oe
    ·exact akF ab h
    ·exact akG ab h
    ·exact akH ab h
    ·exact akI ab h
    ·exact akJ ab h
   rw[j];exact(ays r f m R).up Oe
  by_cases ad:d.2.kd=32
  ·rw[akK ab ad];have l:=(r.v f (m.Xb Oe).1).1;unfold aiP
   rcases aa:k.v (Oa d 0) g e.step with ⟨⟨v,j⟩,p⟩
   rw[aa] at l
   cases j with
   | no=>exact⟨l.iv.up Oe,l.ex,l.er,gvB _ _⟩
   | _=>exact l.err.up Oe
  by_cases ae:d.2.kd=33
  ·rw[akL ab ae];have l:=(r.v f (m.Xb Oe).1).1;unfold ac7
   split
   ·exact .ret t f.st (gvT Ol)
   ·rcases aa:k.v (Oa d 0) g e.step with ⟨⟨v,j⟩,p⟩
    rw[aa] at l
    cases j with
    | no=>exact⟨l.iv.up Oe,l.ex,l.er,gvT (aui _ _)⟩
    | _=>exact l.err.up Oe
  by_cases F:d.2.kd=34
  ·rw[akM ab F];exact(ayr r f m F).up Oe
  by_cases I:d.2.kd=35
  ·rw[akN ab I];exact(auk r f m I).up Oe
  by_cases U:d.2.kd=36
  ·rw[akO ab U];have⟨A,B,C,_⟩:=aal r f (d:=Oa d 0) (m.Xb Oe).1;unfold aiQ
   rcases aa:Sl k (Oa d 0) g e.step with ⟨⟨o,j⟩,p⟩
   rw[aa] at A B C
   cases j with
   | no=>
    refine⟨A.up Oe,B,C,?_⟩
    show Gv _ (((p.M.prop o d.2.tx).map Pr.v).getD vU)
    cases O:p.M.prop o d.2.tx with
    | none=>exact Vs _
    | some ah=>exact ak7 A.gm O
   | _=>exact⟨A.up Oe,B,C,Vs _⟩
  by_cases J:d.2.kd=37
  ·rw[akP ab J];have⟨u,D⟩:=f.iv.lam (m.lam J) f.po;exact .ret (u.up Oe) f.st D
  by_cases L:d.2.kd=38
  ·rw[akQ ab L];have⟨u,D⟩:=m.obj L;have A:=f.iv.OY (c:=0) Oe;have C:=aqz r e.step.M.objs.length (Px d) (f.nx A) ⟨by omega,by simp[Mo.OY];omega⟩ (λz B=>(u z B).1)
   exact(VO.after A.ex C).up (by rw[RG];omega)
  rw[akR ab Oe];exact .ret t f.st (Vs _)
 ·rw[ae5 ab];have:=h.st;exact⟨h.iv.step.up Oe,Ex.refl _,by show e.steps+1=20001;omega,Vs _⟩
end
inductive Sk (d:Nd):Prop
 | decl (E:d.2.kd=2\/d.2.kd=3\/d.2.kd=4) (hl:d.2.kids.length<=1) (ab:∀ k ∈ Px d,Nk 0 k.2)
 | func (E:d.2.kd=5)|empty (E:d.2.kd=16)
 | blk (E:d.2.kd=6) (A:Bk d.2)
 | sif (E:d.2.kd=7) (hl:d.2.kids.length=2\/d.2.kids.length=3) (h0:Nk 0 (Oa d 0).2) (h1:Nk 1 (Oa d 1).2) (bT:Pj (Oa d 1).2=false) (U:d.2.kids.length=3->Nk 1 (Oa d 2).2/\Pj (Oa d 2).2=false)
 | loop (E:d.2.kd=8\/d.2.kd=9) (hl:d.2.kids.length=2) (h0:Nk 0 (Oa d 0).2) (h1:Nk 1 (Oa d 1).2) (bT:Pj (Oa d 1).2=false)
 | give (E:d.2.kd=10) (hl:d.2.kids.length<=1) (ab:∀ k ∈ Px d,Nk 0 k.2)
 | one (E:d.2.kd=11\/d.2.kd=15) (hl:d.2.kids.length=1) (h0:Nk 0 (Oa d 0).2)
 | atm (E:d.2.kd=12) (hl:2<=d.2.kids.length/\d.2.kids.length<=3) (h0:Nk 1 (Oa d 0).2) (dl:Pj (Oa d 0).2=false) (ab:∀ k ∈ (Px d).tail,(k.2.kd=13\/k.2.kd=14)/\k.2.kids.length=1/\Nk 1 (Oa k 0).2/\Pj (Oa k 0).2=false)
def Nk.ayt {a:Tr}(h:Nk 3 a):Nk 1 a/\Pj a=false:=by
 have b:=h.sh;refine⟨⟨.ah7 h.sh,h.ct,h.nb⟩,?_⟩
 cases b with
 | blk _=>rfl
def afn {a:Tr}(h:WI a=false):Pj a=false:=by
 unfold WI at h;unfold Pj
 revert h
 cases a.kd==3 <;> cases a.kd==4 <;> simp
def Nk.sk {s:Nd}(h:Nk 1 s.2):Sk s:=by
 have o:=(ZB h.nb).2;obtain⟨no,v⟩:=s;have i:=h.sh;simp only at i h o;have c:∀ {e:Nat} {f:Tr},f ∈ v.kids->Rk Sm Sm Nb e f->Nk e f:=λg a=>h.kid g a
 cases i with
 | decl a _ d p _=>exact .decl a p λf a=>c (Qh a) (d _ (Qh a))
 | func _ _ _=>exact .func rfl
 | ah7 l=>
  have m:Nk 3 v:=⟨l,h.ct,h.nb⟩;refine .blk ?_ (m.bk Oe)
  cases l with
  | blk _=>rfl
 | @sif k b d i=>
  have j:b ∈ [k,b]:=List.mem_cons_of_mem _ List.mem_cons_self;exact .sif rfl (.inl rfl) (c List.mem_cons_self d) (c j i) (afn (o (.inl rfl) _ j)) (λl=>by cases l)
 | @arF k b e d i m=>
  have j:b ∈ [k,b,e]:=List.mem_cons_of_mem _ List.mem_cons_self;have l:e ∈ [k,b,e]:=List.mem_cons_of_mem _ (List.mem_cons_of_mem _ List.mem_cons_self);exact .sif rfl (.inr rfl) (c List.mem_cons_self d) (c j i) (afn (o (.inl rfl) _ j)) (λ_=>⟨c l m,afn (o (.inl rfl) _ l)⟩)
 | @loop C k b a d i=>
  have j:b ∈ [k,b]:=List.mem_cons_of_mem _ List.mem_cons_self;exact .loop a rfl (c List.mem_cons_self d) (c j i) (afn (o (.inr a) _ j))
 | @give C l a d p q=>
  rcases a with rfl|rfl
  ·exact .give rfl p λf a=>c (Qh a) (d _ (Qh a))
  ·have:=q rfl
   rcases l with _|⟨k,_|⟨b,l⟩⟩
   ·simp at this
   ·exact .one (.inl rfl) rfl (c List.mem_cons_self (d _ List.mem_cons_self))
   ·simp at this
 | @atm b e n l q z p=>
  have⟨A,B⟩:=Nk.ayt (c List.mem_cons_self l);refine .atm rfl ⟨by show 2<=(b::(e++n)).length;simp;omega,by show (b::(e++n)).length<=3;simp;omega⟩ A B λf a=>?_
  have g:f.2 ∈ e++n:=by
   have u:f.2 ∈ ((Px (no,.mk 12 Oh 0 (b::(e++n)))).tail).map (·.2):=List.mem_map.2 ⟨f,a,rfl⟩;rw[List.map_tail,ab2] at u;exact u
  have t:f.2 ∈ b::(e++n):=List.mem_cons_of_mem _ g;obtain⟨D,w⟩:=f;simp only at g t
  rcases List.mem_append.1 g with g|g
  ·have m:=q w g;have r:=c t m
   cases m with
   | cat _ l=>exact⟨.inl rfl,rfl,Nk.ayt (r.kid List.mem_cons_self l)⟩
  ·have m:=z w g;have r:=c t m
   cases m with
   | fin l=>exact⟨.inr rfl,rfl,Nk.ayt (r.kid List.mem_cons_self l)⟩
 | empty=>exact .empty rfl
 | expr d=>exact .one (.inr rfl) rfl (c List.mem_cons_self d)
section
variable {t N':Int} {σ σ1 V:St} {v:Va} {e:Er} {g:Nat} {p:Pl} {F:Fx} {d:Nd} {l bQ:Option Va} {o:Oc}
def ajf (c:FI F g)(h:Q g t p σ)(b:∀ a ∈ Px d,Nk 0 a.2):VO t σ (Tq F (Px d) p σ):=by
 unfold Tq
 split
 ·exact .ret (Nx.refl h.iv) h.st (Vs _)
 ·rename_i a i f
  exact(c.v h (b a (by rw[f];exact List.mem_cons_self))).1
def aqA (m:FI F g)(A:Nk 0 (Oa d 0).2)(B:Nk 1 (Oa d 1).2)(s:Pj (Oa d 1).2=false):∀ (k:Nat) {l:Option Va} {σ:St},Q g t p σ->20001<σ.steps+k->Lg σ l->SO t σ (WV F d p k l σ)
 | 0,l,σ,h,C,_=>by have:=h.st;omega
 | k+1,l,σ,h,C,D=>by
  have⟨f,z⟩:=m.v h A;rw[WV]
  rcases aa:F.v (Oa d 0) p σ with ⟨⟨v,e⟩,σ1⟩
  rw[aa] at f z;have q:=D.up f.ex
  cases e with
  | no=>
   simp only;have r:=h.next f
   split
   ·have⟨j,u⟩:=m.s r B (λe=>by rw[s] at e;cases e) q
    rcases E:F.s (Oa d 1) p l σ1 with ⟨⟨o,e,bQ⟩,V⟩
    rw[E] at j u
    cases e with
    | no=>
     simp only
     split
     ·exact j.after f.ex
     ·exact((aqA m A B s k (r.nexts j) (by dsimp only at z u;omega) j.la).after j.ex).after f.ex
    | _=>exact j.after f.ex
   ·exact⟨f.iv,f.ex,f.er,Vs _,q⟩
  | _=>exact⟨f.iv,f.ex,f.er,Vs _,q⟩
structure Z (f:Nat)(N:Int)(p:Pl)(σ:St)(o:Oc)(e:Er)(l:Option Va):Prop where
 fu:20001<σ.steps+f
 iv:Iv N σ
 po:Po p σ
 er:Eo σ e
 va:Gv σ.M.objs.length o.v
 la:Lg σ l
def Z.q (h:Z g t p σ o e l)(a:e≠.stop):Q g t p σ:=⟨h.fu,by
 have:=h.er
 cases e with
 | no=>exact this
 | stop=>exact absurd rfl a
 | X8 v=>exact this.1
 | mis=>exact this.elim,h.iv,h.po⟩
def Z.so (h:Z g t p σ o e l):SO t σ ((o,e,l),σ):=⟨h.iv,Ex.refl _,h.er,h.va,h.la⟩
def Eo.up (h:Eo σ e)(f:Eo σ1 .no)(x:Ex σ σ1)(j:e≠.stop):Eo σ1 e:=by
 cases e with
 | no=>exact f
 | stop=>exact absurd rfl j
 | X8 v=>exact⟨f,h.2.up x.ob⟩
 | mis=>exact h
section
variable (f:FI F g) (h:Z g t p σ o e l) (m:Nk 1 (Oa d 0).2) (j:Pj (Oa d 0).2=false)
include f h m j
def apC:SO (t+2) σ (XJ F d p o e l σ):=by
 unfold XJ
 cases e with
 | X8 v=>
  simp only;have z:=N8 (∀{G}(h:G:=by
  have q:Q g (t+2) { p with scope:=σ.top } ((σ.opn p.scope (-1) (own d)).dec σ.top d.2.tx 0 v):=⟨by rw[f4.st];exact ag.fu,by rw[f4.st];exact ag.st,f4.iv.up Oe,ky⟩
  exact(f.s q m (λe=>by rw[j] at e;cases e) (h.la.up f4.ex)).1.after f4.ex),G);exact aCR
 | _=>exact h.so.up Oe
def apD:SO (t+2) σ (VY F d p o e l σ):=by
 by_cases ao:e=.stop
 ·subst ao;exact h.so.up Oe
 ·have hw:=(f.s (h.q ao) m (λe=>by rw[j] at e;cases e) h.la).1
  have z:=N8 (∀{G}(h:G:=by
  cases aw with
  | no=>
   simp only
   split
   ·exact hw.up Oe
   ·exact⟨hw.iv.up Oe,hw.ex,h.er.up hw.er hw.ex ao,h.va.up hw.ex.ob,hw.la⟩
  | _=>exact hw.up Oe),G);exact aCS
end
def aqB (q:FI F g):∀ (k:List Nd) {t:Int} {o:Oc} {e:Er} {l:Option Va} {σ:St},Z g t p σ o e l->(∀ f ∈ k,Nk 1 (Oa f 0).2/\Pj (Oa f 0).2=false)->SO (t+2 * k.length) σ (aad F p k o e l σ)
 | [],t,o,e,l,σ,h,_=>h.so.up OW
 | f::k,t,o,e,l,σ,h,r=>by
  have⟨u,s⟩:=r f List.mem_cons_self;rw[aad];have j:SO (t+2) σ (if f.2.kd=13 then XJ F f p o e l σ else VY F f p o e l σ):=by
   split
   ·exact apC q h u s
   ·exact apD q h u s
  generalize (if f.2.kd=13 then XJ F f p o e l σ else VY F f p o e l σ)=m at j ⊢
  have z:=aqB q k (t:=t+2) (o:=m.1.1) (e:=m.1.2.1) (l:=m.1.2.2) (σ:=m.2) ⟨by have:=h.fu;have:=j.ex.st;omega,j.iv,h.po.up j.ex,j.er,j.va,j.la⟩ (λx A=>r x (List.mem_cons_of_mem _ A))
  exact(z.after j.ex).up (by rw[List.length_cons];push_cast;omega)
def aFr (r:FI F g)(h:Q (g+1) t p σ)(Y:Nk 1 d.2)(ad:Pj d.2=true->K4 σ.M p.scope d.2.tx)(U:Lg σ l):SO t σ (stF F g d p l σ)/\σ.steps<(stF F g d p l σ).2.steps:=by
 suffices H:SO t σ.step (stF F g d p l σ) from ⟨H.after (Ex.step σ),H.ex.st⟩
 by_cases ab:σ.steps<20000
 ·have m:=h.step (show ¬ 20000<σ.steps+1 by omega);have O:=(Nx.refl m.iv).up (show t - 10000<=t by omega);have q:Lg σ.step l:=U
  cases Y.sk with
  | decl j I B=>
   by_cases R:d.2.kd=2
   ·rw[atd ab R]
    split
    ·exact .ret O m.st (Vs _) q
    ·rename_i ae
     have W:(Oa d 0) ∈ Px d:=aCT
     have f:=(r.v m (B _ W)).1;unfold avQ
     rcases aa:F.v (Oa d 0) p σ.step with ⟨⟨v,e⟩,σ1⟩
     rw[aa] at f
     cases e with
     | no=>
      have⟨A,M,X⟩:=aqx f.iv f.er f.va (σ.step.M.find p.scope d.2.tx) d.2.tx p.strict;exact⟨A.up Oe,f.ex.trans M,X,Vs _,q.up (f.ex.trans M)⟩
     | _=>exact(f.aqu q).up Oe
   ·have W:stF F g d p l σ=((Qy,(Zx d p (Tq F (Px d) p σ.step)).1,l),(Zx d p (Tq F (Px d) p σ.step)).2):=by
     rcases j with k|k|k
     ·exact absurd k R
     ·exact axi ab k
     ·exact axj ab k
    have X:Pj d.2=true:=by
     unfold Pj
     rcases j with k|k|k
     ·exact absurd k R
     all_goals
      rw[k];rfl
    rw[W];have f:=ajf r m B;unfold Zx
    rcases aa:Tq F (Px d) p σ.step with ⟨⟨v,e⟩,σ1⟩
    rw[aa] at f
    cases e with
    | no=>
     have A:=f.iv.start f.va p.scope d.2.tx;have M:K4 σ1.M p.scope d.2.tx:=f.ex.k4 _ _ (ad X);refine⟨A.iv.up Oe,f.ex.trans A.ex,?_,Vs _,q.up (f.ex.trans A.ex)⟩
     show Eo _ (erP (σ1.M.start p.scope d.2.tx v).1)
     rw[aqw M];exact f.er
    | _=>exact(f.aqu q).up Oe
  | func j=>rw[adQ ab Oe];exact .ret O m.st (Vs _) q
  | empty j=>rw[adQ ab Oe];exact .ret O m.st (Vs _) q
  | blk j A=>
   rw[ate ab j];have⟨s,N,M⟩:=m.iv.block A m.po;have T:Q g (t - 10000+5000) (Ph d p σ.step).1 (Ph d p σ.step).2:=⟨by rw[s.st];exact m.fu,by rw[s.st];exact m.st,s.iv,N⟩
   exact((aam r (Px d) T (λk j=>A.ks _ (Qh j)) M (q.up s.ex)).after s.ex).up Oe
  | sif j I u J L A=>
   rw[atg ab j];have f:=(r.v m u).1;unfold chQ
   rcases aa:F.v (Oa d 0) p σ.step with ⟨⟨v,e⟩,σ1⟩
   rw[aa] at f;have D:=q.up f.ex
   cases e with
   | no=>
    simp only
    split
    ·exact((r.s (m.next f) J (λe=>by rw[L] at e;cases e) D).1.after f.ex).up Oe
    ·split
     ·have⟨M,R⟩:=A Oe;exact((r.s (m.next f) M (λe=>by rw[R] at e;cases e) D).1.after f.ex).up Oe
     ·exact⟨f.iv.up Oe,f.ex,f.er,Vs _,D⟩
   | _=>exact(f.aqu q).up Oe
  | loop j I u J L=>
   rcases j with j|j
   ·rw[ath ab j];exact(aqA r u J L g m m.fu q).up Oe
   ·rw[ati ab j];have⟨M,A,R,_⟩:=aal r m (d:=Oa d 0) u;unfold wiQ
    rcases aa:Sl F (Oa d 0) p σ.step with ⟨⟨o,e⟩,σ1⟩
    rw[aa] at M A R;have D:=q.up A
    cases e with
    | no=>
     simp only;have s:=M.opn p.scope o (-2);have z:=N8 (∀{G}(h:G:=by
     have T:Q g (t - 10000+1) { p with scope:=σ1.top } (σ1.opn p.scope o (-2)):=⟨by have:=m.fu;have:=A.st;dsimp only at this;show 20001<σ1.steps+g;omega,by rw[s.st];exact R,s.iv,ky⟩
     exact((r.s T J (λe=>by rw[L] at e;cases e) (D.up s.ex)).1.after (A.trans s.ex)).up Oe),G);exact aCU
    | _=>exact⟨M.up Oe,A,R,Vs _,D⟩
  | give j I B=>
   rw[akS ab j];have f:=ajf r m B;exact⟨f.iv.up Oe,f.ex,f.er,f.va,q.up f.ex⟩
  | one j I u=>
   have f:=(r.v m u).1
   rcases j with j|j
   ·rw[apB ab j];unfold ami
    rcases aa:F.v (Oa d 0) p σ.step with ⟨⟨v,e⟩,σ1⟩
    rw[aa] at f
    cases e with
    | no=>exact⟨f.iv.up Oe,f.ex,⟨f.er,f.va⟩,Vs _,q.up f.ex⟩
    | _=>exact(f.aqu q).up Oe
   ·rw[ag9 ab j];unfold aeL
    rcases aa:F.v (Oa d 0) p σ.step with ⟨⟨v,e⟩,σ1⟩
    rw[aa] at f
    cases e with
    | no=>
     refine⟨f.iv.up Oe,f.ex,f.er,Vs _,λx E=>?_⟩
     cases l with
     | none=>cases E
     | some y=>cases E;exact f.va
    | _=>exact(f.aqu q).up Oe
  | atm j I u R B=>
   rw[auY ab j];have A:=(r.s m u (λe=>by rw[R] at e;cases e) q).1
   generalize F.s (Oa d 0) p l σ.step=M at A ⊢
   have N:=aqB r (Px d).tail (t:=t - 10000) (o:=M.1.1) (e:=M.1.2.1) (l:=M.1.2.2) (σ:=M.2) ⟨by have:=m.fu;have:=A.ex.st;omega,A.iv,m.po.up A.ex,A.er,A.va,A.la⟩ (λx E=>⟨(B x E).2.2.1,(B x E).2.2.2⟩)
   exact(N.after A.ex).up (by rw[List.length_tail,RG];omega)
 ·rw[ae6 ab];have:=h.st;exact⟨h.iv.step.up Oe,Ex.refl _,by show σ.steps+1=20001;omega,Vs _,U⟩
def ab8:∀ g,FI (fx g) g
 | 0=>⟨λh _=>by have:=h.fu;have:=h.st;omega,λh _ _ _=>by have:=h.fu;have:=h.st;omega⟩
 | g+1=>⟨λh a=>aFq (ab8 g) h a,λh a b c=>aFr (ab8 g) h a b c⟩
def base0:St:=⟨⟨[⟨0,[]⟩],[⟨-1,0,[]⟩,⟨0,-1,[]⟩]⟩,[],0,[],[-1,0],[],0⟩
def akV:Iv 10 base0:=by
 refine⟨⟨10,⟨⟨⟨λa x h=>?_,λa x h=>?_,λa x h=>?_,λa x h=>?_⟩,by decide,by decide,λx b=>?_,λx b=>?_⟩,by decide,by decide,by decide,by decide,rfl⟩,by decide⟩,⟨λx b k c=>?_,λx b k c=>?_,λx b=>?_⟩,(λg k=>by cases k),by decide,by decide,by decide⟩
 ·rcases a with _|_|a
  ·
   cases h;exact⟨by decide,by decide⟩
  ·
   cases h;exact⟨by decide,by decide⟩
  ·
   cases h
 ·rcases a with _|_|a
  ·
   cases h;exact .inr ⟨0,rfl,by decide⟩
  ·
   cases h;exact .inl rfl
  ·
   cases h
 ·rcases a with _|a
  ·
   cases h;intro a j i d f;cases f
  ·
   cases h
 ·rcases a with _|_|a
  ·
   cases h;intro a j i d f;cases f
  ·
   cases h;intro a j i d f;cases f
  ·
   cases h
 ·rw[List.mem_singleton.1 b];exact Nat.zero_le _
 ·rcases List.mem_cons.1 b with rfl|b
  ·exact Nat.zero_le _
  ·rw[List.mem_singleton.1 b];exact Nat.zero_le _
 ·rw[List.mem_singleton.1 b] at c;cases c
 ·rcases List.mem_cons.1 b with rfl|b
  ·
   cases c
  ·rw[List.mem_singleton.1 b] at c;cases c
 ·rw[List.mem_singleton.1 b];exact⟨by decide,by decide⟩
def Ye:Iv 100 Qb/\N4 Qb.M 1:=by
 have s:=akV.OY (c:=1) Ol;have f:=s.iv.put (v:=SQ 1) (gvR ⟨by decide,by decide⟩) 0 UM false;have m:=f.iv.OY (c:=2) ⟨by decide,by show (2:Int)<3+_;omega⟩
 have j:=m.iv.put (v:=SQ 2) (gvR ⟨by decide,by
  show (2:Int)<((Mo.OY _ 2).objs.length:Nat)
  have e:(Mo.put (base0.M.OY 1) 0 UM (SQ 1) false).2.objs.length=2:=by rw[(Vl _ _ _ _ _).ol];rfl
  show (2:Int)<(((Mo.put (base0.M.OY 1) 0 UM (SQ 1) false).2.objs++[_]).length:Nat)
  rw[List.length_append,e]
  decide⟩) 0 RH false
 have r:N4 base0.M 1:=⟨1,_,rfl,rfl,rfl,λc k=>by cases k⟩;have q:=N4.chg (M:=base0.M.OY 1) (show N4 (base0.M.OY 1) 1 from r) (Vl _ 0 UM (SQ 1) false) Ol;have u:=N4.chg (M:=((base0.M.OY 1).put 0 UM (SQ 1) false).2.OY 2) q (Vl _ 0 RH (SQ 2) false) Ol;exact⟨j.iv.up Ol,u⟩
def axu {f:Tr}(k:Bk f):SO 9000 Qb ((Qm (fx 20002) (Pq (some 0,f) Qb).1 (Px (some 0,f)) none (Pq (some 0,f) Qb).2)):=by
 have⟨j,q,s⟩:=Ye.1.prog (d:=(some 0,f)) k Ye.2;have r:Q 20002 9000 (Pq (some 0,f) Qb).1 (Pq (some 0,f) Qb).2:=⟨by omega,by rw[j.st];decide,j.iv.up Oe,q⟩
 exact(aam (ab8 20002) (Px (some 0,f)) (l:=none) r (λu m=>k.ks _ (Qh m)) s (λ_ e=>by cases e)).after j.ex
def VS {α:Type}(G:α->Prop)(c f:(α × Er) × St):Prop:=∀ a σ1,c=((a,.no),σ1)->G a/\∃ b,f=((a,.no),σ1.fu b)/\Si σ1 b
def SS (b c:(Oc × Er × Option Va) × St):Prop:=∀ o l σ1,b=((o,.no,l),σ1)->Vg o.v/\∃ a,c=((o,.no,l),σ1.fu a)/\Si σ1 a
def auz {a:Mo}{i:Int}{b c x:Va}{e:Er}(h:UO a i b c=(x,e)):Vg x:=by
 have f:(UO a i b c).1.k≠5:=by
  unfold UO UN
  repeat' split
  all_goals simp[PX,V7,VD,vU]
 rw[h] at f;exact vg5 f
structure FS (F:Fx):Prop where
 v:∀ {d p b σ gs},Tr.YR d.2=true->(b=true->p.strict=true)->Si σ gs->VS Vg (F.v d p σ) (F.v d (p.lo b) (σ.fu gs))
 s:∀ {d p b l σ gs},Tr.YR d.2=true->(b=true->p.strict=true)->Si σ gs->SS (F.s d p l σ) (F.s d (p.lo b) l (σ.fu gs))
section
variable {α:Type} {G:α->Prop} {a:α}
include α G a
def VS.ret {σ:St}{gs:List Fu}(h:Si σ gs)(b:G a):VS G ((a,.no),σ) ((a,.no),σ.fu gs):=λc σ1 e=>by cases e;exact⟨b,gs,rfl,h⟩
def VS.er {e:Er}{σ:St}{b:(α × Er) × St}(c:e≠.no):VS G ((a,e),σ) b:=λf σ1 h=>by cases h;exact absurd rfl c
end
def SS.ret {o:Oc}{l:Option Va}{σ:St}{gs:List Fu}(h:Si σ gs)(a:Vg o.v):SS ((o,.no,l),σ) ((o,.no,l),σ.fu gs):=λb _ σ1 e=>by cases e;exact⟨a,gs,rfl,h⟩
def SS.er {o:Oc}{l:Option Va}{e:Er}{σ:St}{a:(Oc × Er × Option Va) × St}(b:e≠.no):SS ((o,e,l),σ) a:=λc _ σ1 h=>by cases h;exact absurd rfl b
variable {b:Bool}{gs:List Fu}
section
variable (c:FS F) (a:b=true->p.strict=true)
include c a
def ajQ:∀ (i:List Nd) (j:List Va) {σ:St} {gs:List Fu},(∀ d ∈ i,Tr.YR d.2=true)->(∀ v ∈ j,Vg v)->Si σ gs->VS (λf=>∀ v ∈ f,Vg v) (Tn F p i j σ) (Tn F (p.lo b) i j (σ.fu gs))
 | [],j,σ,gs,_,k,h=>by rw[Tn,Tn];exact VS.ret h k
 | d::i,j,σ,gs,m,k,h=>by
  have r:=c.v (m d List.mem_cons_self) a h;rw[Tn,Tn]
  rcases n:F.v d p σ with ⟨⟨v,e⟩,σ1⟩
  cases e with
  | no=>
   have⟨u,w,s,q⟩:=r v σ1 n;rw[s];exact ajQ i _ (λx f=>m x (List.mem_cons_of_mem _ f)) (λx f=>by
    rcases List.mem_append.1 f with f|f
    ·exact k x f
    ·rw[List.mem_singleton.1 f];exact u) q
  | _=>exact VS.er nofun
def afz:∀ (f:List Nd) (l:Option Va) {σ:St} {gs:List Fu},(∀ d ∈ f,Tr.YR d.2=true)->Si σ gs->SS (Qm F p f l σ) (Qm F (p.lo b) f l (σ.fu gs))
 | [],l,σ,gs,_,h=>by rw[Qm,Qm];exact SS.ret h vgU
 | d::f,l,σ,gs,j,h=>by
  have n:=c.s (l:=l) (j d List.mem_cons_self) a h;rw[Qm,Qm]
  rcases k:F.s d p l σ with ⟨⟨o,e,bQ⟩,σ1⟩
  cases e with
  | no=>
   have⟨r,s,q,i⟩:=n o bQ σ1 k;rw[q];simp only
   split
   ·exact SS.ret i r
   ·exact afz f bQ (λx m=>j x (List.mem_cons_of_mem _ m)) i
  | _=>exact SS.er nofun
def ajR (m:Tr.YR d.2=true)(h:Si σ gs):VS (λ_=>True) (Sl F d p σ) (Sl F d (p.lo b) (σ.fu gs)):=by
 have j:=c.v m a h;unfold Sl
 rcases f:F.v d p σ with ⟨⟨v,e⟩,σ1⟩
 cases e with
 | no=>
  have⟨_,n,k,i⟩:=j v σ1 f;rw[k];simp only
  split
  ·exact VS.er nofun
  ·exact VS.ret i trivial
 | _=>exact VS.er nofun
def aqL {o:Int}(i:Vg (SQ o)):∀ (f:List Nd) {σ:St} {gs:List Fu},(∀ d ∈ f,Tr.YR d.2=true)->Si σ gs->VS Vg (Xp F p o f σ) (Xp F (p.lo b) o f (σ.fu gs))
 | [],σ,gs,_,h=>by rw[Xp,Xp];exact VS.ret h i
 | d::f,σ,gs,j,h=>by
  have q:=c.v (Qk (j d List.mem_cons_self) 0) a h;rw[Xp,Xp]
  rcases k:F.v (Oa d 0) p σ with ⟨⟨v,e⟩,σ1⟩
  cases e with
  | no=>
   have⟨s,u,r,m⟩:=q v σ1 k;rw[r];exact aqL i f (λx n=>j x (List.mem_cons_of_mem _ n)) (m.put o d.2.tx false s)
  | _=>exact VS.er nofun
section
variable (i:Tr.YR d.2=true) (h:Si σ gs)
include i h
def ayH:VS Vg (aeA F d p σ) (aeA F d (p.lo b) (σ.fu gs)):=by
 unfold aeA;simp only
 split
 ·have n:=c.v (Qk (Qk i 0) 0) a h
  rcases k:F.v (Oa (Oa d 0) 0) p σ with ⟨⟨s,e⟩,σ1⟩
  cases e with
  | no=>
   have⟨_,u,r,m⟩:=n s σ1 k;rw[r];simp only;have C:=c.v (Qk i 1) a m
   rcases B:F.v (Oa d 1) p σ1 with ⟨⟨v,e⟩,V⟩
   cases e with
   | no=>
    have⟨j,w,z,D⟩:=C v V B;rw[z];simp only
    split
    ·exact VS.er nofun
    ·intro A E f
     cases q:erP (V.M.put s.n (Oa d 0).2.tx v false).1 with
     | no=>
      rw[q] at f;cases f;exact⟨j,w,by rw[show erP ((V.fu w).M.put s.n (Oa d 0).2.tx v false).1=.no from q];rfl,D.put _ _ _ j⟩
     | _=>rw[q] at f;cases f
   | _=>exact VS.er nofun
  | _=>exact VS.er nofun
 ·have⟨z,B,f⟩:=alj (Oa d 0) p b σ gs;rw[z];simp only;have n:=c.v (Qk i 1) a (h.of f (by rw[B];exact h.ne))
  rcases k:F.v (Oa d 1) p (look (Oa d 0) p σ).2 with ⟨⟨v,e⟩,σ1⟩
  cases e with
  | no=>
   have⟨j,u,r,m⟩:=n v σ1 k;rw[r];simp only;intro A E q
   rcases s:Zj (look (Oa d 0) p σ).1 (Oa d 0).2.tx v p.strict σ1 with ⟨H,D⟩
   rw[s] at q;cases q;have⟨w,C⟩:=aqK m a j s;exact⟨j,u,by rw[show (p.lo b).strict=b from rfl,w],C⟩
  | _=>exact VS.er nofun
def ayI:VS Vg (Zt F d p σ) (Zt F d (p.lo b) (σ.fu gs)):=by
 have f:∀ x,Vg (PX x):=λx=>vg5 (show (2:Int)≠5 by decide);unfold Zt;simp only
 split
 ·exact VS.ret (gs:=gs) (h.of (σ1:={ σ with M:=_ }) rfl ((ahA _ _ _).ne h.ne λ_ e=>e.elim)) (f _)
 ·split
  ·have m:=ajR c a (d:=Oa (Oa d 0) 0) (Qk (Qk i 0) 0) h
   rcases k:Sl F (Oa (Oa d 0) 0) p σ with ⟨⟨o,e⟩,σ1⟩
   cases e with
   | no=>
    have⟨_,q,n,j⟩:=m o σ1 k;rw[n];simp only[show (σ1.fu q).M=σ1.M from rfl,show (p.lo b).strict=b from rfl];have r:Si { σ1 with M:=(σ1.M.cut o (Oa d 0).2.tx).2 } q:=j.of rfl ((afl _ _ _).ne j.ne λ_ e=>e.elim)
    cases u:(σ1.M.cut o (Oa d 0).2.tx).1 with
    | true=>exact VS.ret r (f _)
    | false=>
     cases s:p.strict with
     | true=>exact VS.er nofun
     | false=>
      cases b with
      | true=>rw[a rfl] at s;cases s
      | false=>exact VS.ret r (f _)
   | _=>exact VS.er nofun
  ·have m:=c.v (Qk i 0) a h
   rcases k:F.v (Oa d 0) p σ with ⟨⟨v,e⟩,σ1⟩
   cases e with
   | no=>
    have⟨_,q,n,j⟩:=m v σ1 k;rw[n];exact VS.ret j (f _)
   | _=>exact VS.er nofun
end
def aqM:∀ (f:List Nd),(∀ d ∈ f,Tr.YR d.2=true)->Si σ gs->VS Vg (Tq F f p σ) (Tq F f (p.lo b) (σ.fu gs))
 | [],_,h=>VS.ret h vgU
 | d::_,i,h=>c.v (i d List.mem_cons_self) a h
def aqN (i:Tr.YR d.2=true):∀ (f:Nat) (l:Option Va) {σ:St} {gs:List Fu},Si σ gs->SS (WV F d p f l σ) (WV F d (p.lo b) f l (σ.fu gs))
 | 0,l,σ,gs,_=>by rw[WV];exact SS.er nofun
 | f+1,l,σ,gs,h=>by
  have q:=c.v (Qk i 0) a h;rw[WV,WV]
  rcases n:F.v (Oa d 0) p σ with ⟨⟨v,e⟩,σ1⟩
  cases e with
  | no=>
   have⟨_,z,r,j⟩:=q v σ1 n;rw[r];simp only
   split
   ·have w:=c.s (l:=l) (Qk i 1) a j
    rcases u:F.s (Oa d 1) p l σ1 with ⟨⟨o,e,bQ⟩,V⟩
    cases e with
    | no=>
     have⟨s,A,m,k⟩:=w o bQ V u;rw[m];simp only
     split
     ·exact SS.ret k s
     ·exact aqN i f bQ k
    | _=>exact SS.er nofun
   ·exact SS.ret j vgU
  | _=>exact SS.er nofun
end
def aqO (u:FS F)(g a:Fu)(c:List Va)(z:∀ v ∈ c,Vg v)(h:Si σ gs)(j:Tr.YR g.d.2=true)(D:a.d=g.d)(r:a.scope=g.scope)(k:a.strict=true->g.strict=true):VS Vg (VE F g c σ) (VE F a c (σ.fu gs)):=by
 unfold VE within
 by_cases i:σ.calls=40
 ·rw[if_pos i];exact VS.er nofun
 ·rw[if_neg i,if_neg (show ¬ (σ.fu gs).calls=40 from i),D,r];have C:Si ({ σ with calls:=σ.calls+1 }:St) gs:=h.of rfl h.ne;obtain⟨H,n,w⟩:=(C.opn g.scope (-1) (own g.d)).body (d:=g.d) (p:=⟨({ σ with calls:=σ.calls+1 }:St).top,({ σ with calls:=σ.calls+1 }:St).top,g.strict⟩) (b:=a.strict) j k c z;have f:=afz u (p:=⟨({ σ with calls:=σ.calls+1 }:St).top,({ σ with calls:=σ.calls+1 }:St).top,g.strict⟩) (b:=a.strict) k (Px (Oa g.d 1)) none (λx s=>WG (Qk j 1) s) w;rw[<-n] at f;intro v J e
  simp only at e ⊢
  rcases q:Qm F ⟨({ σ with calls:=σ.calls+1 }:St).top,({ σ with calls:=σ.calls+1 }:St).top,g.strict⟩ (Px (Oa g.d 1)) none (QB g.d ⟨({ σ with calls:=σ.calls+1 }:St).top,({ σ with calls:=σ.calls+1 }:St).top,g.strict⟩ c (({ σ with calls:=σ.calls+1 }:St).opn g.scope (-1) (own g.d))) with ⟨⟨o,I,bQ⟩,σ1⟩
  rw[q] at e f;cases e;have⟨B,E,A,m⟩:=f o bQ σ1 rfl;refine⟨B,E,?_,m.of rfl m.ne⟩;rw[show Qm F ⟨({ (σ.fu gs) with calls:=(σ.fu gs).calls+1 }:St).top,({ (σ.fu gs) with calls:=(σ.fu gs).calls+1 }:St).top,a.strict⟩ (Px (Oa g.d 1)) none (QB g.d ⟨({ (σ.fu gs) with calls:=(σ.fu gs).calls+1 }:St).top,({ (σ.fu gs) with calls:=(σ.fu gs).calls+1 }:St).top,a.strict⟩ c (({ (σ.fu gs) with calls:=(σ.fu gs).calls+1 }:St).opn g.scope (-1) (own g.d)))=_ from A];rfl
section
variable (f:FS F) (c:b=true->p.strict=true) (a:Tr.YR d.2=true) (h:Si σ gs)
include f c a h
def auA:VS Vg (XF F d p σ) (XF F d (p.lo b) (σ.fu gs)):=by
 have E:=ajQ f c (Px d) [] (λx q=>WG a q) (λ_ h=>by cases h) h;unfold XF
 rcases D:Tn F p (Px d) [] σ with ⟨⟨u,e⟩,σ1⟩
 cases e with
 | no=>
  have⟨z,m,J,i⟩:=E u σ1 D;rw[J]
  cases u with
  | nil=>exact VS.ret i vgU
  | cons g H=>
   simp only[show (σ1.fu m).M=σ1.M from rfl]
   by_cases j:g.k≠5
   ·rw[if_pos j];exact VS.er nofun
   ·rw[if_neg j,if_neg j]
    by_cases r:σ1.M.codeOf g.n=0
    ·rw[if_pos r];exact VS.er nofun
    ·rw[if_neg r,if_neg r]
     by_cases k:σ1.M.codeOf g.n=1
     ·rw[if_pos k,if_pos k];exact VS.ret (gs:=m) (i.of (σ1:={ σ1 with log:=_ }) rfl i.ne) vgU
     ·rw[if_neg k,if_neg k];have w:=auy i.ne (z g List.mem_cons_self) (by simpa using j);rw[if_neg w,if_neg w]
      cases n:σ1.Qg[(σ1.M.codeOf g.n - 3).toNat]? with
      | none=>
       have s:(σ1.fu m).Qg[(σ1.M.codeOf g.n - 3).toNat]? = none:=List.getElem?_eq_none (by
        have:=List.getElem?_eq_none_iff.1 n;rw[<-i.ln] at this;exact this)
       rw[s];exact VS.ret i vgU
      | some s=>
       obtain⟨A,L,B,I,C⟩:=i.fr _ s n;rw[show (σ1.fu m).Qg[(σ1.M.codeOf g.n - 3).toNat]? = some A from L];exact aqO f s A H (λx q=>z x (List.mem_cons_of_mem _ q)) i (i.ok s (List.mem_of_getElem? n)) B I C
 | _=>cases u <;> exact VS.er nofun
def aqP:VS Vg (Zw F d p σ) (Zw F d (p.lo b) (σ.fu gs)):=by
 have k:=f.v (Qk a 0) c h;unfold Zw
 rcases j:F.v (Oa d 0) p σ with ⟨⟨v,e⟩,σ1⟩
 cases e with
 | no=>
  have⟨n,q,m,i⟩:=k v σ1 j;rw[m];simp only
  split
  ·exact VS.ret i n
  ·exact f.v (Qk a 1) c i
 | _=>exact VS.er nofun
def acI:VS Vg (YF F d p σ) (YF F d (p.lo b) (σ.fu gs)):=by
 have s:=ajQ f c (Px d) [] (λx j=>WG a j) (λ_ h=>by cases h) h;unfold YF
 rcases r:Tn F p (Px d) [] σ with ⟨⟨i,e⟩,σ1⟩
 cases e with
 | no=>
  have⟨_,q,u,j⟩:=s i σ1 r;rw[u]
  rcases i with _|⟨m,_|⟨n,i⟩⟩
  ·exact VS.ret j vgU
  ·exact VS.ret j vgU
  ·intro v V e;simp only at e ⊢
   rcases k:UO σ1.M d.2.kd m n with ⟨x,w⟩
   rw[k] at e;cases e;refine⟨auz k,q,?_,j⟩;rw[show (σ1.fu q).M=σ1.M from rfl,k]
 | _=>rcases i with _|⟨m,_|⟨n,i⟩⟩ <;> exact VS.er nofun
def aFL:VS Vg (YB F d p σ) (YB F d (p.lo b) (σ.fu gs)):=by
 have i:Si σ.step gs:=h.of rfl h.ne
 by_cases j:σ.steps<20000
 ·have m:(σ.fu gs).steps<20000:=j
  by_cases E:d.2.kd=17
  ·rw[akx j E,akx m E];exact VS.ret i (vg5 (show (3:Int)≠5 by decide))
  by_cases H:d.2.kd=18
  ·rw[ag8 j H,ag8 m H];exact VS.ret i (vg5 (show (4:Int)≠5 by decide))
  by_cases J:d.2.kd=19
  ·rw[aky j J,aky m J];exact VS.ret i (vg5 (show (2:Int)≠5 by decide))
  by_cases L:d.2.kd=20
  ·rw[akz j L,akz m L];exact VS.ret i (vg5 (show (2:Int)≠5 by decide))
  by_cases M:d.2.kd=21
  ·rw[akA j M,akA m M];exact VS.ret i (vg5 (show (1:Int)≠5 by decide))
  by_cases n:d.2.kd=23
  ·rw[akB j n,akB m n];have⟨X,r,Y⟩:=alj d p b σ.step gs;unfold adJ;rw[show look d (p.lo b) (σ.fu gs).step=_ from X];simp only[show ∀ τ:St,(τ.fu gs).M=τ.M from λ_=>rfl]
   split
   ·exact VS.ret (i.of Y (by rw[r];exact i.ne)) (auw (by rw[r];exact i.ne) _ ((acH a).2.1 (.inl n)))
   ·exact VS.er nofun
  by_cases u:d.2.kd=24
  ·rw[akC j u,akC m u];exact ayH f c a i
  by_cases I:d.2.kd=25
  ·rw[akD j I,akD m I];exact aqP f c a i
  by_cases R:d.2.kd=26
  ·rw[akE j R,akE m R];exact aqP f c a i
  by_cases s:d.2.kd=27
  ·rw[akF j s,akF m s];exact acI f c a i
  by_cases N:d.2.kd=28
  ·rw[akG j N,akG m N];exact acI f c a i
  by_cases S:d.2.kd=29
  ·rw[akH j S,akH m S];exact acI f c a i
  by_cases T:d.2.kd=30
  ·rw[akI j T,akI m T];exact acI f c a i
  by_cases U:d.2.kd=31
  ·rw[akJ j U,akJ m U];exact acI f c a i
  by_cases O:d.2.kd=32
  ·rw[akK j O,akK m O];have am:=f.v (Qk a 0) c i;unfold aiP
   rcases aa:F.v (Oa d 0) p σ.step with ⟨⟨v,e⟩,σ1⟩
   cases e with
   | no=>
    have z:=N8 (∀{G}(h:G:=by
    exact VS.ret gj (vg5 (show (2:Int)≠5 by decide))),G);exact atV
   | _=>exact VS.er nofun
  by_cases P:d.2.kd=33
  ·rw[akL j P,akL m P];have am:=f.v (Qk a 0) c i;unfold ac7
   by_cases r:(Oa d 0).2.kd=23/\σ.step.M.find p.scope (Oa d 0).2.tx = -1
   ·rw[if_pos r,if_pos (show (Oa d 0).2.kd=23/\(σ.fu gs).step.M.find (p.lo b).scope (Oa d 0).2.tx = -1 from r)];exact VS.ret i (vg5 (show (4:Int)≠5 by decide))
   ·rw[if_neg r,if_neg (show ¬ ((Oa d 0).2.kd=23/\(σ.fu gs).step.M.find (p.lo b).scope (Oa d 0).2.tx = -1) from r)]
    rcases aa:F.v (Oa d 0) p σ.step with ⟨⟨v,e⟩,σ1⟩
    cases e with
    | no=>
     have z:=N8 (∀{G}(h:G:=by
     exact VS.ret gj (vg5 (show (4:Int)≠5 by decide))),G);exact atV
    | _=>exact VS.er nofun
  by_cases w:d.2.kd=34
  ·rw[akM j w,akM m w];exact ayI f c a i
  by_cases A:d.2.kd=35
  ·rw[akN j A,akN m A];exact auA f c a i
  by_cases q:d.2.kd=36
  ·rw[akO j q,akO m q];have am:=ajR f c (Qk a 0) i;unfold aiQ
   rcases aa:Sl F (Oa d 0) p σ.step with ⟨⟨o,e⟩,σ1⟩
   cases e with
   | no=>
    have⟨_,cH,bJ,gj⟩:=am o σ1 aa;rw[show Sl F (Oa d 0) (p.lo b) (σ.fu gs).step=_ from bJ];refine VS.ret gj ?_
    cases r:σ1.M.prop o d.2.tx with
    | none=>exact vgU
    | some X=>exact ali gj.ne ((acH a).2.1 (.inr q)) r
   | _=>exact VS.er nofun
  by_cases B:d.2.kd=37
  ·rw[akP j B,akP m B];have⟨X,cH,W,r⟩:=i.lam a c;rw[show Uz d (p.lo b) (σ.fu gs).step=_ from W];exact VS.ret r X
  by_cases D:d.2.kd=38
  ·rw[akQ j D,akQ m D];refine aqL f c (λe=>?_) (Px d) (λx r=>WG a r) (i.of (σ1:={ σ.step with M:=σ.step.M.OY 0 }) rfl (i.ne.OY Ol));have W:(σ.step.M.objs.length:Int)=2:=e.2;have:=i.ne.ln;omega
  rw[akR j ⟨E,H,J,L,M,n,u,I,R,s,N,S,T,U,O,P,w,A,q,B,D⟩,akR m ⟨E,H,J,L,M,n,u,I,R,s,N,S,T,U,O,P,w,A,q,B,D⟩];exact VS.ret i vgU
 ·rw[ae5 j];exact VS.er nofun
def aFM (g:Nat):SS (stF F g d p l σ) (stF F g d (p.lo b) l (σ.fu gs)):=by
 have j:Si σ.step gs:=h.of rfl h.ne
 by_cases i:σ.steps<20000
 ·have m:(σ.fu gs).steps<20000:=i
  by_cases E:d.2.kd=2
  ·rw[atd i E,atd m E]
   split
   ·exact SS.ret j vgU
   ·have am:=f.v (Qk a 0) c j;unfold avQ
    rcases aa:F.v (Oa d 0) p σ.step with ⟨⟨v,e⟩,σ1⟩
    cases e with
    | no=>
     have⟨s,cH,bJ,gj⟩:=am v σ1 aa;rw[show F.v (Oa d 0) (p.lo b) (σ.fu gs).step=_ from bJ];simp only;intro o bQ V n
     rcases q:Zj (σ.step.M.find p.scope d.2.tx) d.2.tx v p.strict σ1 with ⟨D,O⟩
     rw[q] at n;cases n;have⟨u,B⟩:=aqK gj c s q;exact⟨vgU,cH,by rw[show Zj ((σ.fu gs).step.M.find (p.lo b).scope d.2.tx) d.2.tx v (p.lo b).strict (σ1.fu cH)=_ from u],B⟩
    | _=>exact SS.er nofun
  by_cases N:d.2.kd=3\/d.2.kd=4
  ·have B:∀ (q:Pl) (τ:St),τ.steps<20000->stF F g d q l τ=((Qy,(Zx d q (Tq F (Px d) q τ.step)).1,l),(Zx d q (Tq F (Px d) q τ.step)).2):=λq τ D=>by
    rcases N with k|k
    ·exact axi D k
    ·exact axj D k
   rw[B _ _ i,B _ _ m];have am:=aqM f c (Px d) (λx r=>WG a r) j;unfold Zx
   rcases aa:Tq F (Px d) p σ.step with ⟨⟨v,e⟩,σ1⟩
   cases e with
   | no=>
    have⟨s,cH,bJ,gj⟩:=am v σ1 aa;rw[show Tq F (Px d) (p.lo b) (σ.fu gs).step=_ from bJ];simp only;intro o bQ V n
    cases u:erP (σ1.M.start p.scope d.2.tx v).1 with
    | no=>
     rw[u] at n;cases n;exact⟨vgU,cH,by rw[show erP ((σ1.fu cH).M.start (p.lo b).scope d.2.tx v).1=.no from u];rfl,gj.of rfl ((adY _ _ _ _).ne gj.ne λ_ e=>e ▸ s)⟩
    | _=>rw[u] at n;cases n
   | _=>exact SS.er nofun
  by_cases I:d.2.kd=6
  ·rw[ate i I,ate m I];have⟨cH,B,q,u⟩:=j.blk a c;rw[show Ph d (p.lo b) (σ.fu gs).step=_ from B];exact afz f u (Px d) l (λx r=>WG a r) q
  by_cases H:d.2.kd=7
  ·rw[atg i H,atg m H];have am:=f.v (Qk a 0) c j;unfold chQ
   rcases aa:F.v (Oa d 0) p σ.step with ⟨⟨v,e⟩,σ1⟩
   cases e with
   | no=>
    have z:=N8 (∀{G}(h:G:=by
    simp only
    split
    ·exact f.s (Qk a 1) c gj
    ·split
     ·exact f.s (Qk a 2) c gj
     ·exact SS.ret gj vgU),G);exact atV
   | _=>exact SS.er nofun
  by_cases J:d.2.kd=8
  ·rw[ath i J,ath m J];exact aqN f c a g l j
  by_cases L:d.2.kd=9
  ·rw[ati i L,ati m L];have am:=ajR f c (Qk a 0) j;unfold wiQ
   rcases aa:Sl F (Oa d 0) p σ.step with ⟨⟨o,e⟩,σ1⟩
   cases e with
   | no=>
    have⟨_,cH,bJ,gj⟩:=am o σ1 aa;rw[show Sl F (Oa d 0) (p.lo b) (σ.fu gs).step=_ from bJ];exact f.s (p:={ p with scope:=σ1.top }) (Qk a 1) c (gj.opn p.scope o (-2))
   | _=>exact SS.er nofun
  by_cases w:d.2.kd=10
  ·rw[akS i w,akS m w];have am:=aqM f c (Px d) (λx r=>WG a r) j
   rcases aa:Tq F (Px d) p σ.step with ⟨⟨v,e⟩,σ1⟩
   cases e with
   | no=>
    have⟨s,cH,bJ,gj⟩:=am v σ1 aa;rw[show Tq F (Px d) (p.lo b) (σ.fu gs).step=_ from bJ];exact SS.ret gj s
   | _=>exact SS.er nofun
  by_cases M:d.2.kd=11
  ·rw[apB i M];unfold ami
   rcases aa:F.v (Oa d 0) p σ.step with ⟨⟨v,e⟩,σ1⟩
   cases e with
   | _=>exact SS.er nofun
  by_cases A:d.2.kd=15
  ·rw[ag9 i A,ag9 m A];have am:=f.v (Qk a 0) c j;unfold aeL
   rcases aa:F.v (Oa d 0) p σ.step with ⟨⟨v,e⟩,σ1⟩
   cases e with
   | no=>
    have z:=N8 (∀{G}(h:G:=by
    exact SS.ret gj vgU),G);exact atV
   | _=>exact SS.er nofun
  have P:=(acH a).1;rw[adQ i Oe,adQ m Oe];exact SS.ret j vgU
 ·rw[ae6 i];exact SS.er nofun
end
def aqQ:∀ g,FS (fx g)
 | 0=>⟨λ_ _ _=>VS.er nofun,λ_ _ _=>SS.er nofun⟩
 | g+1=>⟨λc a h=>aFL (aqQ g) a c h,λc a h=>aFM (aqQ g) a c h g⟩
def aaJ {g:Nat->Option Int}(c:∀ f,g f=none):∀ a,TP g a=none
 | 0=>rfl
 | a+1=>XT (aaJ c a) (c a)
def aFN (a:Tr)(k b:Bool)(h:wrT a true k b=none):wrT a false k b=none:=by
 have c:∀ x,nmE false x=none:=λ_=>rfl;unfold wrT at h ⊢
 by_cases f:a.kd=1
 ·rw[if_pos f] at h ⊢;exact h
 rw[if_neg f] at h ⊢
 by_cases i:a.kd=6
 ·rw[if_pos i] at h ⊢;exact h
 rw[if_neg i] at h ⊢
 by_cases j:a.kd=5\/a.kd=37
 ·rw[if_pos j] at h ⊢;unfold fnE at h ⊢;rw[c,show anI false (PZ a 0).kids=none from aaJ (λ_=>rfl) _]
  split at h
  ·
   cases h
  ·split at h
   ·
    cases h
   ·exact h
 rw[if_neg j] at h ⊢
 by_cases n:a.kd=2\/a.kd=3\/a.kd=4
 ·rw[if_pos n];exact c _
 rw[if_neg n] at h ⊢
 by_cases m:a.kd=13
 ·rw[if_pos m] at h ⊢;unfold Xg at h ⊢;rw[c]
  split at h
  ·
   cases h
  ·exact h
 rw[if_neg m] at h ⊢
 by_cases r:a.kd=7\/a.kd=8\/a.kd=9
 ·rw[if_pos r] at h ⊢;unfold brE at h ⊢
  split at h
  ·
   cases h
  ·rename_i w
   rw[if_neg];intro e;rw[Bool.and_false,Bool.false_or] at e;exact w (by rw[e,Bool.or_true])
 rw[if_neg r] at h ⊢
 by_cases q:a.kd=10
 ·rw[if_pos q] at h ⊢;exact h
 rw[if_neg q] at h ⊢
 by_cases s:a.kd=24
 ·rw[if_pos s]
  split
  ·exact c _
  ·rfl
 rw[if_neg s] at h ⊢
 by_cases u:a.kd=34
 ·rw[if_pos u];rfl
 rw[if_neg u]
mutual
def ayJ:∀ (u:Tr) (m j n b:Bool),(j=true->m=true)->chk u m n b=none->chk u j n b=none
 | .mk c i f a,m,j,n,b,z,h=>by
  rw[chk] at h ⊢;have q:s2 (.mk c i f a) j=true->s2 (.mk c i f a) m=true:=by
   unfold s2
   cases j with
   | true=>rw[z rfl];exact id
   | false=>
    cases m with
    | false=>exact id
    | true=>intro _;split <;> rfl
  generalize s2 (.mk c i f a) m=r at h q
  generalize s2 (.mk c i f a) j=s at q ⊢
  cases k:wrT (.mk c i f a) r (i2 (.mk c i f a) n) b with
  | some e=>rw[k] at h;cases h
  | none=>
   rw[k] at h;have w:wrT (.mk c i f a) s (i2 (.mk c i f a) n) b=none:=by
    cases s with
    | true=>rw[q rfl] at k;exact k
    | false=>
     cases r with
     | false=>exact k
     | true=>exact aFN _ _ _ k
   rw[w];exact afA a r s _ _ q h
def afA:∀ (i:List Tr) (c f a b:Bool),(f=true->c=true)->SN i c a b=none->SN i f a b=none
 | [],_,_,_,_,_,_=>by rw[SN]
 | m::i,c,f,a,b,k,h=>by
  rw[SN] at h ⊢
  cases j:chk m c a b with
  | some e=>rw[j] at h;cases h
  | none=>
   rw[j] at h;rw[ayJ m c f a b k j];exact afA i c f a b k h
end
def txE (a:Ou):Tr:=.mk 15 Oh 0 [.mk 18 a 0 []]
abbrev acJ:Ou:=⟨#[117,115,101,32,115,108,111,112,112,121]⟩
abbrev stA (a:List Tr):Tr:=.mk 1 TF 0 (txE aaP::a)
abbrev stB (a:List Tr):Tr:=.mk 1 Oh 0 (txE acJ::a)
def auB (f:Ou)(a c b:Bool):chk (txE f) a c b=none:=by rfl
def ayK {a:List Tr}(h:chk (stA a) false false false=none):chk (stB a) false false false=none:=by
 have m:∀ c i k n b,wrT (.mk 1 c 0 i) k n b=scE (.mk 1 c 0 i) true:=λ_ _ _ _ _=>rfl;have j:scE (stA a) true=scE (stB a) true:=rfl;rw[chk,m] at h ⊢;rw[<-j]
 cases f:scE (stA a) true with
 | some e=>rw[f] at h;cases h
 | none=>
  rw[f] at h;simp only at h ⊢;rw[SN,auB] at h ⊢;exact afA a _ _ _ _ (λe=>by cases e) h
def aqS:Si Qb []:=by
 have e:Qb.M=⟨[⟨0,[⟨UM,SQ 1,false⟩,⟨RH,SQ 2,false⟩]⟩,⟨1,[]⟩,⟨2,[]⟩],[⟨-1,0,[]⟩,⟨0,-1,[]⟩]⟩:=by kernel_rfl
 refine⟨rfl,λj g f=>(by cases f),λg f=>(by cases f),?_⟩;rw[e];refine⟨by decide,λj x a c=>?_,λx a p i=>?_,λx a f c=>?_⟩
 ·rcases j with _|_|_|j
  ·
   cases a;cases c
  ·
   cases a;cases c
  ·rfl
  ·
   cases a
 ·simp only[List.mem_cons,List.not_mem_nil,or_false] at a
  rcases a with rfl|rfl|rfl
  ·simp only[List.mem_cons,List.not_mem_nil,or_false] at i
   rcases i with rfl|rfl
   ·exact .inl (λe=>by cases e.2)
   ·exact .inr rfl
  all_goals
   cases i
 ·simp only[List.mem_cons,List.not_mem_nil,or_false] at a
  rcases a with rfl|rfl <;> cases c
def ajS (f:Ou)(a:Ou)(c:List Tr):Px (some 0,.mk 1 f 0 (txE a::c))=(some 1,txE a)::WU (some 3) c:=rfl
def ayL (a:List Tr):OU (stA a)=true/\OU (stB a)=false:=⟨by show (true&&decide (TF=TF))=true;decide,by show (true&&decide (Oh=TF))=false;decide⟩
def ayM {a:List Tr}(h:Tr.YR (stA a)=true):∃ gs,Pq (some 0,stB a) Qb=((Pq (some 0,stA a) Qb).1.lo false,(Pq (some 0,stA a) Qb).2.fu gs)/\Si (Pq (some 0,stA a) Qb).2 gs:=by
 obtain⟨i,B,m⟩:=Wv (f:=λ(σ:St) (f:Ou)=>if σ.M.has 0 f then σ else σ.Qx 0 f vU true) (g:=λ(σ:St) (f:Ou)=>if σ.M.has 0 f then σ else σ.Qx 0 f vU true) (Py (stA a)) aqS λf _ σ gs h=>by
  refine⟨gs,?_,?_⟩
  ·show (if σ.M.has 0 f then σ.fu gs else (σ.Qx 0 f vU true).fu gs)=_
   split <;> rfl
  ·split
   ·exact h
   ·exact h.put _ _ _ vgU
 have⟨C,q,n⟩:=m.lets (OZ (stA a)) 1;have⟨j,s,w⟩:=Wv (f:=λ(σ:St) (c:Nd)=>(mkFun c ⟨1,0,true⟩ σ).2.Qx 0 c.2.tx (mkFun c ⟨1,0,true⟩ σ).1 true) (g:=λ(σ:St) (c:Nd)=>(mkFun c ⟨1,0,false⟩ σ).2.Qx 0 c.2.tx (mkFun c ⟨1,0,false⟩ σ).1 true) (SX (some 0,stA a)) n λc k σ gs A=>by
  obtain⟨r,i,u,z⟩:=A.fun (d:=c) (p:=⟨1,0,true⟩) (b:=false) (WG (d:=(some 0,stA a)) h (List.mem_filter.1 k).1) (λe=>by cases e);refine⟨i,?_,z.put _ _ _ r⟩;rw[show mkFun c ⟨1,0,false⟩ (σ.fu gs)=_ from u];rfl
 refine⟨j,?_,w⟩;unfold Pq;simp only[(ayL a).1,(ayL a).2];rw[show Py (stB a)=Py (stA a) from rfl,show OZ (stB a)=OZ (stA a) from rfl,show SX (some 0,stB a)=SX (some 0,stA a) from rfl];exact Prod.ext rfl ((congrArg (λr=>List.foldl (λ(σ:St) (c:Nd)=>(mkFun c ⟨1,0,false⟩ σ).2.Qx 0 c.2.tx (mkFun c ⟨1,0,false⟩ σ).1 true) r (SX (some 0,stA a))) ((congrArg (PN (OZ (stA a)) 1) B).trans q)).trans s)
def aFO (g:Nat)(a:Option Nat)(c:Ou)(p:Pl)(σ:St)(f:σ.steps+1<20000):(fx (g+2)).s (a,txE c) p none σ=((Qy,.no,none),σ.step.step):=by
 show stF (fx (g+1)) (g+1) (a,txE c) p none σ=_
 rw[ag9 Oe rfl];have i:(fx (g+1)).v (Oa (a,txE c) 0) p σ.step=((VD c,.no),σ.step.step):=by
  show YB (fx g) _ p σ.step=_
  cases a <;> exact ag8 (show σ.steps+1<20000 from f) rfl
 rw[i];rfl
def am5 (d:Nd):(Pq d Qb).2.steps=0:=by
 have a:∀ {α:Type} (c:St->α->St),(∀ σ f,(c σ f).steps=σ.steps)->∀ (l:List α) (σ:St),(l.foldl c σ).steps=σ.steps:=λc j l=>by
  induction l with
  | nil=>intro σ;rfl
  | cons f l i=>intro σ;rw[List.foldl_cons,i,j]
 unfold Pq PN;simp only;refine(a _ ?_ _ _).trans ((a _ ?_ _ _).trans ((a _ ?_ _ _).trans rfl))
 ·intros;rfl
 ·intros;rfl
 ·intros;split <;> rfl
def ayN {a:List Tr}(h:Tr.YR (stA a)=true)(c:(Qr (stA a)).1=.no):(Qr (stB a)).1=.no/\∃ gs,(Qr (stB a)).2=(Qr (stA a)).2.fu gs:=by
 have⟨gs,A,f⟩:=ayM h;have B:=am5 (some 0,stA a);have n:(Pq (some 0,stA a) Qb).1=⟨1,0,true⟩:=by unfold Pq;simp only[(ayL a).1]
 unfold Qr at c ⊢;simp only at c ⊢;rw[A];rw[n] at c ⊢
 generalize (Pq (some 0,stA a) Qb).2=σ at *
 rw[ajS] at c ⊢;rw[ajS];have q:=aFO 20000 (some 1) aaP ⟨1,0,true⟩ σ Oe;have u:=aFO 20000 (some 1) acJ (Pl.lo ⟨1,0,true⟩ false) (σ.fu gs) (by show σ.steps+1<20000;omega)
 have s:Qm (fx 20002) ⟨1,0,true⟩ ((some 1,txE aaP)::WU (some 3) a) none σ=Qm (fx 20002) ⟨1,0,true⟩ (WU (some 3) a) none σ.step.step:=by rw[Qm,q];rfl
 have z:Qm (fx 20002) (Pl.lo ⟨1,0,true⟩ false) ((some 1,txE acJ)::WU (some 3) a) none (σ.fu gs)=Qm (fx 20002) (Pl.lo ⟨1,0,true⟩ false) (WU (some 3) a) none (σ.fu gs).step.step:=by rw[Qm,u];rfl
 rw[s] at c ⊢;rw[z];have j:Si σ.step.step gs:=f.of rfl f.ne;have i:=afz (aqQ 20002) (p:=⟨1,0,true⟩) (b:=false) (λe=>by cases e) (WU (some 3) a) none (λx m=>WG (d:=(some 0,stA a)) h (by rw[ajS];exact List.mem_cons_of_mem _ m)) j
 rcases k:Qm (fx 20002) ⟨1,0,true⟩ (WU (some 3) a) none σ.step.step with ⟨⟨o,e,bQ⟩,σ1⟩
 rw[k] at c i;cases c;have⟨_,w,r,_⟩:=i o bQ σ1 rfl;rw[show Qm (fx 20002) (Pl.lo ⟨1,0,true⟩ false) (WU (some 3) a) none (σ.fu gs).step.step=_ from r];exact⟨rfl,w,rfl⟩
end
end Hp
section
variable {x y:Ou} {i:Nat} (j:x.size=y.size) (c:∀ a,i<=a->x.data.toList.drop a=y.data.toList.drop a)
include c
theorem afB {a:Nat}(d:i<=a):bt x a=bt y a:=by
 have h:∀ b:List UInt8,b.getD a 0=(b.drop a).getD 0 0:=λb=>by rw[List.getD_eq_getElem?_getD,List.getD_eq_getElem?_getD,List.getElem?_drop];rfl
 unfold bt;rw[h,h,c a d]
theorem aaz (b:Int->Bool){a:Nat}(d:i<=a):OC b x a=OC b y a:=by unfold OC;rw[c a d]
theorem acK (b:Nat){a:Nat}(d:i<=a):x.extract a b=y.extract a b:=by
 apply ByteArray.ext;apply Array.toList_inj.1;rw[ByteArray.data_extract,ByteArray.data_extract,Array.toList_extract,Array.toList_extract,List.extract_eq_take_drop,List.extract_eq_take_drop,c a d]
include j
def aqT:∀ e b said,y.size - b=e->i<=b->UE x b said=UE y b said:=by
 intro e
 induction e using Nat.strongRecOn with
 | ind e f=>
  intro b said n k;have g:=afB c k;have l:=afB c (a:=b+1) Oe;rw[UE]
  conv=>rhs;rw[UE]
  rw[j,g,l]
  by_cases d:b<y.size
  ·rw[if_pos d,if_pos d,f (y.size - (b+1)) Oe (b+1) _ rfl Oe]
   cases esc (bt y (b+1)) with
   | none=>rfl
   | some m=>simp only[f (y.size - (b+2)) Oe (b+2) (said++[m]) rfl Oe]
  ·rw[if_neg d,if_neg d]
def aqU (e f:List Ou){a:Nat}(b:i<=a):Tc e f x a=Tc e f y a:=by
 have d:=afB c b;unfold Tc SG rdNum rdStr TL;have h:x.data.toList.getD a 0=y.data.toList.getD a 0:=d;rw[d,h,aaz c _ b,aaz c _ b,acK c _ b,acK c _ b,acK c _ b,aqT j c _ (a+1) [] rfl Oe,j]
def am6 (e d:List Ou)(B:∀ f ∈ d,1<=f.size):∀ q b g acc' p,y.size - b=q->b<=y.size->i<=b->Q7 e d x b g=.ok p->∃ n,p=g++n/\Q7 e d y b acc'=.ok (acc'++n):=by
 intro q
 induction q using Nat.strongRecOn with
 | ind q w=>
  intro b g acc' p C D u h
  by_cases s:b<y.size
  ·have t:=aqU j c e d u
   cases o:Tc e d y b with
   | bad f k=>rw[WH e d x b g f k Oe (by rw[t];exact o)] at h;cases h
   | tok k m l f=>
    have r:=VP e d y b k l m f s B o;have E:=TU PU y f;have z:=QU PU y f r.2;rw[P5 e d x b g k l m f Oe (by rw[t];exact o) r.1,aaz c PU Oe] at h
    obtain⟨n,A,v⟩:=w (y.size - OC PU y f) Oe (OC PU y f) _ (acc'++[⟨k,m,l,b⟩]) p rfl z Oe h;refine⟨⟨k,m,l,b⟩::n,by rw[A];simp,?_⟩
    rw[P5 e d y b acc' k l m f s o r.1,v];simp
  ·rw[TD e d x b g Oe] at h;refine⟨[⟨6,⟨#[]⟩,0,y.size⟩],by cases h;rw[j],?_⟩
   rw[TD e d y b acc' s]
end
abbrev Wh:Ou:=⟨#[39,117,115,101,32,115,116,114,105,99,116,39,59]⟩
abbrev U2:Ou:=⟨#[39,117,115,101,32,115,108,111,112,112,121,39,59]⟩
def aqV:Q7 O4 O0 Wh (OC PU Wh 0) []=.ok [⟨4,aaP,0,0⟩,⟨5,PY,0,12⟩,⟨6,Oh,0,13⟩]:=by
 have a:OC PU Wh 0=0:=by decide +kernel
 rw[a,P5 O4 O0 Wh 0 [] 4 0 aaP 12 Ol Pe Ol];have b:OC PU Wh 12=12:=by decide +kernel
 rw[b,P5 O4 O0 Wh 12 _ 5 0 PY 13 Ol Pe Ol];have c:OC PU Wh 13=13:=by decide +kernel
 rw[c,TD O4 O0 Wh 13 _ Ol];rfl
def am7:Q7 O4 O0 U2 (OC PU U2 0) []=.ok [⟨4,Hp.acJ,0,0⟩,⟨5,PY,0,12⟩,⟨6,Oh,0,13⟩]:=by
 have a:OC PU U2 0=0:=by decide +kernel
 rw[a,P5 O4 O0 U2 0 [] 4 0 Hp.acJ 12 Ol Pe Ol];have b:OC PU U2 12=12:=by decide +kernel
 rw[b,P5 O4 O0 U2 12 _ 5 0 PY 13 Ol Pe Ol];have c:OC PU U2 13=13:=by decide +kernel
 rw[c,TD O4 O0 U2 13 _ Ol];rfl
def ahR {a:Ou}{c:Ou}(j:Q7 O4 O0 a (OC PU a 0) []=.ok [⟨4,c,0,0⟩,⟨5,PY,0,12⟩,⟨6,Oh,0,13⟩])(f:a.size=13)(l:OC PU a 0=0)(b:Ou) :
  Q7 O4 O0 (jk a b) (OC PU (jk a b) 0) []=Q7 O4 O0 (jk a b) (14+OC PU b 0) [⟨4,c,0,0⟩,⟨5,PY,0,12⟩]:=by
 obtain⟨d,e,g⟩:=ap1 O4 O0 a b Hp.U4 Ol _ (OC PU a 0) [] _ rfl (by rw[l];omega) j
 have k:d=[⟨4,c,0,0⟩,⟨5,PY,0,12⟩]:=by
  rw[f] at e;have i:d++[(⟨6,Oh,0,13⟩:Tk)]=[⟨4,c,0,0⟩,⟨5,PY,0,12⟩]++[⟨6,Oh,0,13⟩]:=e.symm;exact List.append_cancel_right i
 subst k;rw[aaE PU a b 0 (Nat.zero_le _) ap0,g,f]
section
variable {α:Type}
def jBb (d:Nat)(c b:PR α):Prop:=(∀ x a,c=.ok x a->b=.ok x (d+a))/\((∀ x a,c≠.ok x a)->∀ x a,b≠.ok x a)
def jBb.ok {a b:Nat}{x:α}:jBb a (.ok x b) (.ok x (a+b)):=⟨λ_ _ h=>(by cases h;rfl),λh=>absurd rfl (h _ _)⟩
def jBb.bad {c:Nat}{d a:Int}{e b:Nat}:jBb (α:=α) c (.bad d e) (.bad a b):=⟨λ_ _ h=>(by cases h),λ_=>nofun⟩
def jBb.out {a:Nat}:jBb (α:=α) a .out .out:=⟨λ_ _ h=>(by cases h),λ_=>nofun⟩
def jBb.badF {d:Nat}{g c:List Tk}{e a:Int}{f b:Nat}:jBb (α:=α) d (UF g e f) (UF c a b):=jBb.bad
def jBb.bind {β:Type}{d:Nat}{f c:PR α}{j g:α->Nat->PR β}(h:jBb d f c)(l:∀ x b,jBb d (j x b) (g x (d+b))):jBb d (f.bind j) (c.bind g):=by
 cases f with
 | ok x b=>rw[h.1 x b rfl];exact l x b
 | bad i k=>
  refine⟨λy e a=>(by cases a),λ_ y e a=>?_⟩
  cases c with
  | ok x b=>exact h.2 (λ_ _=>nofun) x b rfl
  | bad i k=>cases a
  | out=>cases a
 | out=>
  refine⟨λy e a=>(by cases a),λ_ y e a=>?_⟩
  cases c with
  | ok x b=>exact h.2 (λ_ _=>nofun) x b rfl
  | bad i k=>cases a
  | out=>cases a
def jBb.ite {c:Nat}{a b:Prop} [Decidable a] [Decidable b] {f g d e:PR α}(i:a↔b)(j:jBb c f d)(k:jBb c g e) :
  jBb c (if a then f else g) (if b then d else e):=by
 by_cases h:a
 ·rw[if_pos h,if_pos (i.1 h)];exact j
 ·rw[if_neg h,if_neg (λl=>h (i.2 l))];exact k
structure jBc (l l':List Tk)(A:Nat):Prop where
 kd:∀ i,(OX l' (A+i)).kd=(OX l i).kd
 tx:∀ i,(OX l' (A+i)).tx=(OX l i).tx
 n:∀ i,(OX l' (A+i)).n=(OX l i).n
variable {f e:List Tk}{c:Nat}(a:jBc f e c)
include a
def jA0 {b:Nat}:fx e (c+b)=fx f b:=by unfold fx;rw[a.kd,a.tx]
def jA1 {d:Ou}{b:Nat}:jBb c (O6 f d b) (O6 e d (c+b)):=by
 unfold O6;exact jBb.ite (by rw[jA0 a]) jBb.ok jBb.badF
def jA2 {b:Nat}:jBb c (nameP f b) (nameP e (c+b)):=by
 unfold nameP;rw[a.tx]
 exact jBb.ite (by rw[a.kd]) jBb.ok jBb.badF
omit a in
def jA3 {i g:Nat->Nat->PR Tr}{d b:Nat}(h:jBb c (i (d+1) b) (g (d+1) (c+b))):jBb c (Pn f i d b) (Pn e g d (c+b)):=by
 unfold Pn;exact jBb.ite Iff.rfl jBb.badF h
def jA4 {shut:Ou}{begins i:Nat->Bool}{part part':Nat->PR Tr}(j:∀ b,i (c+b)=begins b)(k:∀ b,jBb c (part b) (part' (c+b))) :
  ∀ d g b,jBb c (Rx f shut begins part d g b) (Rx e shut i part' d g (c+b)):=by
 intro d
 induction d with
 | zero=>intro g b;exact jBb.out
 | succ d l=>
  intro g b;unfold Rx
  refine jBb.ite (by rw[j]) jBb.badF (jBb.bind (k b) λo n=>jBb.ite (by rw[jA0 a]) jBb.ok ?_)
  exact jBb.bind (jA1 a) λ_ m=>l _ m
def jA5 {i shut:Ou}{begins g:Nat->Bool}{part part':Nat->PR Tr}{d b:Nat}(j:∀ b,g (c+b)=begins b)(k:∀ b,jBb c (part b) (part' (c+b))) :
  jBb c (Vm f i shut begins part d b) (Vm e i shut g part' d (c+b)):=by
 unfold Vm;exact jBb.bind (jA1 a) λ_ l=>jBb.ite (by rw[jA0 a]) jBb.ok (jA4 a j k d [] l)
def jA6 {b:Nat}:isName e (c+b)=isName f b:=by unfold isName;rw[a.kd]
def jA7 {b:Nat}:isVal e (c+b)=isVal f b:=by unfold isVal;rw[jA0 a,a.kd]
structure jBd (A:Nat)(F F':Sv):Prop where
 fuel:F'.fuel=F.fuel
 st:∀ d i,jBb A (F.st d i) (F'.st d (A+i))
 vl:∀ d i,jBb A (F.vl d i) (F'.vl d (A+i))
 pr:∀ b d i,jBb A (F.pr b d i) (F'.pr b d (A+i))
 sg:∀ d i,jBb A (F.sg d i) (F'.sg d (A+i))
variable {g d:Sv}(b:jBd c g d)
include b
def jA8:∀ j i k l,jBb c (P8 f g i j k l) (P8 e d i j k (c+l)):=by
 intro j
 induction j with
 | zero=>intro i k l;exact jBb.out
 | succ j m=>
  intro i k l;unfold P8
  exact jBb.ite (by rw[jA0 a]) jBb.ok (jBb.bind (jA3 (b.st _ _)) λo n=>m i _ n)
def jA9 {j i:Nat}:jBb c (PV f g j i) (PV e d j (c+i)):=by
 unfold PV;rw[b.fuel]
 exact jBb.bind (jA1 a) λ_ k=>jBb.bind (jA8 a b _ _ _ _) λ_ _=>jBb.ok
omit b in
def jAa {i:Nat}:jBb c (TQ f i) (TQ e (c+i)):=by
 unfold TQ;exact jBb.bind (jA2 a) λ_ _=>jBb.ok
def jAb {i:Nat}:jBb c (Ry f g i) (Ry e d (c+i)):=by
 unfold Ry;rw[b.fuel]
 exact jBb.bind (jA5 a (λ_=>jA6 a) λ_=>jAa a) λ_ _=>jBb.ok
omit a in
def jAc {i j:Nat}:jBb c (acZ f g i j) (acZ e d i (c+j)):=jA3 (b.vl _ _)
def jAd {i j:Nat}:jBb c (VI f g i j) (VI e d i (c+j)):=by
 unfold VI;exact jBb.bind (jA2 a) λ_ _=>jBb.bind (jA1 a) λ_ _=>jBb.bind (jA3 (b.vl _ _)) λ_ _=>jBb.ok
def jAe {j i:Nat}:jBb c (Tj f g j i) (Tj e d j (c+i)):=by
 unfold Tj;exact jBb.bind (jA1 a) λ_ _=>jBb.bind (jA3 (b.vl _ _)) λ_ _=>jBb.bind (jA1 a) λ_ _=>jBb.ok
def jAf {i j:Nat}:jBb c (Uh f g i j) (Uh e d i (c+j)):=by
 unfold Uh;rw[b.fuel]
 exact jBb.bind (jA5 a (λ_=>jA6 a) λ_=>jAd a b) λ_ _=>jBb.ok
def jAg {k:Int}{l:Ou}{i j:Nat}:jBb c (QV f g k l i j) (QV e d k l i (c+j)):=by
 unfold QV;exact jBb.bind (jAb a b) λ_ _=>jBb.bind (jA9 a b) λ_ _=>jBb.ok
def jAh {i j:Nat}:jBb c (Ui f g i j) (Ui e d i (c+j)):=by
 unfold Ui;exact jBb.bind (jA1 a) λ_ _=>jBb.ite (by rw[jA6 a]) (jBb.bind (jA2 a) λ_ _=>jAg a b) (jAg a b)
def jAi {i j:Nat}:jBb c (XB f g i j) (XB e d i (c+j)):=by
 unfold XB;exact jBb.bind (jA1 a) λ_ _=>jBb.bind (jA2 a) λ_ _=>jAg a b
def jAj {i j:Nat}:jBb c (Ur f g i j) (Ur e d i (c+j)):=by
 unfold Ur;rw[jA0 a,a.kd,a.tx,a.n]
 split
 ·exact jAe a b
 ·exact jAf a b
 ·exact jAh a b
 ·split
  ·exact jBb.ok
  ·exact jBb.ite Iff.rfl jBb.ok (jBb.ite Iff.rfl jBb.ok (jBb.ite Iff.rfl jBb.ok jBb.badF))
def jAk:∀ j k l i,jBb c (QJ f g k j l i) (QJ e d k j l (c+i)):=by
 intro j
 induction j with
 | zero=>intro k m i;exact jBb.out
 | succ j m=>
  intro k l i;unfold QJ
  rw[b.fuel];refine jBb.ite (by rw[jA0 a]) (jBb.bind (jA2 a (b:=i+1)) λ_ _=>m _ _ _) (jBb.ite (by rw[jA0 a]) ?_ jBb.ok)
  exact jBb.bind (jA5 a (λ_=>jA7 a) λ_=>jAc b) λ_ _=>m _ _ _
def jAl {i j:Nat}:jBb c (TS f g i j) (TS e d i (c+j)):=by
 unfold TS;rw[b.fuel]
 exact jBb.bind (jAj a b) λ_ _=>jAk a b _ _ _ _
def jAm {j i:Nat}:jBb c (SH f g j i) (SH e d j (c+i)):=by
 unfold SH;rw[jA0 a]
 split
 ·exact jBb.bind (jA3 (b:=i+1) (b.sg _ _)) λ_ _=>jBb.ok
 ·exact jAl a b
def jAn:∀ j k l m i,jBb c (RQ f g k l j m i) (RQ e d k l j m (c+i)):=by
 intro j
 induction j with
 | zero=>intro k l n i;exact jBb.out
 | succ j n=>
  intro k l m i;unfold RQ
  rw[jA0 a]
  split
  ·exact jBb.ok
  ·exact jBb.ite Iff.rfl jBb.ok (jBb.bind (b.pr _ _ (i+1)) λ_ _=>n _ _ _ _)
def jAo {i:Int}{j k:Nat}:jBb c (Wj f g i j k) (Wj e d i j (c+k)):=by
 unfold Wj;rw[b.fuel]
 exact jBb.bind (b.sg _ _) λ_ _=>jAn a b _ _ _ _ _
def jAp {i j:Nat}:jBb c (UG f g i j) (UG e d i (c+j)):=by
 unfold UG;exact jBb.bind (b.pr _ _ _) λ_ k=>jBb.ite (by rw[jA0 a]) (jBb.ite Iff.rfl (jBb.bind (jA3 (b:=k+1) (b.vl _ _)) λ_ _=>jBb.ok) jBb.badF) jBb.ok
def jB0 {i j:Nat}:jBb c (XY f g i j) (XY e d i (c+j)):=by
 unfold XY;exact jBb.bind (jA3 (b.vl _ _)) λ_ _=>jBb.bind (jA1 a) λ_ _=>jBb.ok
def jB1 {j i:Nat}:jBb c (XW f g j i) (XW e d j (c+i)):=by
 unfold XW;rw[a.tx]
 refine jBb.bind (jA2 a (b:=i+1)) λ_ k=>jBb.ite (by rw[jA0 a]) jBb.badF (jBb.ite (by rw[jA0 a]) ?_ ?_)
 ·exact jBb.bind (jA3 (b:=k+1) (b.vl _ _)) λ_ _=>jBb.bind (jA1 a) λ_ _=>jBb.ok
 ·exact jBb.bind (jA1 a) λ_ _=>jBb.ok
def jB2 {j i:Nat}:jBb c (RI f g j i) (RI e d j (c+i)):=by
 unfold RI;rw[a.tx]
 exact jBb.bind (jAe a b (i:=i+1)) λ_ _=>jBb.bind (jA3 (b.st _ _)) λ_ _=>jBb.ok
def jB3 {j i:Nat}:jBb c (Uj f g j i) (Uj e d j (c+i)):=by
 unfold Uj;rw[a.tx]
 exact jBb.bind (jAe a b (i:=i+1)) λ_ _=>jBb.bind (jA3 (b.st _ _)) λ_ k=>jBb.ite (by rw[jA0 a]) (jBb.bind (jA3 (b:=k+1) (b.st _ _)) λ_ _=>jBb.ok) jBb.ok
def jB4 {j i:Nat}:jBb c (UH f g j i) (UH e d j (c+i)):=by
 unfold UH;rw[a.tx]
 refine jBb.ite (by rw[show c+i+1=c+(i+1) from rfl,jA0 a]) ?_ ?_
 ·exact jBb.bind (jA3 (b:=i+1) (b.vl _ _)) λ_ _=>jBb.bind (jA1 a) λ_ _=>jBb.ok
 ·exact jBb.bind (jA1 a (b:=i+1)) λ_ _=>jBb.ok
def jB5 {j i:Nat}:jBb c (Xh f g j i) (Xh e d j (c+i)):=by
 unfold Xh;exact jBb.ite (by rw[jA0 a]) (jBb.bind (jA1 a (b:=i+1)) λ_ _=>jBb.bind (jA2 a) λ_ _=>jBb.bind (jA1 a) λ_ _=>jBb.bind (jA9 a b) λ_ _=>jBb.ok) jBb.ok
def jB6 {j i:Nat}:jBb c (TW f g j i) (TW e d j (c+i)):=by
 unfold TW;exact jBb.ite (by rw[jA0 a]) (jBb.bind (jA9 a b (i:=i+1)) λ_ _=>jBb.ok) jBb.ok
def jB7 {i j:Nat}:jBb c (TY f g i j) (TY e d i (c+j)):=by
 unfold TY;exact jBb.bind (jA1 a) λ_ _=>jBb.bind (jA9 a b) λ_ _=>jBb.bind (jB5 a b) λ_ _=>jBb.bind (jB6 a b) λ_ _=>jBb.ite Iff.rfl jBb.badF jBb.ok
def jB8 {j k i:Nat}:jBb c (XC f g j i k) (XC e d j i (c+k)):=by
 unfold XC
 split
 ·exact jB1 a b
 ·exact jAi a b
 ·exact jA9 a b
 ·exact jBb.bind (jA1 a) λ_ _=>jBb.ok
 ·exact jB3 a b
 ·exact jB2 a b
 ·exact jB4 a b
 ·exact jB7 a b
def jB9 {i j:Nat}:jBb c (Qo f g i j) (Qo e d i (c+j)):=by
 unfold Qo;rw[jA0 a]
 split
 ·exact jB8 a b
 ·exact jB0 a b
omit b in
def jBa:∀ i,jBd c (fns f i) (fns e i):=by
 intro i
 induction i with
 | zero=>exact⟨rfl,λ_ _=>jBb.out,λ_ _=>jBb.out,λ_ _ _=>jBb.out,λ_ _=>jBb.out⟩
 | succ i j=>exact⟨rfl,λ_ _=>jB9 a j,λ_ _=>jAp a j,λ_ _ _=>jAo a j,λ_ _=>jAm a j⟩
end
def aqW {e s w:List Tk}{d:Nat}{q z A:Sv}(P:jBc e s d)(F:jBc e w d)(R:jBd d q z)(E:jBd d q A) :
  ∀ g o p c i j l m,Qi s z g o (d+c)=.ok i l->Qi w A g p (d+c)=.ok j m->∃ n,i=o++n/\j=p++n:=by
 intro g
 induction g with
 | zero=>intro o p c i j l m h;cases h
 | succ g I=>
  intro o p c i j l m a b;unfold Qi at a b;rw[P.kd] at a;rw[F.kd] at b
  by_cases C:(OX e c).kd=6
  ·rw[if_pos C] at a b;cases a;cases b;exact⟨[],by simp,by simp⟩
  ·rw[if_neg C] at a b;have⟨v,B,r,a⟩:=Pv a;have⟨T,S,H,b⟩:=Pv b;have t:=jA3 (f:=e) (e:=s) (d:=0) (R.st (0+1) c);have O:=jA3 (f:=e) (e:=w) (d:=0) (E.st (0+1) c)
   cases k:Pn e q.st 0 c with
   | ok D u=>
    have L:=(t.1 D u k).symm.trans r;have J:=(O.1 D u k).symm.trans H;cases L;cases J;obtain⟨n,N,M⟩:=I _ _ u i j l m a b;exact⟨v::n,by rw[N];simp,by rw[M];simp⟩
   | bad u D=>exact absurd r (t.2 (λ_ _ f=>by rw[k] at f;cases f) v B)
   | out=>exact absurd r (t.2 (λ_ _ f=>by rw[k] at f;cases f) v B)
def ad6 (a:Ou)(b c:Nat)(d:List Tk):Pn (⟨4,a,0,b⟩::⟨5,PY,0,c⟩::d) (fns (⟨4,a,0,b⟩::⟨5,PY,0,c⟩::d) KK).st 0 0=.ok (Hp.txE a) 2:=by kernel_rfl
def abg (c d:Tk)(b:List Tk):jBc b (c::d::b) 2:=by
 have h:∀ a,OX (c::d::b) (2+a)=OX b a:=λa=>by
  unfold OX;rw[List.getD_eq_getElem?_getD,List.getD_eq_getElem?_getD,show 2+a=a+1+1 by omega,List.getElem?_cons_succ,List.getElem?_cons_succ]
 constructor <;> intro a <;> rw[h]
def acL {d:Ou}{e:Tr}{a:List Tk}(f:Q7 O4 O0 d (OC PU d 0) []=.ok a)(h:Qu O4 O0 d=.ok e):∃ c,UJ a (fns a KK)=.ok e c:=by
 unfold Qu at h
 split at h
 ·
  cases h
 ·rw[f] at h;simp only at h
  cases b:UJ a (fns a KK) with
  | ok g c=>
   rw[b] at h;simp only at h
   split at h
   ·
    cases h
   ·
    cases h;exact⟨c,rfl⟩
  | bad g i=>rw[b] at h;cases h
  | out=>rw[b] at h;cases h
def aqX {a:Ou}{p q:Tr}(f:Qu O4 O0 (jk Wh a)=.ok p)(s:Qu O4 O0 (jk U2 a)=.ok q):∃ j,p=Hp.stA j/\q=Hp.stB j:=by
 have v:=ahR aqV rfl (by decide +kernel) a;have k:=ahR am7 rfl (by decide +kernel) a;have t:(jk Wh a).size=(jk U2 a).size:=by rw[ZH,ZH];rfl
 have J:∀ b,14<=b->(jk Wh a).data.toList.drop b=(jk U2 a).data.toList.drop b:=λb O=>by
  have n:=aco Wh a (b - 14);have l:=aco U2 a (b - 14);rw[show Wh.size+1+(b - 14)=b by show 13+1+(b - 14)=b;omega] at n
  rw[show U2.size+1+(b - 14)=b by show 13+1+(b - 14)=b;omega] at l
  rw[n,l]
 have i:∃ c,Q7 O4 O0 (jk Wh a) (OC PU (jk Wh a) 0) []=.ok c:=by
  unfold Qu at f
  split at f
  ·
   cases f
  ·
   cases l:Q7 O4 O0 (jk Wh a) (OC PU (jk Wh a) 0) [] with
   | ok c=>exact⟨c,rfl⟩
   | bad n U=>rw[l] at f;cases f
 obtain⟨c,i⟩:=i;have F:=v.symm.trans i;have S:=QU PU a 0 (Nat.zero_le _);obtain⟨d,u,o⟩:=am6 t J O4 O0 Hp.U4 _ (14+OC PU a 0) _ [⟨4,Hp.acJ,0,0⟩,⟨5,PY,0,12⟩] c rfl (by rw[ZH];show _<=13+1+a.size;omega) Oe F
 rw[<-k] at o;have⟨z,L⟩:=acL i f;have⟨C,B⟩:=acL o s;subst u;obtain⟨H,e,rfl⟩:=aan L;obtain⟨N,g,rfl⟩:=aan B;have M:∀ c,(fns c KK).fuel=24098+1:=λc=>rfl;rw[M] at e g;unfold Qi at e g;have r:∀ (m:Ou),¬ (OX ([⟨4,m,0,0⟩,⟨5,PY,0,12⟩]++d) 0).kd=6:=λm E=>by
  have k:(4:Int)=6:=E;exact absurd k Ol
 rw[if_neg (r _)] at e g;have⟨T,P,D,e⟩:=Pv e;have⟨V,R,I,g⟩:=Pv g;have w:=(ad6 aaP 0 12 d).symm.trans D;have A:=(ad6 Hp.acJ 0 12 d).symm.trans I;cases w;cases A;obtain⟨j,rfl,rfl⟩:=aqW (abg _ _ d) (abg _ _ d) (jBa (abg _ _ d) KK) (jBa (abg _ _ d) KK) _ _ _ 0 H N z C e g;exact⟨j,rfl,rfl⟩
