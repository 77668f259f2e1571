import Derived.Test.YticfnaiehdpbmaaGreatDoorFa22
import Derived.Test.YticfnaiehdpbmaaGreatDoorFa21
import Derived.Test.YticfnaiehdpbmaaGreatDoorFa23
import Derived.Test.YticfnaiehdpbmaaGreatDoorFa20
set_option maxRecDepth 100000
set_option maxHeartbeats 0
set_option linter.all false
namespace Go.Proofs.YticfnaiehdpbmaaGreatDoor
open Go.RowKit Go.Proofs.Tryz
namespace Hp
section
variable {M:Pe} {k I:Nat} {z:List Nat} {C fi fg fl fh:Px} {w w' w2:Pe} {g:St} {cL:Nat} {U:Fx} {au:Option Nat} {cD:Addr}
section
variable (N:kA M k C cD) (ah:Ms M k I z w g) {u:Ad} {a:Nd} (aJ:PX z w u a)
include N ah u a aJ
def alF (e:g.steps<=20000)(hst1:20000<=g.steps)(d:Pl)(o:Option Addr) :
  Pq 196 #[O5 k,O5 u.p,Qy d o] w (P5 M k I z C w ((vU,.stop),g.step)):=by
 have b{G}(h:G:=by
 have b{G}(h:G:=by
 have bc:=qH N bf e;rw[fL O9,N.is] at bc;have f:=Y N.is;obtain⟨D,c⟩:=xH u.p;rw[<-c.out] at b0 ⊢;clear F aW bo aY bC;go_enter jE,jA;have b{G}(h:G:=by
 have bF:=bE.trans am;have B:=T.lt;obtain⟨n,i,p,s,t,A,E⟩:=Qb aN.out;have b{G}(h:G:=by
 rw[<-aV];refine nz (v:=.tuple #[vA vU,.iface 359 (.pointer (some cD))]) ?_;exact⟨⟨_,rfl,f.out.symm⟩,aC,aD⟩):=O6 h;exact wl):=O6 h;exact mx):=O6 h;exact VF):=O6 h;exact Yf
def Z8 (e:a.2.kd=23)(n:g.steps<=20000)(hst1:g.steps<20000)(d:Pl)(o:Option Addr){c:(Va × Er) × St}(f:∀ L,Ms M k I z L g.step->PX z L u a->Pq 256 #[O5 k,O5 u.p,Qy d o] L (P5 M k I z C L c)) :
  Pq 196 #[O5 k,O5 u.p,Qy d o] w (P5 M k I z C w c):=by
 have b{G}(h:G:=by
 have t:=Y F;have b{G}(h:G:=by
 have b{G}(h:G:=by
 have p:=Y f;have i:(a.2.kd:Int)=23:=by rw[e]
 exact kK):=O6 h;exact Xv):=O6 h;exact VF):=O6 h;exact Yf
def LW (e:a.2.kd=24)(n:g.steps<=20000)(hst1:g.steps<20000)(d:Pl)(o:Option Addr){c:(Va × Er) × St}(f:∀ L,Ms M k I z L g.step->PX z L u a->Pq 257 #[O5 k,O5 u.p,Qy d o] L (P5 M k I z C L c)) :
  Pq 196 #[O5 k,O5 u.p,Qy d o] w (P5 M k I z C w c):=by
 have b{G}(h:G:=by
 have t:=Y F;have b{G}(h:G:=by
 have b{G}(h:G:=by
 have p:=Y f;have i:(a.2.kd:Int)=24:=by rw[e]
 exact kK):=O6 h;exact Xv):=O6 h;exact VF):=O6 h;exact Yf
def asC (e:a.2.kd=25)(n:g.steps<=20000)(hst1:g.steps<20000)(d:Pl)(o:Option Addr){c:(Va × Er) × St}(f:∀ L,Ms M k I z L g.step->PX z L u a->Pq 258 #[O5 k,O5 u.p,Qy d o] L (P5 M k I z C L c)) :
  Pq 196 #[O5 k,O5 u.p,Qy d o] w (P5 M k I z C w c):=by
 have b{G}(h:G:=by
 have t:=Y F;have b{G}(h:G:=by
 have b{G}(h:G:=by
 have p:=Y f;have i:(a.2.kd:Int)=25:=by rw[e]
 exact kK):=O6 h;exact Xv):=O6 h;exact VF):=O6 h;exact Yf
def Ng (e:a.2.kd=26)(n:g.steps<=20000)(hst1:g.steps<20000)(d:Pl)(o:Option Addr){c:(Va × Er) × St}(f:∀ L,Ms M k I z L g.step->PX z L u a->Pq 258 #[O5 k,O5 u.p,Qy d o] L (P5 M k I z C L c)) :
  Pq 196 #[O5 k,O5 u.p,Qy d o] w (P5 M k I z C w c):=by
 have b{G}(h:G:=by
 have t:=Y F;have b{G}(h:G:=by
 have b{G}(h:G:=by
 have p:=Y f;have i:(a.2.kd:Int)=26:=by rw[e]
 exact kK):=O6 h;exact Xv):=O6 h;exact VF):=O6 h;exact Yf
def Oe (e:a.2.kd=27)(n:g.steps<=20000)(hst1:g.steps<20000)(d:Pl)(o:Option Addr){c:(Va × Er) × St}(f:∀ L,Ms M k I z L g.step->PX z L u a->Pq 259 #[O5 k,O5 u.p,Qy d o] L (P5 M k I z C L c)) :
  Pq 196 #[O5 k,O5 u.p,Qy d o] w (P5 M k I z C w c):=by
 have b{G}(h:G:=by
 have t:=Y F;have b{G}(h:G:=by
 have b{G}(h:G:=by
 have p:=Y f;have i:(a.2.kd:Int)=27:=by rw[e]
 exact kK):=O6 h;exact Xv):=O6 h;exact VF):=O6 h;exact Yf
def alH (e:a.2.kd=28)(n:g.steps<=20000)(hst1:g.steps<20000)(d:Pl)(o:Option Addr){c:(Va × Er) × St}(f:∀ L,Ms M k I z L g.step->PX z L u a->Pq 259 #[O5 k,O5 u.p,Qy d o] L (P5 M k I z C L c)) :
  Pq 196 #[O5 k,O5 u.p,Qy d o] w (P5 M k I z C w c):=by
 have b{G}(h:G:=by
 have t:=Y F;have b{G}(h:G:=by
 have b{G}(h:G:=by
 have p:=Y f;have i:(a.2.kd:Int)=28:=by rw[e]
 exact kK):=O6 h;exact Xv):=O6 h;exact VF):=O6 h;exact Yf
def apa (e:a.2.kd=29)(n:g.steps<=20000)(hst1:g.steps<20000)(d:Pl)(o:Option Addr){c:(Va × Er) × St}(f:∀ L,Ms M k I z L g.step->PX z L u a->Pq 259 #[O5 k,O5 u.p,Qy d o] L (P5 M k I z C L c)) :
  Pq 196 #[O5 k,O5 u.p,Qy d o] w (P5 M k I z C w c):=by
 have b{G}(h:G:=by
 have t:=Y F;have b{G}(h:G:=by
 have b{G}(h:G:=by
 have p:=Y f;have i:(a.2.kd:Int)=29:=by rw[e]
 exact kK):=O6 h;exact Xv):=O6 h;exact VF):=O6 h;exact Yf
def P3 (e:a.2.kd=30)(n:g.steps<=20000)(hst1:g.steps<20000)(d:Pl)(o:Option Addr){c:(Va × Er) × St}(f:∀ L,Ms M k I z L g.step->PX z L u a->Pq 259 #[O5 k,O5 u.p,Qy d o] L (P5 M k I z C L c)) :
  Pq 196 #[O5 k,O5 u.p,Qy d o] w (P5 M k I z C w c):=by
 have b{G}(h:G:=by
 have t:=Y F;have b{G}(h:G:=by
 have b{G}(h:G:=by
 have p:=Y f;have i:(a.2.kd:Int)=30:=by rw[e]
 exact kK):=O6 h;exact Xv):=O6 h;exact VF):=O6 h;exact Yf
def apc (e:a.2.kd=31)(n:g.steps<=20000)(hst1:g.steps<20000)(d:Pl)(o:Option Addr){c:(Va × Er) × St}(f:∀ L,Ms M k I z L g.step->PX z L u a->Pq 259 #[O5 k,O5 u.p,Qy d o] L (P5 M k I z C L c)) :
  Pq 196 #[O5 k,O5 u.p,Qy d o] w (P5 M k I z C w c):=by
 have b{G}(h:G:=by
 have t:=Y F;have b{G}(h:G:=by
 have b{G}(h:G:=by
 have p:=Y f;have i:(a.2.kd:Int)=31:=by rw[e]
 exact kK):=O6 h;exact Xv):=O6 h;exact VF):=O6 h;exact Yf
def Mf (e:a.2.kd=32)(n:g.steps<=20000)(hst1:g.steps<20000)(d:Pl)(o:Option Addr){c:(Va × Er) × St}(f:∀ L,Ms M k I z L g.step->PX z L u a->Pq 260 #[O5 k,O5 u.p,Qy d o] L (P5 M k I z C L c)) :
  Pq 196 #[O5 k,O5 u.p,Qy d o] w (P5 M k I z C w c):=by
 have b{G}(h:G:=by
 have t:=Y F;have b{G}(h:G:=by
 have b{G}(h:G:=by
 have p:=Y f;have i:(a.2.kd:Int)=32:=by rw[e]
 exact kK):=O6 h;exact Xv):=O6 h;exact VF):=O6 h;exact Yf
def Mg (e:a.2.kd=33)(n:g.steps<=20000)(hst1:g.steps<20000)(d:Pl)(o:Option Addr){c:(Va × Er) × St}(f:∀ L,Ms M k I z L g.step->PX z L u a->Pq 261 #[O5 k,O5 u.p,Qy d o] L (P5 M k I z C L c)) :
  Pq 196 #[O5 k,O5 u.p,Qy d o] w (P5 M k I z C w c):=by
 have b{G}(h:G:=by
 have t:=Y F;have b{G}(h:G:=by
 have b{G}(h:G:=by
 have p:=Y f;have i:(a.2.kd:Int)=33:=by rw[e]
 exact kK):=O6 h;exact Xv):=O6 h;exact VF):=O6 h;exact Yf
def ag3 (e:a.2.kd=34)(n:g.steps<=20000)(hst1:g.steps<20000)(d:Pl)(o:Option Addr){c:(Va × Er) × St}(f:∀ L,Ms M k I z L g.step->PX z L u a->Pq 262 #[O5 k,O5 u.p,Qy d o] L (P5 M k I z C L c)) :
  Pq 196 #[O5 k,O5 u.p,Qy d o] w (P5 M k I z C w c):=by
 have b{G}(h:G:=by
 have t:=Y F;have b{G}(h:G:=by
 have b{G}(h:G:=by
 have p:=Y f;have i:(a.2.kd:Int)=34:=by rw[e]
 exact kK):=O6 h;exact Xv):=O6 h;exact VF):=O6 h;exact Yf
def Z7 (e:a.2.kd=35)(n:g.steps<=20000)(hst1:g.steps<20000)(d:Pl)(o:Option Addr){c:(Va × Er) × St}(f:∀ L,Ms M k I z L g.step->PX z L u a->Pq 263 #[O5 k,O5 u.p,Qy d o] L (P5 M k I z C L c)) :
  Pq 196 #[O5 k,O5 u.p,Qy d o] w (P5 M k I z C w c):=by
 have b{G}(h:G:=by
 have t:=Y F;have b{G}(h:G:=by
 have b{G}(h:G:=by
 have p:=Y f;have i:(a.2.kd:Int)=35:=by rw[e]
 exact kK):=O6 h;exact Xv):=O6 h;exact VF):=O6 h;exact Yf
def RA (e:a.2.kd=36)(n:g.steps<=20000)(hst1:g.steps<20000)(d:Pl)(o:Option Addr){c:(Va × Er) × St}(f:∀ L,Ms M k I z L g.step->PX z L u a->Pq 264 #[O5 k,O5 u.p,Qy d o] L (P5 M k I z C L c)) :
  Pq 196 #[O5 k,O5 u.p,Qy d o] w (P5 M k I z C w c):=by
 have b{G}(h:G:=by
 have t:=Y F;have b{G}(h:G:=by
 have b{G}(h:G:=by
 have p:=Y f;have i:(a.2.kd:Int)=36:=by rw[e]
 exact kK):=O6 h;exact Xv):=O6 h;exact VF):=O6 h;exact Yf
def OZ (e:a.2.kd=38)(n:g.steps<=20000)(hst1:g.steps<20000)(d:Pl)(o:Option Addr){c:(Va × Er) × St}(f:∀ L,Ms M k I z L g.step->PX z L u a->Pq 266 #[O5 k,O5 u.p,Qy d o] L (P5 M k I z C L c)) :
  Pq 196 #[O5 k,O5 u.p,Qy d o] w (P5 M k I z C w c):=by
 have b{G}(h:G:=by
 have t:=Y F;have b{G}(h:G:=by
 have b{G}(h:G:=by
 have p:=Y f;have i:(a.2.kd:Int)=38:=by rw[e]
 exact kK):=O6 h;exact Xv):=O6 h;exact VF):=O6 h;exact Yf
def ape (c:a.2.kd=18)(n:g.steps<=20000)(hst1:g.steps<20000)(d:Pl)(o:Option Addr) :
  Pq 196 #[O5 k,O5 u.p,Qy d o] w (P5 M k I z C w ((Vk a.2.tx,.no),g.step)):=by
 have b{G}(h:G:=by
 have b{G}(h:G:=by
 have b{G}(h:G:=by
 have f:(a.2.kd:Int)=18:=by rw[c]
 obtain⟨W,O⟩:=xH (Vk a.2.tx);rw[<-O.out];have e:Hid (∀ L,Pq 254 #[Pj a.2.tx] L λm w'=>m=PK (vA W)/\Pn L w'):=λL=>by
  show Calls _ _ _ _ _
  rw[O.out];exact qG a.2.tx L
 obtain⟨aF,i⟩:=xH a.2.tx;obtain⟨aD,p⟩:=xH a.2.n;rw[<-i.out] at e;exact uQ):=O6 h;exact Xv):=O6 h;exact VF):=O6 h;exact Yf
def alI (c:a.2.kd=19)(n:g.steps<=20000)(hst1:g.steps<20000)(d:Pl)(o:Option Addr) :
  Pq 196 #[O5 k,O5 u.p,Qy d o] w (P5 M k I z C w ((QE true,.no),g.step)):=by
 have b{G}(h:G:=by
 have b{G}(h:G:=by
 have b{G}(h:G:=by
 have f:(a.2.kd:Int)=19:=by rw[c]
 obtain⟨W,O⟩:=xH (QE true);rw[<-O.out];have e:Hid (∀ L,Pq 255 #[Pv true] L λm w'=>m=PK (vA W)/\Pn L w'):=λL=>by
  show Calls _ _ _ _ _
  rw[O.out];exact WI true L
 obtain⟨aF,i⟩:=xH a.2.tx;obtain⟨aD,p⟩:=xH a.2.n;exact uQ):=O6 h;exact Xv):=O6 h;exact VF):=O6 h;exact Yf
def NA (c:a.2.kd=20)(n:g.steps<=20000)(hst1:g.steps<20000)(d:Pl)(o:Option Addr) :
  Pq 196 #[O5 k,O5 u.p,Qy d o] w (P5 M k I z C w ((QE false,.no),g.step)):=by
 have b{G}(h:G:=by
 have b{G}(h:G:=by
 have b{G}(h:G:=by
 have f:(a.2.kd:Int)=20:=by rw[c]
 obtain⟨W,O⟩:=xH (QE false);rw[<-O.out];have e:Hid (∀ L,Pq 255 #[Pv false] L λm w'=>m=PK (vA W)/\Pn L w'):=λL=>by
  show Calls _ _ _ _ _
  rw[O.out];exact WI false L
 obtain⟨aF,i⟩:=xH a.2.tx;obtain⟨aD,p⟩:=xH a.2.n;exact uQ):=O6 h;exact Xv):=O6 h;exact VF):=O6 h;exact Yf
def iA (c:a.2.kd=17)(n:g.steps<=20000)(hst1:g.steps<20000)(d:Pl)(o:Option Addr) :
  Pq 196 #[O5 k,O5 u.p,Qy d o] w (P5 M k I z C w ((WT a.2.n,.no),g.step)):=by
 have b{G}(h:G:=by
 have b{G}(h:G:=by
 have b{G}(h:G:=by
 have f:(a.2.kd:Int)=17:=by rw[c]
 obtain⟨W,O⟩:=xH (WT a.2.n);rw[<-O.out];have e:Hid (∀ L,Pq 253 #[O3 a.2.n] L λm w'=>m=PK (vA W)/\Pn L w'):=λL=>by
  show Calls _ _ _ _ _
  rw[O.out];exact yo a.2.n L
 obtain⟨aF,i⟩:=xH a.2.tx;obtain⟨aD,p⟩:=xH a.2.n;rw[<-p.out] at e;exact uQ):=O6 h;exact Xv):=O6 h;exact VF):=O6 h;exact Yf
def ag6 (c:a.2.kd=37)(n:g.steps<=20000)(hst1:g.steps<20000)(d:Pl)(o:Option Addr){W:Va}{s:St}(e:∀ L,Ms M k I z L g.step->PX z L u a->Pq 265 #[O5 k,O5 u.p,Qy d o] L λm w'=>m=PK (vA W)/\Ms M k I z w' s/\P8 none k L w') :
  Pq 196 #[O5 k,O5 u.p,Qy d o] w (P5 M k I z C w ((W,.no),s)):=by
 have b{G}(h:G:=by
 have ac:=Y F;have b{G}(h:G:=by
 have b{G}(h:G:=by
 have t:=Y e;have i:(a.2.kd:Int)=37:=by rw[c]
 clear F aW bo aY bC e c;go_enter jE,jA;have b{G}(h:G:=by
 have aI:=Y (am.fR ac.out Pm);have b{G}(h:G:=by
 have p:=B.cells.1;have A:=B.cells.2.1;have E:=O4 t wz T B;rw[<-D.out] at p A E;have b{G}(h:G:=by
 rintro m aC ⟨rfl,ah,ax⟩;have f:=Y (ax.fR aN.out Pm);have ay:=bF.trans ax;clear ai aO aj aD aF A p;obtain⟨u0,u1,u2,aK,aL,aQ,a1⟩:=Qb f.out;go_wp2_with fail;obtain⟨bn,aV,aG,S,O,bm,be,bj⟩:=iT f.out a7.out aS ay ah (O3 W.k) (O3 W.n) (Pj W.s);refine wm ?_;exact⟨⟨_,rfl,rfl⟩,O,S⟩):=O6 h;exact sv):=O6 h;exact sf):=O6 h;exact mx):=O6 h;exact Xv):=O6 h;exact VF):=O6 h;exact Yf
def alJ (e:a.2.kd=21)(n:g.steps<=20000)(hst1:g.steps<20000)(d:Pl)(o:Option Addr) :
  Pq 196 #[O5 k,O5 u.p,Qy d o] w (P5 M k I z C w ((oR,.no),g.step)):=by
 have b{G}(h:G:=by
 have b{G}(h:G:=by
 have b{G}(h:G:=by
 have c:(a.2.kd:Int)=21:=by rw[e]
 clear e;clear F aW bo aY bC;go_enter jE,jA;have b{G}(h:G:=by
 have b{G}(h:G:=by
 obtain⟨t,f,_⟩:=B.cells;rw[<-D.out] at t f;rw[c] at f;clear c;obtain⟨u0,u1,u2,A,E,O,R⟩:=Qb aN.out;go_wp2_with fail;obtain⟨bn,p,v,s,i,bm,be,bj⟩:=iT aN.out a7.out aS bF T (O3 1) (O3 0) (Qn);rw[<-p];refine hf (v:=.tuple #[vA oR,QW]) (by simp[results,results196,go_sem,bm,be,bj,oR]) rfl ?_;exact⟨⟨_,rfl,rfl⟩,i,s⟩):=O6 h;exact sf):=O6 h;exact mx):=O6 h;exact Xv):=O6 h;exact VF):=O6 h;exact Yf
def ajl (aL:a.2.kd≠17/\a.2.kd≠18/\a.2.kd≠19/\a.2.kd≠20/\a.2.kd≠21/\a.2.kd≠23/\a.2.kd≠24/\a.2.kd≠25/\a.2.kd≠26/\a.2.kd≠27/\a.2.kd≠28/\a.2.kd≠29/\a.2.kd≠30/\a.2.kd≠31/\a.2.kd≠32/\a.2.kd≠33/\a.2.kd≠34/\a.2.kd≠35/\a.2.kd≠36/\a.2.kd≠37/\a.2.kd≠38)(n:g.steps<=20000)(hst1:g.steps<20000)(d:Pl)(o:Option Addr) :
  Pq 196 #[O5 k,O5 u.p,Qy d o] w (P5 M k I z C w ((vU,.no),g.step)):=by
 have b{G}(h:G:=by
 have b{G}(h:G:=by
 have b{G}(h:G:=by
 obtain⟨ac,ai,aj,ay,aF,i,a1,p,s,t,A,E,O,S,W,f,a6,aG,aI,a8,aK⟩:=aL;obtain⟨bi,e⟩:=xH a.2.kd;rw[<-e.out] at ac ai aj ay aF i a1 p s t A E O S W f a6 aG aI a8 aK;clear F aW bo aY bC;go_enter jE,jA;have b{G}(h:G:=by
 have b{G}(h:G:=by
 obtain⟨aO,c,_⟩:=B.cells;rw[<-D.out] at aO c;rw[<-e.out] at c;obtain⟨u0,u1,u2,aX,bq,bv,bx⟩:=Qb aN.out;have b{G}(h:G:=by
 rw[<-aV];refine nz (v:=.tuple #[vA vU,QW]) ?_;exact⟨⟨_,rfl,rfl⟩,aC,aD⟩):=O6 h;exact wl):=O6 h;exact sf):=O6 h;exact mx):=O6 h;exact Xv):=O6 h;exact VF):=O6 h;exact Yf
end
def acD (aK:kA M k C cD)(ah:Ms M k I z w g){u:Ad}{t:Nd}(aJ:PX z w u t)(bB:t.2.kd=6)(bS:g.steps<=20000)(hst1:g.steps<20000)(p:Pl){d:Option Va}(ba:PU w au d){ac:Pl}{aD:St}{ai:(Oc × Er × Option Va) × St}
  (bx:∀ L,Ms M k I z L g.step->PX z L u t->Pq 110 #[O5 k,O5 u.p,Qy p (LA au)] L λm w'=>m=PK (Qy ac (LA au))/\Ms M k I z w' aD/\P8 none k L w')
  (bV:∀ L cr,Ms M k I z L aD->TY 0 L cr u.ks->UW z L u.ks (QB t)->PU L au d->Pq 28 #[O5 k,cr,Qy ac (LA au)] L (QG M k I z C au L ai)) :
  Pq 53 #[O5 k,O5 u.p,Qy p (LA au)] w (QG M k I z C au w ai):=by
 have b{G}(h:G:=by
 have b{G}(h:G:=by
 have b{G}(h:G:=by
 have b{G}(h:G:=by
 have bY:=Y F;have b{G}(h:G:=by
 have b{G}(h:G:=by
 have b2:=Y bx;have b7:=Y bV;have aF:(t.2.kd:Int)=6:=by rw[bB]
 clear F aW b3 aY b6 bx bV bB;go_enter func53,jC;have b{G}(h:G:=by
 have B:=Y (am.fR bY.out Pm);have b{G}(h:G:=by
 obtain⟨ua,bZ,D,bU⟩:=aC.ar;obtain⟨b9,bT⟩:=xE t.2.fJ.length;rw[<-bT] at D bU;have ci:=aC.lT;have E:=aC.gw;rw[<-bq.out] at be A D E;rw[aF] at A;have b4:=Y D;have cg:=Y E;have cw:=fI B.out;clear aF D E bT;go_wp2_with fail;have a:P8 none k wz wz.drew:=P8.of RP.drew (P6 bI);have bF:=O4 b2 _ (T.fH (f2 _ wz).drew) (aC.kp (Kp.of (f2 _ wz).drew));rw[<-bq.out,<-b1.out] at bF;refine Qq 9 (λL=>P8 none k wz L) Qs ?_;refine kI ?_
 refine uc 4 (.slice ua b9 bZ) rfl (fM ⟨by kernel_rfl,λL i=>by have aO:=i.Vo.UG b4.out cg.out (fM rfl);go_simp⟩) (a) ?_
 refine up 5 k 0 a ?_;refine up 6 aj 0 a ?_;refine uc 7 (.agg #[O3 l,O3 q,Pv r,.pointer o]) rfl (fM ⟨by kernel_rfl,λL i=>by have aO:=(fN (i.fR B.out Pm)).1;have ad:=(fN (i.fR B.out Pm)).2.1;have ak:=(fN (i.fR B.out Pm)).2.2.1;have s:=(fN (i.fR B.out Pm)).2.2.2.1;go_simp⟩) (a) ?_
 refine Rl 8 λK c=>?_;go_simp;refine cm bF ?_;rintro m wf ⟨rfl,cu,cn⟩;have f:P8 none k wz wf:=a.trans cn;refine c.out _ _ (λ_=>f) ?_;clear c K;have bG:=O4 b7 wf _ cu (bU.kp f.Vo) (UW.kp f.Vo _ _ ci) (a1.fR f);rw[<-b1.out] at bG;have ck:=Y (f.fR aN.out Pm);have ch:=bv.trans f;have bW:=a1.fR f;refine Rl 9 λK c=>?_;go_simp;refine cm bG ?_;have b{G}(h:G:=by
 have bR:=Y (ax.TL bW ck.out Pm Pm);have cp:=ch.up.trans ax;obtain⟨bL,cl⟩:=xH ai.1.1;rw[<-cl.out];obtain⟨u0,u1,u2,u3,cy,cz,cA,cC,cB⟩:=RN bR.out;refine uz 10 (Xo bL) ?_;refine uz 11 s ?_;refine uaZ 12 ?_;refine uz 13 s ?_;refine TQ ?_ _;go_simp;exact wE):=O6 h;exact mI):=O6 h;exact rp):=O6 h;exact mx):=O6 h;exact xc):=O6 h;exact VF):=O6 h;exact jY):=O6 h;exact YA):=O6 h;exact jq):=O6 h;exact jT
def uE:Er->Bool
 | .no=>true
 | _=>false
def abI (aK:kA M k C cD)(ah:Ms M k I z w g){u:Ad}{aQ:Nd}(aJ:PX z w u aQ)(bR:aQ.2.kd=10)(bS:g.steps<=20000)(hst1:g.steps<20000)(p:Pl){d:Option Va}(ba:PU w au d){f:Va}{E:Er}{bF:St}
  (bT:∀ L cr,Ms M k I z L g.step->PX z L u aQ->TY 0 L cr u.ks->Pq 114 #[O5 k,cr,Qy p (LA au)] L (P5 M k I z C L ((f,E),bF))) :
  Pq 53 #[O5 k,O5 u.p,Qy p (LA au)] w (QG M k I z C au w ((⟨uE E,f⟩,E,d),bF)):=by
 have b{G}(h:G:=by
 have b{G}(h:G:=by
 have b{G}(h:G:=by
 have b{G}(h:G:=by
 have ch:=Y F;have b{G}(h:G:=by
 have b{G}(h:G:=by
 have ay:=aK.XO;have cg:=Y bT;have bM:(aQ.2.kd:Int)=10:=by rw[bR]
 clear F aW b3 aY b6 bT bR;go_enter func53,jC;go_wp2_with fail;refine iz ?_;clear bu bh;refine cm bc ?_;rintro m aD ⟨rfl,T,am⟩;have ck:=Y (am.fR bQ.out Pm);have bU:=Y (am.fR ch.out Pm);have b{G}(h:G:=by
 obtain⟨ua,cG,aV,bY⟩:=aC.ar;obtain⟨cM,bW⟩:=xE aQ.2.fJ.length;rw[<-bW] at aV bY;have aF:=Y (λL (i:Pn aD L)=>O4 cg L _ (T.fH i) (aC.kp (Kp.of i)) (bY.fH i));rw[<-b1.out] at aF;rw[<-bq.out] at be A aV;rw[bM] at A;have ci:=Y aV;have cl:=Y (fN bU.out);have cO:=fI bU.out;clear bM aV bW;go_wp2_with fail;refine WJ (H:=λwz D s=>VB M k I z C aD f E bF wz D s) (G:=?GG) (λaN=>?ways) ?rest
 case ways=>
  refine UC 6 λa=>?_;refine kI ?_;refine uk 4 ci.out a ?_;refine kT 5 cl.out a ?_;refine jS 6 10 (λK c=>?_) λK c=>?_
  ·go_simp;refine l9 ?_;have b{G}(h:G:=by
   refine tj ?_;refine uaZ 10 ?_;refine q1 ?_;have ac:=VB.late (v:=f) aG ah ((P8.of a (P6 bI)).trans ax);exact qY):=O6 h;exact kP
  ·go_simp;refine kG ?_;clear c K;refine Rl 6 λK c=>?_;go_simp;refine ov ?_;have b{G}(h:G:=by
   have B:aI.heap[aD.heap.size]? = some (PZ #[O3 0,O3 0,Qn] 65):=ax.fR (Ph _ _) Pm;obtain⟨bo,a6,br,bj,bm,bn,bx⟩:=Qb B;refine tj ?_;refine q1 ?_;have ac:=VB.early (v:=f) B Qp (P6 bI) aG ah ((P8.of (QJ.drew) (P6 bI)).trans ax)
   generalize ((aI.setCell (O7 aD.heap.size 0) (O3 f.k)).setCell (O7 aD.heap.size 1) (O3 f.n)).setCell (O7 aD.heap.size 2) (Pj f.s)=wz at ac ⊢
   generalize aD.heap.size=D at ac ⊢
   exact aN wz D s ac):=O6 h;exact kP
 case rest=>
  rintro cK D s ac;have bD:=Y (ac.fr.fR ck.out Pm);have bZ:=bv.trans ac.fr;have cp:=a1.fR ac.fr;have bV:=Y (fX ac.v);have b4:=ac.ms;have cn:=ac.er;have cu:=ac.ms.lt;have cP:=fI ac.v;obtain⟨cy,cw,cz,cJ,cA,cB,cC,cQ,cR⟩:=RN bD.out
  by_cases B:E=.no
  ·have bC:s=QW:=by have h:=ac.er;rw[B] at h;exact h
   subst bC;have b9:Hid (uE E=true):=by rw[B];rfl
   go_wp2_with fail;refine UC 5 λa=>?_;refine uh 0 QW (a) ?_;refine uh 1 (Pv true) (a) ?_;refine jN 2 bV.out a ?_;refine uh 3 (.agg #[Pv true,O3 f.k,O3 f.n,Pj f.s]) (a) ?_;refine uh 4 QW (a) ?_;refine uaZ 5 ?_;refine uz 6 QW ?_;refine TQ ?_ _;go_simp;go_wp2_with fail;obtain⟨a6,bB,bL,b7,bG,bn,bm,bj,bo⟩:=kH bD.out a7.out aS (P8.up (L:=au) bZ) b4 (Pv true) (O3 f.k) (O3 f.n) (Pj f.s);rw[<-bB];refine Xp (v:=.tuple #[Xo ⟨true,f⟩,QW]) ?_;exact KO
  ·obtain⟨aG,aI,bC⟩:=ac.er.XO B ay;subst bC;have b9:Hid (uE E=false):=by
    show _=_
    exact jZ
   go_wp2_with fail;refine UC 5 λa=>?_;refine uh 0 (.iface aG aI) (a) ?_;refine uh 1 (Pv false) (a) ?_;refine jN 2 bV.out a ?_;refine uh 3 (.agg #[Pv false,O3 f.k,O3 f.n,Pj f.s]) (a) ?_;refine uh 4 (.iface aG aI) (a) ?_;refine uaZ 5 ?_;refine uz 6 (.iface aG aI) ?_;refine TQ ?_ _;go_simp;go_wp2_with fail;obtain⟨a6,bB,bL,b7,bG,bn,bm,bj,bo⟩:=kH bD.out a7.out aS (P8.up (L:=au) bZ) b4 (Pv false) (O3 f.k) (O3 f.n) (Pj f.s);rw[<-bB];refine Xp (v:=.tuple #[Xo ⟨false,f⟩,.iface aG aI]) ?_;exact KO):=O6 h;exact rp):=O6 h;exact xc):=O6 h;exact VF):=O6 h;exact jY):=O6 h;exact YA):=O6 h;exact jq):=O6 h;exact jT
def p8 {w:Pe}{a:Nat}{x:Px}{c:TypeId}(h:w.heap[a]? = some (PZ #[x] c)):w.cell? (O7 a 0)=some x/\(∀ b,w.frozen? (O7 a b)=false)/\a<w.heap.size:=by
 refine⟨?_,λb=>?_,fI h⟩
 ·rw[cell_of h];rfl
 ·simp[World.frozen?,h]
section
variable (ai:kA M k C cD) (ah:Ms M k I z w g) {u:Ad} {c:Nd} (D:Pl) (aL:Oc) {d:Option Va} (am:PU w au d)
include ai ah u c D aL d am
def YY :
  Pq 201 #[O5 k,O5 u.p,Qy D (LA au),Xo aL,QW] w (QG M k I z C au w (WR U c D aL .no d g)):=by
 obtain⟨be,f⟩:=xE (LA au);rw[<-f];have b{G}(h:G:=by
 have b{G}(h:G:=by
 have b{G}(h:G:=by
 have N:Pq 32 #[QW,.iface 123 (PL F 0)] w2 λm w'=>m=PK (Pv false)/\Pn w2 w':=(Fb F w2 123).mono (by rintro m w' ⟨rfl,rfl⟩;exact⟨rfl,RP⟩)
 obtain⟨aC,e⟩:=xE u.p;obtain⟨ay,a⟩:=xE (WR U c ⟨r,E,ap⟩ ⟨o,⟨p,on,l⟩⟩ .no d g);rw[<-a,<-e];have n:ay=((⟨o,⟨p,on,l⟩⟩,.no,d),g):=a;have b{G}(h:G:=by
 refine Xp (v:=.tuple #[Xo ⟨o,⟨p,on,l⟩⟩,QW]) ?_;rw[A.out];exact⟨⟨_,rfl,rfl⟩,q,s,B.Uy t⟩):=O6 h;exact wo):=O6 h;exact ym):=O6 h;exact oW):=O6 h;exact s6
def Tu :
  Pq 201 #[O5 k,O5 u.p,Qy D (LA au),Xo aL,.iface 34 (O3 7)] w (QG M k I z C au w (WR U c D aL .ir d g)):=by
 obtain⟨be,f⟩:=xE (LA au);rw[<-f];have b{G}(h:G:=by
 have b{G}(h:G:=by
 have b{G}(h:G:=by
 have N:Pq 32 #[.iface 34 (O3 7),.iface 123 (PL F 0)] w2 λm w'=>m=PK (Pv false)/\Pn w2 w':=auM 7 F w2 T (tf 0) S O;obtain⟨aC,e⟩:=xE u.p;obtain⟨ay,a⟩:=xE (WR U c ⟨r,E,ap⟩ ⟨o,⟨p,on,l⟩⟩ .ir d g);rw[<-a,<-e];have n:ay=((⟨o,⟨p,on,l⟩⟩,.ir,d),g):=a;have b{G}(h:G:=by
 refine Xp (v:=.tuple #[Xo ⟨o,⟨p,on,l⟩⟩,.iface 34 (O3 7)]) ?_;rw[A.out];exact⟨⟨_,rfl,rfl⟩,q,s,B.Uy t⟩):=O6 h;exact wo):=O6 h;exact ym):=O6 h;exact oW):=O6 h;exact s6
def Tx :
  Pq 201 #[O5 k,O5 u.p,Qy D (LA au),Xo aL,.iface 359 (.pointer (some cD))] w (QG M k I z C au w (WR U c D aL .stop d g)):=by
 obtain⟨be,f⟩:=xE (LA au);rw[<-f];have b{G}(h:G:=by
 have b{G}(h:G:=by
 have b{G}(h:G:=by
 have N:Pq 32 #[.iface 359 (.pointer (some cD)),.iface 123 (PL F 0)] w2 λm w'=>m=PK (Pv false)/\Pn w2 w':=B0 cD F w2 T (tf 0) S O;have aC:=Y ai.is;obtain⟨aZ,e⟩:=xE u.p;obtain⟨ay,a⟩:=xE (WR U c ⟨r,E,ap⟩ ⟨o,⟨p,on,l⟩⟩ .stop d g);rw[<-a,<-e];have n:ay=((⟨o,⟨p,on,l⟩⟩,.stop,d),g):=a;have b{G}(h:G:=by
 refine Xp (v:=.tuple #[Xo ⟨o,⟨p,on,l⟩⟩,.iface 359 (.pointer (some cD))]) ?_;rw[A.out];exact⟨⟨_,rfl,aC.out.symm⟩,q,s,B.Uy t⟩):=O6 h;exact wo):=O6 h;exact ym):=O6 h;exact oW):=O6 h;exact s6
end
def ao7 (dN:kA M k C cD)(dH:Bs M k I z C)(ah:Ms M k I z w g){u:Ad}{q:Nd}(aJ:PX z w u q)(ai:q.2.fJ.length=1)(D:Pl)(aL:Oc)(T:Nat)(x:Va)(b4:w.heap[T]? = some (PZ #[O3 x.k,O3 x.n,Pj x.s] 126)){d:Option Va}(ba:PU w au d)
  (dG:Sz cL g) (c8:cL<1000000000) (de:(g.M.ro D.scope).isSome=true) (cU:Sz cL (g.gq D.scope (-1) (own q)))
  (ad:Yz M k I z C ((g.gq D.scope (-1) (own q)).hi g.gg q.2.tx 0 x) (Pg q 0) { D with scope:=g.gg } au d (U.s (Pg q 0) { D with scope:=g.gg } d ((g.gq D.scope (-1) (own q)).hi g.gg q.2.tx 0 x))) :
  Pq 201 #[O5 k,O5 u.p,Qy D (LA au),Xo aL,.iface 122 (PL T 0)] w (QG M k I z C au w (WR U q D aL (.Yq x) d g)):=by
 obtain⟨be,dc⟩:=xH (LA au);rw[<-dc.out];have b{G}(h:G:=by
 have b{G}(h:G:=by
 have bK{G}(h:G:=by
 have dS:=Y cA;have ey:=Y aD;have dq:=Y aW;have dO:=Y bV;have a7:=Y bQ;have bT:=Y bW;have bU:=Y cJ;have dz:=Y cG;have d7:=Y ac;have eD:=ba.fH bh;obtain⟨dh,tf,dg⟩:=p8 aD;have da:=dN.vn bY;have d9:=Fj T F w2 aD dh (tf 0) dg da;have eM:=fI b4;have cS:T≠W:=O9;have dE:=Y cS;have dF:=Y b4;have eq:=ah;have dU:=Y ai;have dA:=Y de;obtain⟨aj,aF⟩:=xH u.p;obtain⟨cu,dd⟩:=xH (own q:Int)
 obtain⟨A,b3⟩:=xH (g.gg:Int);obtain⟨dJ,b1⟩:=xH (g.gq r (-1) (own q));obtain⟨dl,cP⟩:=xH ((g.gq r (-1) (own q)).hi g.gg q.2.tx 0 x);obtain⟨aK,ch⟩:=xE (WR U q ⟨r,E,ap⟩ ⟨o,⟨p,on,l⟩⟩ (.Yq x) d g);have dY:Yz M k I z C dl (Pg q 0) ⟨A,E,ap⟩ au d aK:=by
  show Yz _ _ _ _ _ _ _ _ _ _ _
  rw[ch,b3.out,cP.out];exact ad
 rw[<-ch,<-aF.out];clear ai cA bV cB aD aW ch bW bQ cJ cG ac dh tf dg da b4 de ad cS;go_enter func201,ntmps201;go_wp2_with fail;refine J_ ?_;clear bO bu b0 cK cM;refine cm d9 ?_;rintro m wz ⟨rfl,dn,cn⟩;have ac:=O4 d7;have aZ:Pn w wz:=bh.trans (cn.mono ac.2.2.2);have dy:=Y dn;have cg:=Y ((cn.block W ac.1).trans dS.out);have d0:=Y ((cn.block H ac.2.2.1).trans dO.out);have cq:=eq.fH aZ;have d4:=ba.fH aZ;have cy:=aJ.kp (Kp.of aZ);have ee:=Y (fQ aZ dF.out)
 have dX:=P8.of (L:=none) aZ (P6 aS);have ek:=Y (fN cg.out);have d2:=cq.lt;have eG:=fI cg.out;have eE:aj<wz.heap.size:=by rw[aF.out];exact cy.cells.1
 have dB:Hid (∀ L,Pn wz L->Pq 51 #[O5 k,O5 aj] L λm w'=>m=PK (O3 cu)/\Pn wz w'):=λL i=>by
  obtain⟨_,_,_,_,bi⟩:=cq.fH i;rw[aF.out,dd.out];exact(ZA dH bi (cy.kp (Kp.of i))).mono (by rintro m w' ⟨rfl,rfl⟩;exact⟨rfl,i⟩)
 have dT:Hid (∀ L,Pn wz L->Pq 50 #[O5 k,O3 r,O3 (-1),O3 cu] L λm w'=>m=PK (O3 A)/\Ms M k I z w' dJ/\P8 none k wz w'):=λL i=>by
  obtain⟨_,_,_,_,bi⟩:=cq.fH i;refine(pi bi dG c8 r (-1) cu dA.out).mono ?_;rintro m w' ⟨rfl,f,ck,b6⟩;rw[b3.out,b1.out,<-dd.out];exact⟨rfl,⟨_,_,_,_,ck⟩,(P8.of i (P6 d2)).trans (b6.jn bi)⟩
 clear dn ac;go_wp2_with fail;refine UC 6 λa=>?_;refine up 0 k 0 a ?_;refine up 1 W 0 a ?_;refine uk 2 (ek.out.1) a ?_;refine up 3 k 0 a ?_;refine up 4 aj 0 a ?_;refine Rl 5 λK c=>?_;go_simp;refine cm (O4 dB _ a) ?_;rintro m eB ⟨rfl,cR⟩;refine c.out _ _ (λ_=>cR) ?_;clear c K;refine Rl 6 λK c=>?_;go_simp;refine cm (O4 dT _ cR) ?_;rintro m bG ⟨rfl,dp,aC⟩;refine ko c ?_;clear c K;have a1:=Y (aC.fR cg.out Pm);have am:=Y (aC.fR d0.out Pm);have ds:=Y (aC.fR dy.out Pm)
 have dZ:=Y (aC.fR ee.out Pm);have ep:=d4.fR aC;have dQ:=dX.trans aC;have ed:=cy.kp aC.Vo;obtain⟨dI,ej,dP,dR,aN,dV⟩:=fN a1.out;have b{G}(h:G:=by
 have b{G}(h:G:=by
 have bE:=Y (ZB a1.out (O3 A));have d6:Hid (bF.heap[H]? = some (PZ #[Pv false,O3 0,O3 0,Qn] 67)):=tO
 have cQ:Hid (bF.heap[F]? = some (PZ #[PL T 0] 122)):=by
  show _=_
  rw[bq,gV _ _ _ _ (h6 dz.out)];exact O4 ds
 have cZ:Hid (bF.heap[T]? = some (PZ #[O3 x.k,O3 x.n,Pj x.s] 126)):=by
  show _=_
  rw[bq,gV _ _ _ _ dE.out];exact O4 dZ
 have cV:=dQ.hX bv (tY bT.out _);have di:=ep.Uy bv;have cw:=ed.kp b7;rw[<-bq] at bS bE cV di cw ⊢;have eo:=Y (fN bE.out);have dt:=Y (p8 cQ.out);have dD:=Y (fX cZ.out);have d3:=bS.lt;have eI:=fI bE.out;have ez:=fI cQ.out;have eF:=fI cZ.out;obtain⟨dj,cf⟩:=xE q.2.tx;have bx:=cw.cells;rw[<-aF.out,<-cf] at bx;have em:=Y bx;have eK:=bx.1
 have en:Hid (∀ L,Pn bF L->Pq 128 #[O5 k,O3 A,Pj dj,O3 0,vA x] L λm w'=>(∃ s,m=PK s)/\Ms M k I z w' dl/\P8 none k bF w'):=λL i=>by
  obtain⟨_,_,_,_,bi⟩:=bS.fH i;rw[<-b1.out] at cU;refine(X7 bi cU c8 A dj 0 x).mono ?_;rintro m w' ⟨rfl,ck,b6⟩;rw[cP.out,<-b1.out,<-b3.out,<-cf];exact⟨⟨_,rfl⟩,⟨_,_,_,_,ck⟩,(P8.of i (P6 d3)).trans (P8.jR b6)⟩
 clear bq dI ej dP dR dV cz bx cf;go_wp2_with fail;refine UC 13 λa=>?_;refine iy ?_;refine up 3 W 0 a ?_;refine uk 4 (eo.out.1) a ?_;refine uB ?_;refine uk 8 (em.out.2.2.1) a ?_;refine uk 9 (dt.out.1) a ?_;refine up 10 T 0 a ?_;refine up 11 T 0 a ?_;refine jN 12 dD.out a ?_;refine Rl 13 λK c=>?_;go_simp;refine cm (O4 en _ a) ?_;rintro m dM ⟨⟨s,rfl⟩,dk,bf⟩;refine ko c ?_;clear c K;have c9:=Y (bf.fR bE.out Pm);have d5:=Y (bf.fR d6.out Pm);have dm:=di.fR bf
 have dr:=cV.trans bf;have ec:=cw.kp bf.Vo;refine TQ ?_ _;go_simp;have cT:=O4 dU;obtain⟨cO,bI,eC,aY,bB,d1,_⟩:=ec.Zf (a:=0) O9;rw[cT] at aY;obtain⟨eH,b9⟩:=xE cO.p;have dC:=Y (fN c9.out);have bc:=Y (λL (i:Pn dM L)=>dY L cO (dk.fH i) (d1.kp (Kp.of i)) (dm.fH i));rw[<-dc.out,<-b9] at bc;rw[<-aF.out] at aY;rw[<-b9] at bB;have ci:=Y aY;have ea:=Y bB;have d8:=dk.lt;have eJ:=fI c9.out;have eN:=fV aY;have eL:=fV bB;clear cT aY bB b9
 go_wp2_with fail;refine UC 8 λa=>?_;refine vq ?_;refine uk 6 ea.out a ?_;refine kT 7 dC.out a ?_;refine Rl 8 λK c=>?_;go_simp;refine tt ?_;have b{G}(h:G:=by
 have bZ:=(P8.of (L:=au) a (P6 d8)).trans ax;have bR:=Y (bZ.TL dm d5.out Pm Pm);have cp:=dr.up.trans bZ;exact wi):=O6 h;exact mI):=O6 h;exact BO):=O6 h;exact Aa):=O6 h;exact KI):=O6 h;exact oW):=O6 h;exact s6
def O0 (e:kA M k C cD)(r:Bs M k I z C)(f:Ms M k I z w g){n:Ad}{b:Nd}(A:PX z w n b)(o:b.2.fJ.length=1)(a:Pl)(d:Oc){j:Er}{c:Px}(i:X8 C w c j){m:Option Va}(l:PU w au m)(v:cL<1000000000)
  (u:∀ x,j=.Yq x->Sz cL g/\(g.M.ro a.scope).isSome=true/\Sz cL (g.gq a.scope (-1) (own b))/\Yz M k I z C ((g.gq a.scope (-1) (own b)).hi g.gg b.2.tx 0 x) (Pg b 0) { a with scope:=g.gg } au m (U.s (Pg b 0) { a with scope:=g.gg } m ((g.gq a.scope (-1) (own b)).hi g.gg b.2.tx 0 x))) :
  Pq 201 #[O5 k,O5 n.p,Qy a (LA au),Xo d,c] w (QG M k I z C au w (WR U b a d j m g)):=by
 cases j with
 | no=>obtain rfl:c=.nilIface:=i;exact YY e f a d l
 | stop=>rw[show c=.iface 359 (.pointer (some cD)) from (show c=C from i).trans e.is];exact Tx e f a d l
 | ir=>obtain rfl:c=.iface 34 (O3 7):=i;exact Tu e f a d l
 | Yq x=>
  obtain⟨B,rfl,h⟩:=i;obtain⟨p,s,q,t⟩:=u x rfl;exact ao7 e r f A o a d B x h l p v s q t
def VA (U:Fx)(a:Nd)(e:Pl)(d:Oc)(b:Er)(c:Option Va)(g:St):(Oc × Er × Option Va) × St:=if a.2.kd=13 then WR U a e d b c g else VG U a e d b c g
def TE (M:Pe)(k I:Nat)(z:List Nat)(C:Px)(U:Fx)(au:Option Nat)(b:Nd)(d:Pl)(c:Oc)(f:Er)(j:Option Va)(g:St):Prop:=
 ∀ a (e:Ad) (i:Px),Ms M k I z a g->PX z a e b->PU a au j->X8 C a i f ->
  (b.2.kd=13->Pq 201 #[O5 k,O5 e.p,Qy d (LA au),Xo c,i] a (QG M k I z C au a (WR U b d c f j g))) /\
  (b.2.kd≠13->Pq 202 #[O5 k,O5 e.p,Qy d (LA au),Xo c,i] a (QG M k I z C au a (VG U b d c f j g)))
def awX {w:Pe}{e:Px}{f:List Ad}{i d c:Nat}(h:TY 0 w e f)(b:e=.slice (some (O7 i 0)) d c):d<=c:=by
 rcases h.1.2 with ⟨a,_⟩|⟨n,j,m,a,_,_,l,_⟩
 ·rw[b] at a;cases a
 ·rw[b] at a;simp only[g7] at a;omega
def tail_drop (a:List Nd)(b:Nat)(h:b+1<a.length):a.tail.drop b=a[b+1]::a.tail.drop (b+1):=by
 have c:b<a.tail.length:=by rw[lu];omega
 rw[iD c,List.getElem_tail]
def T9 {a:Pl}{f:Nd}{i:List Nd}{l d:Oc}{e b:Er}{j c:Option Va}{m:St}(h:VA U f a l e j g=((d,b,c),m)):Yr U a (f::i) l e j g=Yr U a i d b c m:=by
 rw[Yr];unfold VA at h;simp only[h]
def R7 (_:ig C)(ah:Ms M k I z w g){u:Ad}{B:Nd}(aJ:PX z w u B){cY:Nat}(ai:B.2.fJ.length=cY+1)(en:1<=cY)(d5:cY<1000000)(p:Pl){d:Option Va}(ba:PU w au d)
  (aO:Yz M k I z C g (Pg B 0) p au d (U.s (Pg B 0) p d g))
  (P:Oc->Er->Option Va->St->Prop) (hP:∀ aL m T am,U.s (Pg B 0) p d g=((aL,m,T),am)->P aL m T am)
  (cU:∀ j ∈ (QB B).tail,∀ aL m d g,P aL m d g->TE M k I z C U au j p aL m d g/\∀ A be T am,VA U j p aL m d g=((A,be,T),am)->P A be T am) :
  Pq 116 #[O5 k,O5 u.p,Qy p (LA au)] w (QG M k I z C au w (let bI:=U.s (Pg B 0) p d g;Yr U p (QB B).tail bI.1.1 bI.1.2.1 bI.1.2.2 bI.2)):=by
 have b{G}(h:G:=by
 have b{G}(h:G:=by
 have b{G}(h:G:=by
 have b{G}(h:G:=by
 have dt:=Y F;have bB:=Y (fN F);have b{G}(h:G:=by
 obtain⟨ua,dy,bx,bD⟩:=aZ.ar;rw[ai] at bx bD;have c9:u.ks.length=cY+1:=by rw[aZ.ks,ai]
 have dN:(QB B).length=cY+1:=by rw[RU,ai]
 obtain⟨cw,ea,da,eo,bC,bS⟩:=bD.cell 0 O9;clear bS;simp only[g7] at da;obtain⟨rfl,dp,rfl⟩:=da;clear dp;have d6:dy≠1:=by have:=awX bD rfl;omega
 have bV:PX z w2 (u.ks[0]'O9) (Pg B 0):=by
  obtain⟨j,a,bZ,f⟩:=aZ.KY (d:=0) O9;rw[ga O9] at a;cases a;exact f
 have dz:=aZ.lT;obtain⟨aj,bT⟩:=xE u.p;obtain⟨cO,c8⟩:=xE (u.ks[0]'O9);rw[<-c8] at bC bV;obtain⟨ek,cV⟩:=xE cO.p;have aF:=Y (λL (i:Pn w2 L)=>aO L cO (bf.fH i) (bV.kp (Kp.of i)) ((ba.fH ap).fH i))
 rcases X:U.s (Pg B 0) ⟨l,q,r⟩ d g with ⟨⟨A,be,T⟩,am⟩
 rw[X] at aF;obtain⟨cf,cS⟩:=xH (Yr U ⟨l,q,r⟩ (QB B).tail A be T am)
 show Calls _ _ _ _ (QG M k I z C au w (Yr U ⟨l,q,r⟩ (QB B).tail A be T am))
 rw[<-cS.out,<-bT];have bY:=aZ.gw;rw[<-bT] at bx b0 bY;rw[<-cV] at bC aF;rw[<-b1.out] at aF;have cA:=Y bx;have cZ:=Y bC;have dD:=Y bY;have dm:=Y c9;have cQ:=Y dN;have dG:=Y (hP _ _ _ _ X);have dq:=Y cU;have bc:=ba.fH ap;have dH:=Y (tail_drop (QB B));clear ah aJ F aW ap X bT aO b3 aY b6 bV bx bC cV ba bY hP cU c8 c9 ai;go_enter func116,ntmps116;go_wp2_with fail;refine iz ?_;clear bu bh
 refine WJ (H:=λwz D s=>SB M k I z C au w2 A be T am wz D s) (G:=?GG) (λaN=>?ways) ?rest
 case ways=>
  exact sw
 case rest=>
  rintro wz cH s t;have cP:=t.fr.vp bc;have ec:=bE.up.trans t.fr;have dF:=t.ms;have dI:=t.er;have dB:=t.la;have dO:=Y t.o;have dd:=Y t.ob;have ed:=t.ms.lt;have d4:cH≠H:=λm=>by
   have ad:=t.ob;have ak:=fI bQ.out;omega
  have cR:=cP.UG cA.out dD.out (fM rfl);have dJ:=fV cR;have dM:=t.fr;clear cP t;go_wp2_with fail;clear cR dJ
  go_loopw [9,30] (λs n wr=>∃ (j:Nat) (bv:Oc) (a:Er) (E:Option Va) (f:St),j<=cY/\n=O3 j/\Ms M k I z wr f/\P bv a E f/\P8 au k w2 wr/\PU wr au E/\wr.heap[cH]? = some (GL bv)/\X8 C wr s a/\cf=Yr U ⟨l,q,r⟩ ((QB B).tail.drop j) bv a E f) (λ_ n _=>cY - (intOf n).toNat)
  case atStart=>exact⟨0,A,be,T,am,f3 _,rfl,dF,dG.out,dM,dB,dO.out,dI,cS.out⟩
  case round=>
   obtain⟨j,bv,a,E,f,em,rfl,ah,b2,ax,bG,b7,bR,bF⟩:=hrel;have ds:=ah;have dj:=bG;have cK:=Y b7;have dl:=bR;have ej:=ah.lt;have bL:=ax.vp bc;have cT:=Y (ax.TL bc bQ.out Pm Pm);have dx:=Y (ax.TL bc dt.out Pm Pm);obtain⟨aQ,⟨aC,aD,aK⟩⟩:=bv
   by_cases d8:j<cY
   ·have bU:j+1<u.ks.length:=by rw[dm.out];omega
    have bW:j+1<(QB B).length:=by rw[cQ.out];omega
    obtain⟨ee,d9,cr,dC,ci,bS⟩:=(bD.kp bL).cell (j+1) bU;clear bS;simp only[g7,hc,iL] at cr;obtain⟨⟨cg,dn⟩,dk⟩:=cr;have bn:=UW.get _ _ (UW.kp bL _ _ dz) (j+1) bU bW;obtain⟨aV,bj⟩:=xE ((QB B)[j+1]);obtain⟨dc,b9⟩:=xE (u.ks[j+1]);rw[<-bj,<-b9] at bn;rw[<-b9,<-cg,Nat.add_comm] at ci;rw[<-cg] at dC;have cI:aV ∈ (QB B).tail:=by
     have dr:j<(QB B).tail.length:=by rw[lu];omega
     rw[bj,<-List.getElem_tail dr];exact gT _
    obtain⟨a6,cW⟩:=O4 dq aV cI ⟨aQ,⟨aC,aD,aK⟩⟩ a E f b2;have a6:=a6 _ dc _ ah bn bG bR;rw[<-b1.out] at a6;obtain⟨ep,b4⟩:=xE dc.p;rw[<-b4] at ci a6;have cx:=bn.cells;rw[<-b4] at cx;obtain⟨d7,dg,dK⟩:=cx;obtain⟨dE,bq⟩:=xE aV.2.kd;rw[<-bq] at dg a6
    rcases bm:VA U aV ⟨l,q,r⟩ ⟨aQ,⟨aC,aD,aK⟩⟩ a E f with ⟨⟨ac,ch,dh⟩,de⟩
    have d0:=Y (cW _ _ _ _ bm);have dL:Hid (cf=Yr U ⟨l,q,r⟩ ((QB B).tail.drop (j+1)) ac ch dh de):=by
     show _=_
     rw[bF,O4 dH j bW,<-bj];exact T9 bm
    have dA:(j:Int)<(cY:Int):=O9;have dZ:=Y bm;clear ah b2 bG b7 bR bF bn bj b9 cI cW bL bm bU bW cg b4 dn dk dK;obtain⟨dU,d2,dV,dX,_,dY⟩:=fN dx.out;obtain⟨cu,cy,cz,cM,cB,cC,cG,cJ,cp⟩:=RN cK.out
    by_cases bo:dE=13
    ·have cn:=a6.1 bo;have ck:VA U aV ⟨l,q,r⟩ ⟨aQ,⟨aC,aD,aK⟩⟩ a E f=WR U aV ⟨l,q,r⟩ ⟨aQ,⟨aC,aD,aK⟩⟩ a E f:=fL (bq ▸ bo);exact Is
    ·have cn:=a6.2 bo;have ck:VA U aV ⟨l,q,r⟩ ⟨aQ,⟨aC,aD,aK⟩⟩ a E f=VG U aV ⟨l,q,r⟩ ⟨aQ,⟨aC,aD,aK⟩⟩ a E f:=fK (bq ▸ bo);exact Is
   ·have bq:j=cY:=O9;have ac:cf=((⟨aQ,⟨aC,aD,aK⟩⟩,a,E),f):=by rw[bF,bq,List.drop_eq_nil_of_le (by rw[lu,cQ.out];omega)];rfl
    have b4:=Y ac;have dA:¬ (j:Int)<(cY:Int):=O9;have b9:=bE.up.trans ax;obtain⟨ch,cg,ci,cW,ck,cl,cn,dc,de⟩:=RN cT.out;obtain⟨cu,cy,cz,cM,cB,cC,cG,cJ,cp⟩:=RN cK.out;clear ac bq bL ah b2 bG b7 bR bF;go_wp2_with fail;obtain⟨a6,bU,a1,bW,aV,bn,bm,bj,bo⟩:=kH cT.out a7.out aS b9 ds (Pv aQ) (O3 aC) (O3 aD) (Pj aK);rw[<-bU];refine Xp (v:=.tuple #[Xo ⟨aQ,⟨aC,aD,aK⟩⟩,u9]) ?_;rw[b4.out];exact⟨⟨_,rfl,dl.Rf a1 Pm⟩,aV,bW,dj.Uy a1⟩):=O6 h;exact VF):=O6 h;exact jY):=O6 h;exact YA):=O6 h;exact jq):=O6 h;exact jT
def Su (ay:ig C)(ah:Ms M k I z w g){u:Ad}{be:Nd}(aJ:PX z w u be)(ai:be.2.fJ.length=2)(p:Pl){d:Option Va}(ba:PU w au d)(cy:Nat)
  (P:Nat->St->Option Va->Prop) (hP:P cy g d) (dH:∀ g d,¬ P 0 g d)
  (dt:∀ j g d,P (j+1) g d->Ux M k I z C g (Pg be 0) p (U.v (Pg be 0) p g)/\∀ v bG,U.v (Pg be 0) p g=((v,.no),bG)->v.iU=true->Yz M k I z C bG (Pg be 1) p au d (U.s (Pg be 1) p d bG)/\∀ aL bF bB,U.s (Pg be 1) p d bG=((aL,.no,bF),bB)->P j bB bF) :
  Pq 112 #[O5 k,O5 u.p,Qy p (LA au)] w (QG M k I z C au w (Yp U be p cy d g)):=by
 have b{G}(h:G:=by
 have b{G}(h:G:=by
 have b{G}(h:G:=by
 have b{G}(h:G:=by
 have dX:=Y F;have b{G}(h:G:=by
 obtain⟨aj,dr⟩:=xH u.p;obtain⟨b4,dn⟩:=xH (Yp U be ⟨l,q,r⟩ cy d g);rw[<-dn.out,<-dr.out];have ey:=Y hP;have eF:=Y dH;have dT:=Y dt;have eC:=Y ai;have cz:=ba.fH ap;clear F aW b3 aY b6 hP dH dt ai b0;go_enter func112,ntmps112;go_wp2_with fail;refine iz ?_;clear bu bh
 go_loopg [] cy (λj wr=>∃ (bS:Option Va) (cf:St),Ms M k I z wr cf/\P j cf bS/\P8 au k w2 wr/\PU wr au bS/\b4=Yp U be ⟨l,q,r⟩ j bS cf)
 case atStart=>exact⟨d,g,bf,ey.out,P8.of RP (P6 bO),cz,dn.out⟩
 case round=>
  obtain⟨bS,cf,ah,de,ax,en,dC⟩:=hrel;obtain⟨j,rfl⟩:∃ j,gk=j+1:=by
   cases gk with
   | zero=>exact absurd de (O4 eF _ _)
   | succ j=>exact⟨j,rfl⟩
  obtain⟨ac,dA⟩:=O4 dT j cf bS de;have d0:=ah;have cg:=Y dC;have da:=ah.lt;have dR:=ax.vp cz;have dq:=Y (ax.TL cz bQ.out Pm Pm);have c8:=Y (ax.TL cz dX.out Pm Pm);have dQ:=Y (fN c8.out);have eY:=fI c8.out;have eu:=bE.up.trans ax;have cA:=aZ.kp dR;have d2:=ax;have dy:=O4 eC;obtain⟨dk,dp,bI,e3,cu,cw,cZ,d1,em⟩:=cA.qt dy;obtain⟨e6,dz⟩:=xE dk.p;obtain⟨fc,dE⟩:=xH dp.p
  have aF:=Y (λL (i:Pn wr L)=>ac L dk o (d0.fH i) (d1.kp (Kp.of i)));have dc:=cA.gw;have dB:=cA.tC cu;have dS:=cA.cells.1;rw[<-dr.out] at cu dc dS;rw[<-dz] at cw aF;rw[<-dE.out] at cZ
  rcases cQ:U.v (Pg be 0) ⟨l,q,r⟩ cf with ⟨⟨f,E⟩,bG⟩
  rw[cQ] at aF;have bW:=Y cQ;have eE:=Y dA;have ci:=Y cu;have eq:=Y cw;have eB:=Y cZ;have d9:=Y dc;have ew:=Y dB;have e5:=fV cw;clear de dC dA dy dz dc dB cu cw cZ cQ;go_wp2_with fail;refine WJ (H:=λwz D s=>VB M k I z C wr f E bG wz D s) (G:=?GG) (λaN=>?ways) ?rest
  case ways=>
   refine UC 8 λa=>?_;refine vq ?_;refine uk 6 eq.out a ?_;refine kT 7 dQ.out a ?_;refine jS 8 12 (λK c=>?_) λK c=>?_
   ·go_simp;refine l9 ?_;have b{G}(h:G:=by
    refine pN ?_;refine uaZ 12 ?_;refine n6 ?_;have ac:=VB.late (v:=f) aG ah ((P8.of a (P6 da)).trans ax);exact qY):=O6 h;exact kP
   ·go_simp;refine kG ?_;clear c K;refine Rl 8 λK c=>?_;go_simp;refine ov ?_;have b{G}(h:G:=by
    have b{G}(h:G:=by
    have ac:=VB.early (v:=f) ch Qp (P6 da) aG ah ((P8.of (QJ.drew) (P6 da)).trans ax);exact Dq):=O6 h;exact G9):=O6 h;exact kP
  case rest=>
   rintro wz D s a1;have dj:=Y (a1.fr.fR dq.out Pm);have dY:=Y (a1.fr.fR c8.out Pm);have cR:=eu.trans a1.fr.up;have dP:=d2.trans a1.fr.up;have dI:=en.fR a1.fr;have eH:=a1.er;have dJ:=a1.ms;have c9:=a1.ms.lt;have e2:D≠H:=λm=>by
    have ad:=a1.vb;have ak:=fI dq.out;omega
   obtain⟨cO,cM,cP,cV,cS,cT,cU,dd,dh⟩:=RN dj.out;obtain⟨dZ,dU,dV,ek,d7,d8,ej⟩:=Qb (a1.v)
   by_cases B:E=.no
   ·subst B;have bx:s=QW:=a1.er;subst bx;have di:=X6 f wz;have eG:=Y (a1.fr.Vo.UG ci.out d9.out (fM rfl));have eK:=Y (a1.fr.Vo.UG eB.out ew.out (fU rfl));have eJ:=em.kp a1.fr.Vo
    cases bY:f.iU with
    | true=>
     rw[bY] at di;obtain⟨ee,dD⟩:=O4 eE f bG bW.out bY;have ep:=Y dD;have cB:=Y bY;clear bY dD;have b{G}(h:G:=by
     have dG:=Y (fN (fQ bL dY.out));have ck:=cR.trans (P8.of (L:=au) bL (P6 c9));have dN:=dP.trans (P8.of (L:=au) bL (P6 c9));have dl:=Y (PN bL eG.out);have dm:=Y (PN bL eK.out);have dg:=b7.lt;have fb:=dG.out.2.2.2.2.2;have e8:=fV dl.out;have e7:=fV dm.out;have bc:=Y (λL (i:Pn bT L)=>ee L dp (b7.fH i) ((eJ.kp (Kp.of bL)).kp (Kp.of i)) (cC.fH i));rw[<-b1.out,<-dE.out] at bc
     rcases cK:U.s (Pg be 1) ⟨l,q,r⟩ bS bG with ⟨⟨A,bR,bF⟩,bB⟩
     rw[cK] at bc;have cl:=Y cK;clear cK cO cM cP cV cS cT cU dd dh dZ dU dV ek d7 d8 ej;go_wp2_with fail;refine WJ (H:=λwz D s=>SB M k I z C au bT A bR bF bB wz D s) (G:=?GGT) (λaN=>?aGA) ?aM7
     case aGA=>
      refine UC 8 λa=>?_;refine kI ?_;refine uk 4 dl.out a ?_;refine up 5 bI 1 a ?_;refine uk 6 dm.out a ?_;refine kT 7 dG.out a ?_;refine jS 8 12 (λK c=>?_) λK c=>?_
      ·go_simp;refine tt ?_;have b{G}(h:G:=by
       refine t6 ?_;refine uaZ 12 ?_;refine n6 ?_;have ac:=SB.late (o:=A) aG ah ((P8.of a (P6 dg)).trans ax) bM;exact rd):=O6 h;exact mI
      ·go_simp;refine kG ?_;clear c K;refine Rl 8 λK c=>?_;go_simp;refine cm (O4 bc _ (QJ.drew)) ?_;have b{G}(h:G:=by
       have ch:aI.heap[bT.heap.size]? = some (PZ #[Pv false,O3 0,O3 0,Qn] 67):=ax.TL (cC.fH (QJ.drew)) (Ph _ _) Pm Pm;obtain⟨eP,eL,eQ,fd,eM,eN,eO,fa,eR⟩:=RN (ch);refine t6 ?_;refine n6 ?_;have ac:=SB.early (o:=A) ch Qp (P6 dg) aG ah ((P8.of (QJ.drew) (P6 dg)).trans ax) bM
       generalize (((aI.setCell (O7 bT.heap.size 0) (Pv A.ret)).setCell (O7 bT.heap.size 1) (O3 A.v.k)).setCell (O7 bT.heap.size 2) (O3 A.v.n)).setCell (O7 bT.heap.size 3) (Pj A.v.s)=wz at ac ⊢
       generalize bT.heap.size=D at ac ⊢
       exact aN wz D s ac):=O6 h;exact mI
     rintro wt ez dF bq;have cn:=Y (bq.fr.TL cC b9.out Pm Pm);have cJ:=ck.trans bq.fr;have dO:=dN.trans bq.fr;have cp:=bq.ms;have dM:=bq.er;have cG:=bq.la;have eZ:=bq.ms.lt;have eX:ez≠H:=λm=>by
      have ad:=bq.ob;have ak:=fI b9.out;omega
     obtain⟨eo,⟨am,aC,aD⟩⟩:=A;obtain⟨cO,cM,cP,cV,cS,cT,cU,dd,dh⟩:=RN cn.out;obtain⟨d4,d5,d6,eI,ea,ec,ed,eD,d3⟩:=RN (bq.o)
     cases eo with
     | true=>
      by_cases aK:bR=.no
      ·subst aK;have bx:dF=QW:=bq.er;subst bx;have T:b4=((⟨true,⟨am,aC,aD⟩⟩,.no,bF),bB):=by rw[cg.out,Yp,bW.out];simp only[cB.out,hz];rw[cl.out];rfl
       have bv:=Y T;clear T;have b{G}(h:G:=by
       refine Xp (v:=.tuple #[Xo ⟨true,⟨am,aC,aD⟩⟩,QW]) ?_;exact qi):=O6 h;exact uZ
      ·obtain⟨bU,bV,bx⟩:=bq.er.XO aK ay;subst bx;have T:b4=((⟨true,⟨am,aC,aD⟩⟩,bR,bF),bB):=by
        rw[cg.out,Yp,bW.out];simp only[cB.out,hz];rw[cl.out];exact yL
       have bv:=Y T;clear T aK;have b{G}(h:G:=by
       refine xS ?_;exact qi):=O6 h;exact uZ
     | false=>
      by_cases aK:bR=.no
      ·subst aK;have bx:dF=QW:=bq.er;subst bx;have T:b4=Yp U be ⟨l,q,r⟩ j bF bB:=by rw[cg.out,Yp,bW.out];simp only[cB.out,hz];rw[cl.out];rfl
       have bv:=Y T;clear T;go_wp2
       go_roundg j
       case measure=>omega
       case rel=>exact⟨bF,bB,cp,O4 ep _ bF bB cl.out,dO,cG,bv.out⟩
      ·obtain⟨bU,bV,bx⟩:=bq.er.XO aK ay;subst bx;have T:b4=((⟨false,⟨am,aC,aD⟩⟩,bR,bF),bB):=by
        rw[cg.out,Yp,bW.out];simp only[cB.out,hz];rw[cl.out];exact yL
       have b{G}(h:G:=by
       refine xi ?_;exact qi):=O6 h;exact ED):=O6 h;exact DU
    | false=>
     rw[bY] at di;have T:b4=((RS,.no,bS),bG):=by rw[cg.out,Yp,bW.out];simp[bY]
     have bv:=Y T;clear bY T;have b{G}(h:G:=by
     have ck:=cR.trans (P8.of (L:=au) bL (P6 c9));obtain⟨d4,d5,d6,eI,ea,ec,ed,eD,d3⟩:=RN b9.out;clear cO cM cP cV cS cT cU dd dh;have b{G}(h:G:=by
     exact⟨⟨_,rfl,rfl⟩,bC,bD,cC.Uy aQ⟩):=O6 h;exact Cw):=O6 h;exact DU
   ·obtain⟨bU,bV,bx⟩:=a1.er.XO B ay;subst bx;have T:b4=((RS,E,bS),bG):=by
     rw[cg.out,Yp,bW.out];exact jZ
    have bv:=Y T;clear T B;go_wp2_with fail;obtain⟨a6,aV,aQ,bD,bC,bn,bm,bj,bo⟩:=kH dj.out a7.out aS cR dJ (Pv false) (O3 0) (O3 0) (Qn);rw[<-aV];refine pQ (v:=.tuple #[Xo RS,.iface bU bV]) ?_;rw[bv.out];exact⟨⟨_,rfl,eH.Rf aQ Pm⟩,bC,bD,dI.Uy aQ⟩):=O6 h;exact VF):=O6 h;exact jY):=O6 h;exact YA):=O6 h;exact jq):=O6 h;exact jT
def Nq (ay:ig C)(ah:Ms M k I z w g){u:Ad}{aC:Nd}(aJ:PX z w u aC)(ai:aC.2.fJ.length=2)(p:Pl){d:Option Va}(ba:PU w au d)(ad:Ux M k I z C g (Pg aC 0) p (U.v (Pg aC 0) p g))
  (ak:∀ aL aD,UJ U (Pg aC 0) p g=((aL,.no),aD)->Yz M k I z C (aD.gq p.scope aL (-2)) (Pg aC 1) { p with scope:=aD.gg } au d (U.s (Pg aC 1) { p with scope:=aD.gg } d (aD.gq p.scope aL (-2)))/\Sz cL aD/\(aD.M.ro p.scope).isSome=true) (dI:cL<1000000000) :
  Pq 113 #[O5 k,O5 u.p,Qy p (LA au)] w (QG M k I z C au w (pJ U aC p d g)):=by
 have b{G}(h:G:=by
 have b{G}(h:G:=by
 have b{G}(h:G:=by
 have b{G}(h:G:=by
 have ds:=Y F;have bB:=Y (fN F);have b{G}(h:G:=by
 obtain⟨dk,cP,cw,d1,bV,bW,cy,cK,dM⟩:=aZ.qt ai;obtain⟨aj,cQ⟩:=xH u.p;obtain⟨d4,cR⟩:=xE dk.p;obtain⟨d8,dg⟩:=xH cP.p;have b{G}(h:G:=by
 obtain⟨aK,cg⟩:=xH (pJ U aC ⟨l,q,r⟩ d g);rw[<-cg.out,<-cQ.out];have cz:=aZ.gw;have c9:=aZ.tC bV;rw[<-cQ.out] at bV b0 cz;rw[<-cR] at bW aF;rw[<-dg.out] at cy
 rcases X:UJ U (Pg aC 0) ⟨l,q,r⟩ g with ⟨⟨D,E⟩,aD⟩
 rw[X] at aF;have cA:=Y bV;have cZ:=Y bW;have dP:=Y cy;have da:=Y cz;have de:=Y c9;have d2:=fV bW;have ch:=Y X;have dF:=Y ak;have dE:=ba.fH ap;have bT:=Y b3;have bU:=Y b6;clear F aW X ad b3 aY b6 bV bW cy cR ak cz c9;go_enter func113,ntmps113;have b{G}(h:G:=by
 have cT:=Y (ac.fR ds.out Pm);have cS:=bE.trans ac;have c8:=dE.fR ac;have dS:=Y (ac.Vo.UG cA.out da.out (fM rfl));have dZ:=Y (ac.Vo.UG dP.out de.out (fU rfl));have dh:Hid (∃ e,wz.heap[aj]? = some (PZ e 40)):=by obtain⟨e,bx⟩:=O4 da;exact⟨e,ac.Vo _ _ _ bx (fM rfl)⟩
 have di:Hid (∃ e,wz.heap[cw]? = some (PZ e 22)):=by obtain⟨e,bx⟩:=O4 de;exact⟨e,ac.Vo _ _ _ bx (fU rfl)⟩
 have dY:=dM.kp ac.Vo;have d3:=T.lt;obtain⟨dq,dn,dt,dD,dz,dA,dB,dN,dR⟩:=RN aN.out
 by_cases B:E=.no
 ·subst B;have ci:s=QW:=aG;subst ci;obtain⟨dJ,dm,dd⟩:=O4 dF D aD ch.out;obtain⟨A,b4⟩:=xE (aD.gg:Int);obtain⟨cf,bY⟩:=xE (aD.gq l D (-2));have dy:Pq 50 #[O5 k,O3 l,O3 D,O3 (-2)] wz λm w'=>m=PK (O3 A)/\Ms M k I z w' cf/\P8 none k wz w':=by
   obtain⟨_,_,_,_,aI⟩:=id T;refine(pi aI dm dI l D (-2) dd).mono ?_;rintro m w' ⟨rfl,bv,bq,bc⟩;rw[b4,bY];exact⟨rfl,⟨_,_,_,_,bq⟩,bc.jn aI⟩
  have bI:aK=U.s (Pg aC 1) ⟨A,q,r⟩ d cf:=by rw[cg.out];unfold pJ;rw[ch.out,b4,bY]
  have dC:Yz M k I z C cf (Pg aC 1) ⟨A,q,r⟩ au d aK:=by
   show Yz _ _ _ _ _ _ _ _ _ _ _
   rw[bI,b4,bY];exact dJ
  obtain⟨b9,cB,ck,cn,_,cu⟩:=fN cT.out;clear dd b4 bY bI dq dn dt dD dz dA dB dN dR;go_simp;go_wp2_with fail;refine cm dy ?_;rintro m bG ⟨rfl,dp,be⟩;have a1:=Y (be.fR cT.out Pm);have am:=Y (be.fR aN.out Pm);have dV:=c8.fR be;have dr:=cS.trans be;have dQ:=Y (be.Vo.UG dS.out dh.out (fM rfl));have dT:=Y (be.Vo.UG dZ.out di.out (fU rfl));have dU:Hid (∃ e,bG.heap[aj]? = some (PZ e 40)):=by obtain⟨e,bx⟩:=O4 dh;exact⟨e,be.Vo _ _ _ bx (fM rfl)⟩
  have dX:Hid (∃ e,bG.heap[cw]? = some (PZ e 22)):=by obtain⟨e,bx⟩:=O4 di;exact⟨e,be.Vo _ _ _ bx (fU rfl)⟩
  have dl:=dY.kp be.Vo;clear b9 cB ck cn cu;obtain⟨b9,cB,ck,cn,cV,cu⟩:=fN a1.out;have dO:=cV 0;clear cV;go_wp2_with fail;have bK{G}(h:G:=by
  have b{G}(h:G:=by
  have cG:=Y (fN (ZB a1.out (O3 A)));have dH:Hid (bF.heap[H]? = some (PZ #[Pv false,O3 0,O3 0,Qn] 67)):=tO
  have cU:=dr.hX bv (tY bT.out _);have cC:=dV.Uy bv;have cJ:=Y (b7.UG dQ.out dU.out (fM rfl));have cM:=Y (b7.UG dT.out dX.out (fU rfl));have cO:=dl.kp b7;rw[<-bq] at bS cG cU cC cJ cM cO ⊢;have bc:=Y (λL (i:Pn bF L)=>dC L cP (bS.fH i) (cO.kp (Kp.of i)) (cC.fH i));rw[<-b1.out,<-dg.out] at bc;have dG:=bS.lt;have d5:=cG.out.2.2.2.2.2;have d7:=fV cJ.out;have d6:=fV cM.out;clear bq b9 cB ck cn cu dO;refine UC 8 λa=>?_
  refine kI ?_;refine uk 4 cJ.out a ?_;refine up 5 cw 1 a ?_;refine uk 6 cM.out a ?_;refine kT 7 cG.out a ?_;refine Rl 8 λK c=>?_;go_simp;refine tt ?_;have b{G}(h:G:=by
  have dc:=(P8.of (L:=au) a (P6 dG)).trans ax;have bR:=Y (dc.TL cC dH.out Pm Pm);have cp:=cU.up.trans dc;exact wi):=O6 h;exact mI):=O6 h;exact BO):=O6 h;exact DG
 ·obtain⟨am,aI,ci⟩:=aG.XO B ay;subst ci;have bI:aK=((RS,E,d),aD):=by
   rw[cg.out];unfold pJ;rw[ch.out];exact jZ
  have A:=Y bI;clear B bI;go_simp;go_wp2_with fail;obtain⟨a6,aV,aQ,bD,bC,bn,bm,bj,bo⟩:=kH aN.out a7.out aS cS T (Pv false) (O3 0) (O3 0) (Qn);rw[<-aV];refine pQ (v:=.tuple #[Xo RS,.iface am aI]) ?_;rw[A.out];exact⟨⟨_,rfl,dj.Rf aQ Pm⟩,bC,bD.up,c8.Uy aQ⟩):=O6 h;exact An):=O6 h;exact xN):=O6 h;exact VF):=O6 h;exact jY):=O6 h;exact YA):=O6 h;exact jq):=O6 h;exact jT
variable {a:Nd}{b:Pl}{d:Option Va}{e:Nat}
def vC (c:¬ g.steps<20000):YR U a b g=((vU,.stop),g.step):=fL (show 20000<g.steps+1 by omega)
def ya (c:¬ g.steps<20000):jp U e a b d g=((RS,.stop,d),g.step):=fL (show 20000<g.steps+1 by omega)
section
variable (F:g.steps<20000)
include F
def q3 (c:a.2.kd=17):YR U a b g=((WT a.2.n,.no),g.step):=by
 obtain⟨no,f,l,j,i⟩:=a;change f=17 at c;exact Wy
def si (c:a.2.kd=18):YR U a b g=((Vk a.2.tx,.no),g.step):=by
 obtain⟨no,f,l,j,i⟩:=a;change f=18 at c;exact Wy
def sj (c:a.2.kd=19):YR U a b g=((QE true,.no),g.step):=by
 obtain⟨no,f,l,j,i⟩:=a;change f=19 at c;exact Wy
def rW (c:a.2.kd=20):YR U a b g=((QE false,.no),g.step):=by
 obtain⟨no,f,l,j,i⟩:=a;change f=20 at c;exact Wy
def sa (c:a.2.kd=21):YR U a b g=((oR,.no),g.step):=by
 obtain⟨no,f,l,j,i⟩:=a;change f=21 at c;exact Wy
def tu (c:a.2.kd=23):YR U a b g=qk a b g.step:=by
 obtain⟨no,f,l,j,i⟩:=a;change f=23 at c;exact Wy
def tc (c:a.2.kd=24):YR U a b g=n0 U a b g.step:=by
 obtain⟨no,f,l,j,i⟩:=a;change f=24 at c;exact Wy
def qy (c:a.2.kd=25):YR U a b g=ZJ U a b g.step:=by
 obtain⟨no,f,l,j,i⟩:=a;change f=25 at c;exact Wy
def ru (c:a.2.kd=26):YR U a b g=ZJ U a b g.step:=by
 obtain⟨no,f,l,j,i⟩:=a;change f=26 at c;exact Wy
def r5 (c:a.2.kd=27):YR U a b g=YQ U a b g.step:=by
 obtain⟨no,f,l,j,i⟩:=a;change f=27 at c;exact Wy
def qQ (c:a.2.kd=28):YR U a b g=YQ U a b g.step:=by
 obtain⟨no,f,l,j,i⟩:=a;change f=28 at c;exact Wy
def rJ (c:a.2.kd=29):YR U a b g=YQ U a b g.step:=by
 obtain⟨no,f,l,j,i⟩:=a;change f=29 at c;exact Wy
def rD (c:a.2.kd=30):YR U a b g=YQ U a b g.step:=by
 obtain⟨no,f,l,j,i⟩:=a;change f=30 at c;exact Wy
def r0 (c:a.2.kd=31):YR U a b g=YQ U a b g.step:=by
 obtain⟨no,f,l,j,i⟩:=a;change f=31 at c;exact Wy
def qF (c:a.2.kd=32):YR U a b g=oU U a b g.step:=by
 obtain⟨no,f,l,j,i⟩:=a;change f=32 at c;exact Wy
def ri (c:a.2.kd=33):YR U a b g=mC U a b g.step:=by
 obtain⟨no,f,l,j,i⟩:=a;change f=33 at c;exact Wy
def tE (c:a.2.kd=34):YR U a b g=lE U a b g.step:=by
 obtain⟨no,f,l,j,i⟩:=a;change f=34 at c;exact Wy
def sV (c:a.2.kd=35):YR U a b g=YH U a b g.step:=by
 obtain⟨no,f,l,j,i⟩:=a;change f=35 at c;exact Wy
def uP (c:a.2.kd=36):YR U a b g=pb U a b g.step:=by
 obtain⟨no,f,l,j,i⟩:=a;change f=36 at c;exact Wy
def sK (c:a.2.kd=37):YR U a b g=(((VI a b g.step).1,.no),(VI a b g.step).2):=by
 obtain⟨no,f,l,j,i⟩:=a;change f=37 at c;exact Wy
def vm (c:a.2.kd=38):YR U a b g=Y7 U b g.step.M.objs.length (QB a) { g.step with M:=g.step.M.Qj 0 }:=by
 obtain⟨no,f,l,j,i⟩:=a;change f=38 at c;exact Wy
def ti (f:a.2.kd=2):jp U e a b d g=if a.2.fJ.length=0 then ((RS,.no,d),g.step) else ((RS,(oY U a b g.step).1,d),(oY U a b g.step).2):=by
 obtain⟨no,m,o,n,j⟩:=a;change m=2 at f;subst f;refine nK ?_
 by_cases c:j.length=0
 ·exact(fL c).trans (fL c).symm
 ·refine((fK c).trans ?_).trans (fK c).symm;unfold oY
  show (match U.v _ b g.step with | ((p,.no),l)=>_ | ((_,i),l)=>_)=_
  rcases U.v (Pg (no,.mk 2 o n j) 0) b g.step with ⟨⟨p,i⟩,l⟩
  cases i <;> rfl
def wV (c:a.2.kd=3):jp U e a b d g=((RS,(k0 a b (U8 U (QB a) b g.step)).1,d),(k0 a b (U8 U (QB a) b g.step)).2):=by
 obtain⟨no,j,n,m,l⟩:=a;change j=3 at c;subst c;refine nK ?_
 show (match U8 U _ b g.step with | ((o,.no),i)=>_ | ((_,f),i)=>_)=_
 rcases U8 U (QB (no,.mk 3 n m l)) b g.step with ⟨⟨o,f⟩,i⟩
 cases f <;> rfl
def zp (c:a.2.kd=4):jp U e a b d g=((RS,(k0 a b (U8 U (QB a) b g.step)).1,d),(k0 a b (U8 U (QB a) b g.step)).2):=by
 obtain⟨no,j,n,m,l⟩:=a;change j=4 at c;subst c;refine nK ?_
 show (match U8 U _ b g.step with | ((o,.no),i)=>_ | ((_,f),i)=>_)=_
 rcases U8 U (QB (no,.mk 4 n m l)) b g.step with ⟨⟨o,f⟩,i⟩
 cases f <;> rfl
def sA (c:a.2.kd=6):jp U e a b d g=SG U (Qu a b g.step).1 (QB a) d (Qu a b g.step).2:=by
 obtain⟨no,f,l,j,i⟩:=a;change f=6 at c;exact Wy
def tQ (c:a.2.kd=7):jp U e a b d g=mY U a b d g.step:=by
 obtain⟨no,f,l,j,i⟩:=a;change f=7 at c;exact Wy
def uD (c:a.2.kd=8):jp U e a b d g=Yp U a b e d g.step:=by
 obtain⟨no,f,l,j,i⟩:=a;change f=8 at c;exact Wy
def ue (c:a.2.kd=9):jp U e a b d g=pJ U a b d g.step:=by
 obtain⟨no,f,l,j,i⟩:=a;change f=9 at c;exact Wy
def tV (c:a.2.kd=10):jp U e a b d g=((⟨uE (U8 U (QB a) b g.step).1.2,(U8 U (QB a) b g.step).1.1⟩,(U8 U (QB a) b g.step).1.2,d),(U8 U (QB a) b g.step).2):=by
 obtain⟨no,l,o,n,m⟩:=a;change l=10 at c;subst c;refine nK ?_
 show (match U8 U _ b g.step with | ((i,.no),j)=>_ | ((i,f),j)=>_)=_
 rcases U8 U (QB (no,.mk 10 o n m)) b g.step with ⟨⟨i,f⟩,j⟩
 cases f <;> rfl
def tw (c:a.2.kd=11):jp U e a b d g=((RS,(qn (U.v (Pg a 0) b g.step)).1,d),(qn (U.v (Pg a 0) b g.step)).2):=by
 obtain⟨no,j,n,m,l⟩:=a;change j=11 at c;subst c;refine nK ?_
 show (match U.v _ b g.step with | ((o,.no),i)=>_ | ((_,f),i)=>_)=_
 rcases U.v (Pg (no,.mk 11 n m l) 0) b g.step with ⟨⟨o,f⟩,i⟩
 cases f <;> rfl
def vj (c:a.2.kd=12):jp U e a b d g=Yr U b (QB a).tail (U.s (Pg a 0) b d g.step).1.1 (U.s (Pg a 0) b d g.step).1.2.1 (U.s (Pg a 0) b d g.step).1.2.2 (U.s (Pg a 0) b d g.step).2:=by
 obtain⟨no,f,l,j,i⟩:=a;change f=12 at c;exact Wy
def sB (c:a.2.kd=15):jp U e a b d g=((RS,(nO d (U.v (Pg a 0) b g.step)).1.1,(nO d (U.v (Pg a 0) b g.step)).1.2),(nO d (U.v (Pg a 0) b g.step)).2):=by
 obtain⟨no,j,n,m,l⟩:=a;change j=15 at c;subst c;refine nK ?_
 show (match U.v _ b g.step with | ((o,.no),i)=>_ | ((_,f),i)=>_)=_
 rcases U.v (Pg (no,.mk 15 n m l) 0) b g.step with ⟨⟨o,f⟩,i⟩
 cases f <;> rfl
def qN (c:a.2.kd≠17/\a.2.kd≠18/\a.2.kd≠19/\a.2.kd≠20/\a.2.kd≠21/\a.2.kd≠23/\a.2.kd≠24/\a.2.kd≠25/\a.2.kd≠26/\a.2.kd≠27/\a.2.kd≠28/\a.2.kd≠29/\a.2.kd≠30/\a.2.kd≠31/\a.2.kd≠32/\a.2.kd≠33/\a.2.kd≠34/\a.2.kd≠35/\a.2.kd≠36/\a.2.kd≠37/\a.2.kd≠38):YR U a b g=((vU,.no),g.step):=by
 obtain⟨f,p,i,q,j,m,t,v,A,N,R,O,H,P,B,n,l,r,o,s,u⟩:=c;refine nK ?_;refine(fK f).trans ?_;refine(fK p).trans ?_;refine(fK (λh=>h.elim i q)).trans ?_;refine(fK j).trans ?_;refine(fK m).trans ?_;refine(fK t).trans ?_;refine(fK (λh=>h.elim v A)).trans ?_;refine(fK (λh=>by omega)).trans ?_;refine(fK B).trans ?_;refine(fK n).trans ?_;refine(fK l).trans ?_;refine(fK r).trans ?_;refine(fK o).trans ?_
 refine(fK s).trans ?_;refine(fK u).trans ?_;rfl
def o4 (c:a.2.kd≠2/\a.2.kd≠3/\a.2.kd≠4/\a.2.kd≠6/\a.2.kd≠7/\a.2.kd≠8/\a.2.kd≠9/\a.2.kd≠10/\a.2.kd≠11/\a.2.kd≠12/\a.2.kd≠15):jp U e a b d g=((RS,.no,d),g.step):=by
 obtain⟨f,j,i,l,q,m,o,r,s,n,p⟩:=c;refine nK ?_;refine(fK f).trans ?_;refine(fK (λh=>h.elim j i)).trans ?_;refine(fK l).trans ?_;refine(fK q).trans ?_;refine(fK m).trans ?_;refine(fK o).trans ?_;refine(fK r).trans ?_;refine(fK s).trans ?_;refine(fK n).trans ?_;refine(fK p).trans ?_;rfl
end
end
section
variable {a:Nd} (h:Nk 0 a.2)
include a h
def Nk.Yc (c:24<=a.2.kd/\a.2.kd<=36):Nk 0 (Pg a 0).2/\1<=a.2.fJ.length:=by
 obtain⟨no,f⟩:=a;have d:=h.sh;simp only at d c h
 cases d with
 | m0 _ b=>exact⟨h.gK gf b,Qp⟩
 | call b _ _=>exact⟨h.gK gf b,by show 1<=(_::_).length;simp⟩
 | one _ b=>exact⟨h.gK gf b,Qp⟩
 | two _ b _=>exact⟨h.gK gf b,by show 1<=2;omega⟩
 | YV _ b _=>exact⟨h.gK gf b,by show 1<=2;omega⟩
 | lit e=>simp only[Tr.kd] at c;omega
 | _=>simp only[Tr.kd] at c;omega
def Nk.pq (b:24<=a.2.kd/\a.2.kd<=31):Nk 0 (Pg a 1).2/\a.2.fJ.length=2:=by
 obtain⟨no,f⟩:=a;have d:=h.sh;simp only at d b h
 cases d with
 | two _ _ c=>exact⟨h.gK (gE _ gf) c,rfl⟩
 | YV _ _ c=>exact⟨h.gK (gE _ gf) c,rfl⟩
 | lit e=>simp only[Tr.kd] at b;omega
 | one e=>simp only[Tr.kd] at b;omega
 | _=>simp only[Tr.kd] at b;omega
def Nk.lQ (b:32<=a.2.kd/\a.2.kd<=36/\a.2.kd≠35):a.2.fJ.length=1:=by
 obtain⟨no,f⟩:=a;have c:=h.sh;simp only at c b h
 cases c with
 | m0 _ d=>rfl
 | one _ d=>rfl
 | lit e=>simp only[Tr.kd] at b;omega
 | two e=>simp only[Tr.kd] at b;omega
 | _=>simp only[Tr.kd] at b;omega
def Nk.jP (b:a.2.kd=37):Fg a.2:=by
 refine⟨h.ct,h.nb,?_⟩;obtain⟨no,g⟩:=a;have c:=h.sh;simp only at c b h
 cases c with
 | jP _ f e=>exact⟨_,_,_,_,_,rfl,f,e⟩
 | lit d=>simp only[Tr.kd] at b;omega
 | one d=>simp only[Tr.kd] at b;omega
 | two d=>simp only[Tr.kd] at b;omega
 | _=>cases b
def Nk.obj (b:a.2.kd=38):(∀ e ∈ QB a,Nk 0 (Pg e 0).2/\e.2.fJ.length=1)/\a.2.fJ.length<=8:=by
 obtain⟨no,k⟩:=a;have d:=h.sh;simp only at d b h
 cases d with
 | obj d j=>
  refine⟨λe b=>?_,j⟩;have g:=QZ b;have c:=d _ g;have f:=h.gK g c;obtain⟨l,m⟩:=e;simp only at c f
  cases c with
  | gv _ i=>exact⟨f.gK gf i,rfl⟩
 | lit c=>simp only[Tr.kd] at b;omega
 | one c=>simp only[Tr.kd] at b;omega
 | two c=>simp only[Tr.kd] at b;omega
 | _=>cases b
end
def Nk.num {c:Tr}(h:Nk 0 c)(a:c.kd=17):Nb c.n:=by
 have d:=h.sh
 cases d with
 | num b=>exact b
 | lit b=>simp only[Tr.kd] at a;omega
 | one b=>simp only[Tr.kd] at a;omega
 | two b=>simp only[Tr.kd] at a;omega
 | _=>cases a
def Nk.str {c:Tr}(h:Nk 0 c)(a:c.kd=18):Sm c.tx:=by
 have d:=h.sh
 cases d with
 | str b=>exact b
 | lit b=>simp only[Tr.kd] at a;omega
 | one b=>simp only[Tr.kd] at a;omega
 | two b=>simp only[Tr.kd] at a;omega
 | _=>cases a
section
variable {j am:Int} {σ g aj:St} {v:Va} {m:Er} {l:Nat} {a:Pl} {i:Fx} {b:Nd} {au ap:Option Va} {aL:Oc}
def Ex.step (σ:St):Ex σ σ.step:=⟨Qp,Qp,rfl,ge _,λ_ _ x=>x,jg⟩
def Iv.step (h:Iv j σ):Iv (j - 10000) σ.step:=by
 obtain⟨d,c,e⟩:=h.pz;exact⟨⟨d,⟨c.go,c.ow,c.fn,c.lg,c.se,c.oe⟩,by show (d:Int)<=j - 10000+10000 * ((σ.steps+1:Nat):Int);push_cast;omega⟩,h.gm,h.fn,h.ca,h.lr,h.lo⟩
def Q.step (h:Q (l+1) j a σ)(c:¬ 20000<σ.step.steps):Q l (j - 10000) a σ.step:=⟨by have:=h.fu;show 20001<σ.steps+1+l;omega,by omega,h.iv.step,h.po⟩
section
variable (o:FI i l) (h:Q l j a σ) (p:Nk 0 b.2)
include o h p
def aCG (C:b.2.kd=24):VO (j+10) σ (n0 i b a σ):=by
 have t:=(p.Yc O9).1;have r:=(p.pq O9).1;unfold n0;simp only
 split
 ·rename_i D
  have c:=(o.v h (t.Yc O9).1).1
  rcases X:i.v (Pg (Pg b 0) 0) a σ with ⟨⟨B,m⟩,g⟩
  rw[X] at c
  cases m with
  | no=>
   simp only;have d:=(o.v (h.next c) r).1
   rcases z:i.v (Pg b 1) a g with ⟨⟨v,m⟩,aj⟩
   rw[z] at d;have s:=(c.va).up d.ex.ob;have k:=c.ex.trans d.ex
   cases m with
   | no=>
    simp only
    split
    ·exact⟨d.iv.up O9,k,⟨d.er,l6 oE⟩,Wu _⟩
    ·rename_i q
     have A:=s.r (by simpa using q);have f:=d.iv.put d.va B.n (Pg b 0).2.tx false;refine⟨f.iv.up O9,k.trans f.ex,?_,d.va.up f.ex.ob⟩;rw[Fd A];exact d.er
   | _=>exact⟨d.iv.up O9,k,d.er,Wu _⟩
  | _=>exact⟨c.iv.up O9,c.ex,c.er,Wu _⟩
 ·have d:=h.iv.look (Pg b 0) a;have c:=(o.v (h.nx d) r).1
  rcases X:i.v (Pg b 1) a (look (Pg b 0) a σ).2 with ⟨⟨v,m⟩,g⟩
  rw[X] at c;have k:=d.ex.trans c.ex
  cases m with
  | no=>
   simp only;obtain⟨q,f,s⟩:=AQ c.iv c.er c.va (look (Pg b 0) a σ).1 (Pg b 0).2.tx a.fT;exact⟨q.up O9,k.trans f,s,c.va.up f.ob⟩
  | _=>exact⟨c.iv.up O9,k,c.er,Wu _⟩
def aCH (r:b.2.kd=34):VO (j+10) σ (lE i b a σ):=by
 have q:=(p.Yc O9).1;unfold lE;simp only
 split
 ·have c:=h.iv.drop (σ.M.find a.scope (Pg b 0).2.tx) (Pg b 0).2.tx;exact .ret (c.up O9) h.st (og _ _)
 ·split
  ·obtain⟨k,d,f,s⟩:=qc o h (d:=Pg (Pg b 0) 0) (q.Yc O9).1
   rcases X:UJ i (Pg (Pg b 0) 0) a σ with ⟨⟨aL,m⟩,g⟩
   rw[X] at k d f
   cases m with
   | no=>
    simp only;have c:=k.cut aL (Pg b 0).2.tx
    split
    ·exact⟨c.iv.up O9,d.trans c.ex,⟨f,l6 oE⟩,Wu _⟩
    ·exact⟨c.iv.up O9,d.trans c.ex,f,og _ _⟩
   | _=>exact⟨k.up O9,d,f,Wu _⟩
  ·have c:=(o.v h q).1
   rcases X:i.v (Pg b 0) a σ with ⟨⟨v,m⟩,g⟩
   rw[X] at c
   cases m with
   | no=>exact⟨c.iv.up O9,c.ex,c.er,og _ _⟩
   | _=>exact⟨c.iv.up O9,c.ex,c.er,Wu _⟩
end
def Nk.qt {b:Nd}(k:Nk 0 b.2)(q:27<=b.2.kd/\b.2.kd<=31):∀ x ∈ QB b,Nk 0 x.2:=λx o=>by
 have d:=k.pq O9;have p:=k.Yc O9;have n:=QZ o;obtain⟨c,f,m⟩:=kz n;have e:=Yb b c;rw[g8,ga f,m] at e;rw[d.2] at f;rw[show x.2=(Pg b c).2 from e.symm]
 rcases c with _|_|c
 ·exact p.1
 ·exact d.1
 ·omega
def aCI (p:FI i l)(h:Q l j a σ)(r:Nk 0 b.2)(n:27<=b.2.kd/\b.2.kd<=31):VO j σ (YQ i b a σ):=by
 have c:=rU p (QB b) [] h (r.qt n) (λ_ h=>by cases h);unfold YQ
 rcases o:UD i a (QB b) [] σ with ⟨⟨k,m⟩,g⟩
 rw[o] at c
 rcases k with _|⟨e,_|⟨f,k⟩⟩
 ·exact⟨c.iv,c.ex,c.er,Wu _⟩
 ·exact⟨c.iv,c.ex,c.er,Wu _⟩
 ·
  cases m with
  | no=>
   obtain⟨q,d⟩:=axT g.M.objs.length g.M b.2.kd e f;refine⟨c.iv,c.ex,?_,q⟩
   show Eo g (Wl g.M b.2.kd e f).2
   rcases d with d|⟨t,d,s⟩
   ·rw[d];exact c.er
   ·rw[d];exact⟨c.er,l6 s⟩
  | _=>exact⟨c.iv,c.ex,c.er,Wu _⟩
def aKv (k:FI i l)(h:Q (l+1) j a σ)(f:Nk 0 b.2):VO j σ (YR i b a σ)/\σ.steps<(YR i b a σ).2.steps:=by
 suffices H:VO j σ.step (YR i b a σ) from ⟨H.after (Ex.step σ),H.ex.st⟩
 by_cases ay:σ.steps<20000
 ·have d:=h.step (show ¬ 20000<σ.steps+1 by omega);have o:=(Nx.refl d.iv).up (show j - 10000<=j by omega)
  by_cases A:b.2.kd=17
  ·rw[q3 ay A];exact .ret o d.st (zm (f.num A))
  by_cases B:b.2.kd=18
  ·rw[si ay B];exact .ret o d.st (l6 (f.str B))
  by_cases ad:b.2.kd=19
  ·rw[sj ay ad];exact .ret o d.st (og _ _)
  by_cases U:b.2.kd=20
  ·rw[rW ay U];exact .ret o d.st (og _ _)
  by_cases W:b.2.kd=21
  ·rw[sa ay W];exact .ret o d.st ⟨λ_=>by decide,p5,λm=>by cases m⟩
  by_cases O:b.2.kd=23
  ·rw[tu ay O];have p:=d.iv.look b a;unfold qk;simp only
   split
   ·exact .ret (p.up O9) d.st (axS p.iv.gm _ _)
   ·exact .f0 (p.up O9) d.st xd
  by_cases C:b.2.kd=24
  ·rw[tc ay C];exact(aCG k d f C).up O9
  by_cases ac:b.2.kd=25\/b.2.kd=26
  ·have m:YR i b a σ=ZJ i b a σ.step:=by rcases ac with q|q;exact qy ay q;exact ru ay q
   rw[m];have c:=(k.v d (f.Yc O9).1).1;unfold ZJ;have T{G}(h:G:=by
   cases m with
   | no=>
    simp only
    split
    ·exact c.up O9
    ·exact((k.v (d.next c) (f.pq O9).1).1.after c.ex).up O9
   | _=>exact c.up O9):=O6 h;exact o9
  by_cases M:27<=b.2.kd/\b.2.kd<=31
  ·have m:YR i b a σ=YQ i b a σ.step:=by
    obtain h|h|h|h|h:b.2.kd=27\/b.2.kd=28\/b.2.kd=29\/b.2.kd=30\/b.2.kd=31:=O9
    ·exact r5 ay h
    ·exact qQ ay h
    ·exact rJ ay h
    ·exact rD ay h
    ·exact r0 ay h
   rw[m];exact(aCI k d f M).up O9
  by_cases ah:b.2.kd=32
  ·rw[qF ay ah];have c:=(k.v d (f.Yc O9).1).1;unfold oU;have T{G}(h:G:=by
   cases m with
   | no=>exact⟨c.iv.up O9,c.ex,c.er,og _ _⟩
   | _=>exact c.err.up O9):=O6 h;exact o9
  by_cases ai:b.2.kd=33
  ·rw[ri ay ai];have c:=(k.v d (f.Yc O9).1).1;unfold mC
   split
   ·exact .ret o d.st (l6 Pm)
   ·have T{G}(h:G:=by
    cases m with
    | no=>exact⟨c.iv.up O9,c.ex,c.er,l6 (MI _ _)⟩
    | _=>exact c.err.up O9):=O6 h;exact o9
  by_cases D:b.2.kd=34
  ·rw[tE ay D];exact(aCH k d f D).up O9
  by_cases I:b.2.kd=35
  ·rw[sV ay I];exact(axW k d f I).up O9
  by_cases R:b.2.kd=36
  ·rw[uP ay R];obtain⟨r,s,t,_⟩:=qc k d (d:=Pg b 0) (f.Yc O9).1;unfold pb
   rcases X:UJ i (Pg b 0) a σ.step with ⟨⟨aL,m⟩,g⟩
   rw[X] at r s t
   cases m with
   | no=>
    refine⟨r.up O9,s,t,?_⟩
    show Gv _ (((g.M.gv aL b.2.tx).map Pr.v).getD vU)
    cases L:g.M.gv aL b.2.tx with
    | none=>exact Wu _
    | some ak=>exact Ee r.gm L
   | _=>exact⟨r.up O9,s,t,Wu _⟩
  by_cases F:b.2.kd=37
  ·rw[sK ay F];obtain⟨p,z⟩:=d.iv.jP (f.jP F) d.po;exact .ret (p.up O9) d.st z
  by_cases E:b.2.kd=38
  ·rw[vm ay E];obtain⟨p,z⟩:=f.obj E;have r:=d.iv.Qj (e:=0) O9;have t:=HH k σ.step.M.objs.length (QB b) (d.nx r) ⟨by omega,by simp[Mo.Qj];omega⟩ (λq s=>(p q s).1)
   exact(VO.after r.ex t).up (by rw[RU];omega)
  rw[qN ay O9];exact .ret o d.st (Wu _)
 ·rw[vC ay];have:=h.st;exact⟨h.iv.step.up O9,Ex.refl _,by show σ.steps+1=20001;omega,Wu _⟩
end
inductive Sk (d:Nd):Prop
 | decl (A:d.2.kd=2\/d.2.kd=3\/d.2.kd=4) (hl:d.2.fJ.length<=1) (aa:∀ k ∈ QB d,Nk 0 k.2)
 | func (A:d.2.kd=5)|empty (A:d.2.kd=16)
 | gw (A:d.2.kd=6) (D:Bk d.2)
 | l0 (A:d.2.kd=7) (hl:d.2.fJ.length=2\/d.2.fJ.length=3) (h0:Nk 0 (Pg d 0).2) (h1:Nk 1 (Pg d 1).2) (bP:Qk (Pg d 1).2=false) (E:d.2.fJ.length=3->Nk 1 (Pg d 2).2/\Qk (Pg d 2).2=false)
 | loop (A:d.2.kd=8\/d.2.kd=9) (hl:d.2.fJ.length=2) (h0:Nk 0 (Pg d 0).2) (h1:Nk 1 (Pg d 1).2) (bP:Qk (Pg d 1).2=false)
 | hU (A:d.2.kd=10) (hl:d.2.fJ.length<=1) (aa:∀ k ∈ QB d,Nk 0 k.2)
 | one (A:d.2.kd=11\/d.2.kd=15) (hl:d.2.fJ.length=1) (h0:Nk 0 (Pg d 0).2)
 | lc (A:d.2.kd=12) (hl:2<=d.2.fJ.length/\d.2.fJ.length<=3) (h0:Nk 1 (Pg d 0).2) (df:Qk (Pg d 0).2=false) (aa:∀ k ∈ (QB d).tail,(k.2.kd=13\/k.2.kd=14)/\k.2.fJ.length=1/\Nk 1 (Pg k 0).2/\Qk (Pg k 0).2=false)
def Nk.xt {a:Tr}(h:Nk 3 a):Nk 1 a/\Qk a=false:=by
 have b:=h.sh;refine⟨⟨.YW h.sh,h.ct,h.nb⟩,?_⟩
 cases b with
 | gw _=>rfl
def s3 {a:Tr}(h:Vf a=false):Qk a=false:=by
 unfold Vf at h;unfold Qk
 revert h
 cases a.kd==3 <;> cases a.kd==4 <;> simp
def Nk.sk {s:Nd}(h:Nk 1 s.2):Sk s:=by
 have n:=(td h.nb).2;obtain⟨no,v⟩:=s;have i:=h.sh;simp only at i h n;have c:∀ {e:Nat} {f:Tr},f ∈ v.fJ->SN Sm Sm Nb e f->Nk e f:=λg a=>h.gK g a
 cases i with
 | decl a _ d p _=>exact .decl a p λf a=>c (QZ a) (d _ (QZ a))
 | func _ _ _=>exact .func rfl
 | YW l=>
  have m:Nk 3 v:=⟨l,h.ct,h.nb⟩;refine .gw ?_ (m.bk O9)
  cases l with
  | gw _=>rfl
 | @l0 k b d i=>
  have j:b ∈ [k,b]:=gE _ gf;exact .l0 rfl (.inl rfl) (c gf d) (c j i) (s3 (n (.inl rfl) _ j)) (λl=>by cases l)
 | @oC k b e d i m=>
  have j:b ∈ [k,b,e]:=gE _ gf;have l:e ∈ [k,b,e]:=gE _ (gE _ gf);exact .l0 rfl (.inr rfl) (c gf d) (c j i) (s3 (n (.inl rfl) _ j)) (λ_=>⟨c l m,s3 (n (.inl rfl) _ l)⟩)
 | @loop C k b a d i=>
  have j:b ∈ [k,b]:=gE _ gf;exact .loop a rfl (c gf d) (c j i) (s3 (n (.inr a) _ j))
 | @hU C l a d p q=>
  rcases a with rfl|rfl
  ·exact .hU rfl p λf a=>c (QZ a) (d _ (QZ a))
  ·have:=q rfl
   rcases l with _|⟨k,_|⟨b,l⟩⟩
   ·simp at this
   ·exact .one (.inl rfl) rfl (c gf (d _ gf))
   ·simp at this
 | @lc b e o l q z p=>
  obtain⟨A,B⟩:=Nk.xt (c gf l);refine .lc rfl ⟨by show 2<=(b::(e++o)).length;simp;omega,by show (b::(e++o)).length<=3;simp;omega⟩ A B λf a=>?_
  have g:f.2 ∈ e++o:=by
   have u:f.2 ∈ ((QB (no,.mk 12 O8 0 (b::(e++o)))).tail).map (·.2):=hy.2 ⟨f,a,rfl⟩;rw[List.map_tail,zD] at u;exact u
  have t:f.2 ∈ b::(e++o):=gE _ g;obtain⟨D,w⟩:=f;simp only at g t
  rcases gU.1 g with g|g
  ·have m:=q w g;have r:=c t m
   cases m with
   | cat _ l=>exact⟨.inl rfl,rfl,Nk.xt (r.gK gf l)⟩
  ·have m:=z w g;have r:=c t m
   cases m with
   | fin l=>exact⟨.inr rfl,rfl,Nk.xt (r.gK gf l)⟩
 | empty=>exact .empty rfl
 | expr d=>exact .one (.inr rfl) rfl (c gf d)
section
variable {j N':Int} {σ g ai:St} {v:Va} {m:Er} {k:Nat} {a:Pl} {i:Fx} {b:Nd} {q O:Option Va} {aL:Oc}
def xe (e:FI i k)(h:Q k j a σ)(d:∀ c ∈ QB b,Nk 0 c.2):VO j σ (U8 i (QB b) a σ):=by
 unfold U8
 split
 ·exact .ret (Nx.refl h.iv) h.st (Wu _)
 ·rename_i c l f
  exact(e.v h (d c (by rw[f];exact gf))).1
def HQ (l:FI i k)(z:Nk 0 (Pg b 0).2)(A:Nk 1 (Pg b 1).2)(r:Qk (Pg b 1).2=false):∀ (f:Nat) {q:Option Va} {σ:St},Q k j a σ->20001<σ.steps+f->Lg σ q->SO j σ (Yp i b a f q σ)
 | 0,q,σ,h,B,_=>by have:=h.st;omega
 | f+1,q,σ,h,B,C=>by
  obtain⟨c,t⟩:=l.v h z;rw[Yp]
  rcases X:i.v (Pg b 0) a σ with ⟨⟨v,m⟩,g⟩
  rw[X] at c t;have o:=C.up c.ex
  cases m with
  | no=>
   simp only;have p:=h.next c
   split
   ·obtain⟨d,s⟩:=l.s p A (λm=>by rw[r] at m;cases m) o
    rcases D:i.s (Pg b 1) a q g with ⟨⟨aL,m,O⟩,ai⟩
    rw[D] at d s
    cases m with
    | no=>
     simp only
     split
     ·exact d.after c.ex
     ·exact((HQ l z A r f (p.iZ d) (by dsimp only at t s;omega) d.la).after d.ex).after c.ex
    | _=>exact d.after c.ex
   ·exact⟨c.iv,c.ex,c.er,Wu _,o⟩
  | _=>exact⟨c.iv,c.ex,c.er,Wu _,o⟩
structure Z (f:Nat)(N:Int)(p:Pl)(σ:St)(o:Oc)(e:Er)(l:Option Va):Prop where
 fu:20001<σ.steps+f
 iv:Iv N σ
 po:Po p σ
 er:Eo σ e
 va:Gv σ.M.objs.length o.v
 la:Lg σ l
end
def Z.q {j:Int}{σ:St}{m:Er}{k:Nat}{a:Pl}{b:Option Va}{aL:Oc}(h:Z k j a σ aL m b)(c:m≠.stop):Q k j a σ:=⟨h.fu,by
 have:=h.er
 cases m with
 | no=>exact this
 | stop=>exact absurd rfl c
 | Yq v=>exact this.1
 | ir=>exact this.elim,h.iv,h.po⟩
section
variable {j N':Int} {σ g ai:St} {v:Va} {m:Er} {k:Nat} {a:Pl} {i:Fx} {b:Nd} {q O:Option Va} {aL:Oc}
def Z.so (h:Z k j a σ aL m q):SO j σ ((aL,m,q),σ):=⟨h.iv,Ex.refl _,h.er,h.va,h.la⟩
def Eo.up (h:Eo σ m)(c:Eo g .no)(x:Ex σ g)(d:m≠.stop):Eo g m:=by
 cases m with
 | no=>exact c
 | stop=>exact absurd rfl d
 | Yq v=>exact⟨c,h.2.up x.ob⟩
 | ir=>exact h
section
variable (f:FI i k) (h:Z k j a σ aL m q) (p:Nk 1 (Pg b 0).2) (o:Qk (Pg b 0).2=false)
include f h p o
def Eb:SO (j+2) σ (WR i b a aL m q σ):=by
 unfold WR
 cases m with
 | Yq v=>
  simp only;have A{G}(h:G:=by
  have r:Q k (j+2) { a with scope:=σ.gg } ((σ.gq a.scope (-1) (own b)).hi σ.gg b.2.tx 0 v):=⟨by rw[c.st];exact d.fu,by rw[c.st];exact d.st,c.iv.up O9,t⟩
  exact(f.s r p (λm=>by rw[o] at m;cases m) (h.la.up c.ex)).1.after c.ex):=O6 h;exact BM
 | _=>exact h.so.up O9
def Cz:SO (j+2) σ (VG i b a aL m q σ):=by
 by_cases d:m=.stop
 ·subst d;exact h.so.up O9
 ·have c:=(f.s (h.q d) p (λm=>by rw[o] at m;cases m) h.la).1
  have t{G}(h:G:=by
  cases s with
  | no=>
   simp only
   split
   ·exact c.up O9
   ·exact⟨c.iv.up O9,c.ex,h.er.up c.er c.ex d,h.va.up c.ex.ob,c.la⟩
  | _=>exact c.up O9):=O6 h;exact GX
end
def BE (o:FI i k):∀ (f:List Nd) {j:Int} {aL:Oc} {m:Er} {q:Option Va} {σ:St},Z k j a σ aL m q->(∀ c ∈ f,Nk 1 (Pg c 0).2/\Qk (Pg c 0).2=false)->SO (j+2 * f.length) σ (Yr i a f aL m q σ)
 | [],j,aL,m,q,σ,h,_=>h.so.up P7
 | c::f,j,aL,m,q,σ,h,p=>by
  obtain⟨s,r⟩:=p c gf;rw[Yr];have d:SO (j+2) σ (if c.2.kd=13 then WR i c a aL m q σ else VG i c a aL m q σ):=by
   split
   ·exact Eb o h s r
   ·exact Cz o h s r
  generalize (if c.2.kd=13 then WR i c a aL m q σ else VG i c a aL m q σ)=l at d ⊢
  have t:=BE o f (j:=j+2) (aL:=l.1.1) (m:=l.1.2.1) (q:=l.1.2.2) (σ:=l.2) ⟨by have:=h.fu;have:=d.ex.st;omega,d.iv,h.po.up d.ex,d.er,d.va,d.la⟩ (λx z=>p x (gE _ z))
  exact(t.after d.ex).up (by rw[gL];push_cast;omega)
def aKw (o:FI i k)(h:Q (k+1) j a σ)(ac:Nk 1 b.2)(ah:Qk b.2=true->K4 σ.M a.scope b.2.tx)(U:Lg σ q):SO j σ (jp i k b a q σ)/\σ.steps<(jp i k b a q σ).2.steps:=by
 suffices H:SO j σ.step (jp i k b a q σ) from ⟨H.after (Ex.step σ),H.ex.st⟩
 by_cases ay:σ.steps<20000
 ·have f:=h.step (show ¬ 20000<σ.steps+1 by omega);have L:=(Nx.refl f.iv).up (show j - 10000<=j by omega);have l:Lg σ.step q:=U
  cases ac.sk with
  | decl d C z=>
   by_cases M:b.2.kd=2
   ·rw[ti ay M]
    split
    ·exact .ret L f.st (Wu _) l
    ·rename_i aj
     have W:(Pg b 0) ∈ QB b:=B2
     have c:=(o.v f (z _ W)).1;unfold oY;have T{G}(h:G:=by
     cases m with
     | no=>
      obtain⟨t,D,ad⟩:=AQ c.iv c.er c.va (σ.step.M.find a.scope b.2.tx) b.2.tx a.fT;exact⟨t.up O9,c.ex.trans D,ad,Wu _,l.up (c.ex.trans D)⟩
     | _=>exact(c.rH l).up O9):=O6 h;exact o9
   ·have W:jp i k b a q σ=((RS,(k0 b a (U8 i (QB b) a σ.step)).1,q),(k0 b a (U8 i (QB b) a σ.step)).2):=by
     rcases d with p|p|p
     ·exact absurd p M
     ·exact wV ay p
     ·exact zp ay p
    have ad:Qk b.2=true:=by
     unfold Qk
     rcases d with p|p|p
     ·exact absurd p M
     all_goals
      rw[p];rfl
    rw[W];have c:=xe o f z;unfold k0
    rcases X:U8 i (QB b) a σ.step with ⟨⟨v,m⟩,g⟩
    rw[X] at c
    cases m with
    | no=>
     have t:=c.iv.start c.va a.scope b.2.tx;have D:K4 g.M a.scope b.2.tx:=c.ex.k4 _ _ (ah ad);refine⟨t.iv.up O9,c.ex.trans t.ex,?_,Wu _,l.up (c.ex.trans t.ex)⟩
     show Eo _ (m4 (g.M.start a.scope b.2.tx v).1)
     rw[atZ D];exact c.er
    | _=>exact(c.rH l).up O9
  | func d=>rw[o4 ay O9];exact .ret L f.st (Wu _) l
  | empty d=>rw[o4 ay O9];exact .ret L f.st (Wu _) l
  | gw d t=>
   rw[sA ay d];obtain⟨r,I,D⟩:=f.iv.block t f.po;have R:Q k (j - 10000+5000) (Qu b a σ.step).1 (Qu b a σ.step).2:=⟨by rw[r.st];exact f.fu,by rw[r.st];exact f.st,r.iv,I⟩
   exact((qm o (QB b) R (λp d=>t.ks _ (QZ d)) D (l.up r.ex)).after r.ex).up O9
  | l0 d C s E F t=>
   rw[tQ ay d];have c:=(o.v f s).1;unfold mY;have T{G}(h:G:=by
   have A:=l.up c.ex
   cases m with
   | no=>
    simp only
    split
    ·exact((o.s (f.next c) E (λm=>by rw[F] at m;cases m) A).1.after c.ex).up O9
    ·split
     ·obtain⟨D,M⟩:=t O9;exact((o.s (f.next c) D (λm=>by rw[M] at m;cases m) A).1.after c.ex).up O9
     ·exact⟨c.iv.up O9,c.ex,c.er,Wu _,A⟩
   | _=>exact(c.rH l).up O9):=O6 h;exact o9
  | loop d C s E F=>
   rcases d with d|d
   ·rw[uD ay d];exact(HQ o s E F k f f.fu l).up O9
   ·rw[ue ay d];obtain⟨D,t,M,_⟩:=qc o f (d:=Pg b 0) s;unfold pJ
    rcases X:UJ i (Pg b 0) a σ.step with ⟨⟨aL,m⟩,g⟩
    rw[X] at D t M;have A:=l.up t
    cases m with
    | no=>
     simp only;have r:=D.gq a.scope aL (-2);have T{G}(h:G:=by
     have R:Q k (j - 10000+1) { a with scope:=g.gg } (g.gq a.scope aL (-2)):=⟨by have:=f.fu;have:=t.st;dsimp only at this;show 20001<g.steps+k;omega,by rw[r.st];exact M,r.iv,aS⟩
     exact((o.s R E (λm=>by rw[F] at m;cases m) (A.up r.ex)).1.after (t.trans r.ex)).up O9):=O6 h;exact D3
    | _=>exact⟨D.up O9,t,M,Wu _,A⟩
  | hU d C z=>
   rw[tV ay d];have c:=xe o f z;exact⟨c.iv.up O9,c.ex,c.er,c.va,l.up c.ex⟩
  | one d C s=>
   have c:=(o.v f s).1
   rcases d with d|d
   ·rw[tw ay d];unfold qn;have T{G}(h:G:=by
    cases m with
    | no=>exact⟨c.iv.up O9,c.ex,⟨c.er,c.va⟩,Wu _,l.up c.ex⟩
    | _=>exact(c.rH l).up O9):=O6 h;exact o9
   ·rw[sB ay d];unfold nO;have T{G}(h:G:=by
    cases m with
    | no=>
     refine⟨c.iv.up O9,c.ex,c.er,Wu _,λx B=>?_⟩
     cases q with
     | none=>cases B
     | some y=>cases B;exact c.va
    | _=>exact(c.rH l).up O9):=O6 h;exact o9
  | lc d C s M z=>
   rw[vj ay d];have t:=(o.s f s (λm=>by rw[M] at m;cases m) l).1
   generalize i.s (Pg b 0) a q σ.step=D at t ⊢
   have I:=BE o (QB b).tail (j:=j - 10000) (aL:=D.1.1) (m:=D.1.2.1) (q:=D.1.2.2) (σ:=D.2) ⟨by have:=f.fu;have:=t.ex.st;omega,t.iv,f.po.up t.ex,t.er,t.va,t.la⟩ (λx B=>⟨(z x B).2.2.1,(z x B).2.2.2⟩)
   exact(I.after t.ex).up (by rw[lu,RU];omega)
 ·rw[ya ay];have:=h.st;exact⟨h.iv.step.up O9,Ex.refl _,by show σ.steps+1=20001;omega,Wu _,U⟩
def pO:∀ k,FI (fx k) k
 | 0=>⟨λh _=>by have:=h.fu;have:=h.st;omega,λh _ _ _=>by have:=h.fu;have:=h.st;omega⟩
 | k+1=>⟨λh c=>aKv (pO k) h c,λh c d e=>aKw (pO k) h c d e⟩
def ij:St:=⟨⟨[⟨0,[]⟩],[⟨-1,0,[]⟩,⟨0,-1,[]⟩]⟩,[],0,[],[-1,0],[],0⟩
def E5:Iv 10 ij:=by
 refine⟨⟨10,⟨⟨⟨λc x h=>?_,λc x h=>?_,λc x h=>?_,λc x h=>?_⟩,by decide,by decide,λx d=>?_,λx d=>?_⟩,by decide,by decide,by decide,by decide,rfl⟩,by decide⟩,⟨λx d o e=>?_,λx d o e=>?_,λx d=>?_⟩,(λk o=>by cases o),by decide,by decide,by decide⟩
 ·rcases c with _|_|c
  ·
   cases h;exact⟨by decide,by decide⟩
  ·
   cases h;exact⟨by decide,by decide⟩
  ·
   cases h
 ·rcases c with _|_|c
  ·
   cases h;exact .inr ⟨0,rfl,by decide⟩
  ·
   cases h;exact .inl rfl
  ·
   cases h
 ·rcases c with _|c
  ·
   cases h;intro c n l b f;cases f
  ·
   cases h
 ·rcases c with _|_|c
  ·
   cases h;intro c n l b f;cases f
  ·
   cases h;intro c n l b f;cases f
  ·
   cases h
 ·rw[gc.1 d];exact f3 _
 ·rcases gP.1 d with rfl|d
  ·exact f3 _
  ·rw[gc.1 d];exact f3 _
 ·rw[gc.1 d] at e;cases e
 ·rcases gP.1 d with rfl|d
  ·
   cases e
  ·rw[gc.1 d] at e;cases e
 ·rw[gc.1 d];exact⟨by decide,by decide⟩
def Zi:Iv 100 Q5/\N4 Q5.M 1:=by
 have r:=E5.Qj (e:=1) Pm;have c:=r.iv.put (v:=UH 1) (vy ⟨by decide,by decide⟩) 0 XL false;have l:=c.iv.Qj (e:=2) ⟨by decide,by show (2:Int)<3+_;omega⟩
 have d:=l.iv.put (v:=UH 2) (vy ⟨by decide,by
  show (2:Int)<((Mo.Qj _ 2).objs.length:Nat)
  have m:(Mo.put (ij.M.Qj 1) 0 XL (UH 1) false).2.objs.length=2:=by rw[(WZ _ _ _ _ _).ol];rfl
  show (2:Int)<(((Mo.put (ij.M.Qj 1) 0 XL (UH 1) false).2.objs++[_]).length:Nat)
  rw[gj,m]
  decide⟩) 0 Vs false
 have p:N4 ij.M 1:=⟨1,_,rfl,rfl,rfl,λe f=>by cases f⟩;have o:=N4.nB (g:=ij.M.Qj 1) (show N4 (ij.M.Qj 1) 1 from p) (WZ _ 0 XL (UH 1) false) Pm;have s:=N4.nB (g:=((ij.M.Qj 1).put 0 XL (UH 1) false).2.Qj 2) o (WZ _ 0 Vs (UH 2) false) Pm;exact⟨d.iv.up Pm,s⟩
def aBN {c:Tr}(f:Bk c):SO 9000 Q5 ((SG (fx 20002) (QI (some 0,c) Q5).1 (QB (some 0,c)) none (QI (some 0,c) Q5).2)):=by
 obtain⟨d,l,p⟩:=Zi.1.prog (d:=(some 0,c)) f Zi.2;have o:Q 20002 9000 (QI (some 0,c) Q5).1 (QI (some 0,c) Q5).2:=⟨by omega,by rw[d.st];decide,d.iv.up O9,l⟩
 exact(qm (pO 20002) (QB (some 0,c)) (o:=none) o (λn e=>f.ks _ (QZ e)) p (λ_ m=>by cases m)).after d.ex
end
def jo {α:Type}(a b:(α × Er) × St):Prop:=a.1.2=.stop\/(b.1=a.1/\Sr a.2 b.2)
def l1 (a b:(Oc × Er × Option Va) × St):Prop:=a.1.2.1=.stop\/(b.1=a.1/\Sr a.2 b.2)
def jo.ca {α:Type}{d e:(α × Er) × St}(h:jo d e):(∃ x a,d=((x,.stop),a))\/∃ x b a c,d=((x,b),a)/\e=((x,b),c)/\Sr a c:=by
 obtain⟨⟨x,b⟩,a⟩:=d;obtain⟨f,c⟩:=e
 rcases h with h|⟨i,g⟩
 ·exact .inl ⟨x,a,by rw[show b=.stop from h]⟩
 ·exact .inr ⟨x,b,a,c,rfl,by rw[show f=(x,b) from i],g⟩
def l1.ca {f g:(Oc × Er × Option Va) × St}(h:l1 f g):(∃ b a c,f=((b,.stop,a),c))\/∃ b d a c e,f=((b,d,a),c)/\g=((b,d,a),e)/\Sr c e:=by
 obtain⟨⟨b,d,a⟩,c⟩:=f;obtain⟨i,e⟩:=g
 rcases h with h|⟨k,j⟩
 ·exact .inl ⟨b,a,c,by rw[show d=.stop from h]⟩
 ·exact .inr ⟨b,d,a,c,e,rfl,by rw[show i=(b,d,a) from k],j⟩
def jo.mk {α:Type}{x:α}{b:Er}{c a:St}(h:Sr c a):jo ((x,b),c) ((x,b),a):=.inr ⟨rfl,h⟩
def l1.mk {x:Oc × Er × Option Va}{b a:St}(h:Sr b a):l1 (x,b) (x,a):=.inr ⟨rfl,h⟩
structure FF (F G:Fx):Prop where
 v:∀ {d d':Nd} {p:Pl} {σ σ':St},Ed d d'->Sr σ σ'->jo (F.v d p σ) (G.v d' p σ')
 s:∀ {d d':Nd} {p:Pl} {l:Option Va} {σ σ':St},Ed d d'->Sr σ σ'->l1 (F.s d p l σ) (G.s d' p l σ')
section
variable {q G:Fx} {b p:Nd} {a:Pl} {c d:St} {r:Option Va}
def IE {g i:St->(Va × Er) × St}(h:Sr c d)(j:∀ {c d:St},Sr c d->jo (g c) (i d)):jo (within c g) (within d i):=by
 unfold within;rw[h.c]
 split
 ·exact .mk h
 ·have l:Sr { c with fO:=c.fO+1 } { d with fO:=c.fO+1 }:=⟨h.m,h.l,rfl,h.s,h.n,h.f⟩
  rcases(j l).ca with ⟨x,n,f⟩|⟨x,o,n,m,f,k,e⟩
  ·left;simp only;rw[f]
  ·simp only;rw[f,k];exact .mk ⟨e.m,e.l,by show m.fO - 1=_;rw[e.c],e.s,e.n,e.f⟩
def Ta (e:Tr)(a:Pl)(h:Sr c d):(PI (none,e) a d).1=(PI (none,e) a c).1/\Sr (PI (none,e) a c).2 (PI (none,e) a d).2:=by
 unfold PI;simp only;have j:Sr ((Tv e).foldl (λc f=>gA a.gh f c) c) ((Tv e).foldl (λc f=>gA a.gh f c) d):=Yo _ h λf c d h=>by
  unfold gA;rw[h.m]
  split
  ·exact h
  ·split
   ·exact h.Rj _ _ _ _
   ·exact h.hi _ _ _ _
 generalize (Tv e).foldl (λc f=>gA a.gh f c) c=τ at j
 generalize (Tv e).foldl (λc f=>gA a.gh f c) d=τ' at j
 have s:En ((none,e):Nd) ((none,e):Nd):=Zt rfl;have o:∀ (i:Pl) {τ τ':St},Sr τ τ'->Sr ((Ul (none,e)).foldl (λc k=>let g:=f5 k i c;{ g.2 with M:=(g.2.M.write i.gh k.2.tx g.1).2 }) τ) ((Ul (none,e)).foldl (λc k=>let g:=f5 k i c;{ g.2 with M:=(g.2.M.write i.gh k.2.tx g.1).2 }) τ'):=λi τ τ' h=>zW (ww s) h λb p c d l h=>by
  have m:=Ai l.2;obtain⟨t,n⟩:=h.fun (p:=i) l.1 (.inl m);simp only;rw[t,(l.1.nY (a:=5) O9).2 m,n.m];exact n.mm _
 split
 ·rw[j.gg];exact⟨rfl,o _ ((j.gq _ _ _ _).lets (zj e) _)⟩
 ·exact⟨rfl,o _ j⟩
def GV (h:Sr c d)(f:Int)(e:Py)(g:Va)(j:Bool):(YV f e g j d).1=(YV f e g j c).1/\Sr (YV f e g j c).2 (YV f e g j d).2:=by
 unfold YV;simp only;rw[h.m];have i:Sr { c with M:=(c.M.write f e g).2 } { d with M:=(c.M.write f e g).2 }:=h.mm _
 split
 ·unfold XJ
  split
  ·exact⟨rfl,i⟩
  ·exact⟨rfl,i.Rj _ _ _ _⟩
 ·split
  ·exact⟨rfl,i⟩
  ·split
   ·exact⟨rfl,i⟩
   ·split
    all_goals
     exact⟨rfl,i⟩
section
variable (f:FF q G)
include f
section
variable {g i:List Nd} (k:iQ Ed g i)
include g i k
def Cy:∀ (e:List Va) {c d:St},Sr c d->jo (UD q a g e c) (UD G a i e d):=by
 induction k with
 | nil=>intro e c d h;exact .mk h
 | cons s _ n=>
  intro e c d h;rw[UD,UD]
  rcases(f.v (p:=a) s h).ca with ⟨x,t,j⟩|⟨x,o,t,u,j,m,l⟩
  ·rw[j];exact .inl rfl
  ·rw[j,m]
   cases o with
   | no=>exact n _ l
   | _=>exact .mk l
def sR:∀ (r:Option Va) {c d:St},Sr c d->l1 (SG q a g r c) (SG G a i r d):=by
 induction k with
 | nil=>intro r c d h;exact .mk h
 | cons s _ n=>
  intro r c d h;rw[SG,SG]
  rcases(f.s (p:=a) (l:=r) s h).ca with ⟨t,m,u,e⟩|⟨t,o,m,u,v,e,l,j⟩
  ·rw[e];exact .inl rfl
  ·rw[e,l]
   cases o with
   | no=>
    simp only
    split
    ·exact .mk j
    ·exact n _ j
   | _=>exact .mk j
end
def aqV {g k:Fu}(e:Fe g k)(i:List Va)(h:Sr c d):jo (WG q g i c) (WG G k i d):=by
 unfold WG;refine IE h fun {c d} h=>?_;have l:=Sr.body (h.gq g.scope (-1) (own g.d) (own k.d)) e.d e.k ⟨c.gg,c.gg,g.fT⟩ i;simp only;rw[h.gg,e.s,e.t]
 rcases(sR f (a:=⟨c.gg,c.gg,g.fT⟩) (e.d.fu e.k).2.1.el none l).ca with ⟨s,n,t,j⟩|⟨s,u,n,t,v,j,m,o⟩
 ·left;rw[j]
 ·rw[j,m];exact .mk o
def aoq (e:Tr)(a:Pl)(h:Sr c d):jo (Xk q (none,e) a c) (Xk G (none,e) a d):=by
 unfold Xk;simp only;rw[h.m,h.gg]
 split
 ·exact .mk h
 ·have g:(if (a.fT||PO e)=true then ((⟨c.gg,c.gg,true⟩,d.gq a.scope (-1) (-3)):Pl × St) else ({ a with fT:=a.fT||PO e },d)).1=(if (a.fT||PO e)=true then ((⟨c.gg,c.gg,true⟩,c.gq a.scope (-1) (-3)):Pl × St) else ({ a with fT:=a.fT||PO e },c)).1/\Sr (if (a.fT||PO e)=true then ((⟨c.gg,c.gg,true⟩,c.gq a.scope (-1) (-3)):Pl × St) else ({ a with fT:=a.fT||PO e },c)).2 (if (a.fT||PO e)=true then ((⟨c.gg,c.gg,true⟩,d.gq a.scope (-1) (-3)):Pl × St) else ({ a with fT:=a.fT||PO e },d)).2:=by
   split
   ·exact⟨rfl,h.gq _ _ _ _⟩
   ·exact⟨rfl,h⟩
  generalize (if (a.fT||PO e)=true then ((⟨c.gg,c.gg,true⟩,c.gq a.scope (-1) (-3)):Pl × St) else ({ a with fT:=a.fT||PO e },c))=j at g
  generalize (if (a.fT||PO e)=true then ((⟨c.gg,c.gg,true⟩,d.gq a.scope (-1) (-3)):Pl × St) else ({ a with fT:=a.fT||PO e },d))=v at g
  obtain⟨n,l⟩:=Ta e j.1 g.2;rw[g.1,n]
  rcases(sR f (a:=(PI (none,e) j.1 j.2).1) (Zt (d:=(none,e)) (b:=(none,e)) rfl).el (some vU) l).ca with ⟨t,m,u,i⟩|⟨t,o,m,u,w,i,k,s⟩
  ·left;rw[i]
  ·rw[i,k]
   cases o <;> exact .mk s
def avL {e i:Tr}(l:Et e i)(a:Pl)(k:List Va)(h:Sr c d):jo (XA q e a k c) (XA G i a k d):=by
 unfold XA
 cases k with
 | nil=>exact .mk h
 | cons n more=>
  simp only
  split
  ·exact .mk h
  ·have m:(if i.kd≠23\/i.tx≠Vs then ⟨1,0,false⟩ else a:Pl)=if e.kd≠23\/e.tx≠Vs then ⟨1,0,false⟩ else a:=by
    have j:=l.nY (a:=23) O9
    by_cases g:e.kd=23
    ·rw[j.1.2 g,j.2 g,g]
    ·rw[fL (fM g),fL (fM λx=>g (j.1.1 x))]
   rw[m];refine IE h fun {c d} h=>?_
   split
   ·split
    ·exact aoq f _ _ h
    ·exact .mk h
   ·exact .mk h
def avM (k:En b p)(h:Sr c d):jo (YH q b a c) (YH G p a d):=by
 unfold YH
 rcases(Cy f (a:=a) k.el [] h).ca with ⟨x,g,i⟩|⟨x,u,g,n,i,t,e⟩
 ·rw[i];cases x <;> exact .inl rfl
 ·rw[i,t]
  cases u with
  | no=>
   cases x with
   | nil=>exact .mk e
   | cons m l=>
    simp only;rw[e.m]
    split
    ·exact .mk e
    ·split
     ·exact .mk e
     ·split
      ·exact .mk ⟨rfl,by show n.hq++_=g.hq++_;rw[e.l],e.c,e.s,e.n,e.f⟩
      ·split
       ·exact avL f (k.gK 0) a l e
       ·
        cases j:g.Ri[(g.M.gn m.n - 3).toNat]? with
        | none=>
         rw[show n.Ri[(g.M.gn m.n - 3).toNat]? = none from List.getElem?_eq_none (by rw[e.n];exact mA.1 j)]
         exact .mk e
        | some v=>
         obtain⟨w,o,s⟩:=e.f _ v j;rw[o];exact aqV f s l e
  | _=>cases x <;> exact .mk e
def y4 (k:Ed b p)(h:Sr c d):jo (UJ q b a c) (UJ G p a d):=by
 unfold UJ
 rcases(f.v (p:=a) k h).ca with ⟨x,l,e⟩|⟨x,j,l,m,e,i,g⟩
 ·rw[e];exact .inl rfl
 ·rw[e,i]
  cases j with
  | no=>
   simp only
   split
   all_goals
    exact .mk g
  | _=>exact .mk g
def MA (l:Int){g k:List Nd}(s:iQ En g k):∀ {c d:St},Sr c d->jo (Y7 q a l g c) (Y7 G a l k d):=by
 induction s with
 | nil=>intro c d h;exact .mk h
 | cons i _ n=>
  intro c d h;rw[Y7,Y7]
  rcases(f.v (p:=a) (i.gK 0) h).ca with ⟨x,t,e⟩|⟨x,o,t,u,e,m,j⟩
  ·rw[e];exact .inl rfl
  ·rw[e,m]
   cases o with
   | no=>simp only;rw[i.tx];exact n (j.Rj _ _ _ _)
   | _=>exact .mk j
def azH (A:Ed b p)(m:b.2.kd=24)(h:Sr c d):jo (n0 q b a c) (n0 G p a d):=by
 have n:=(A.ee O9).1;have u:=n.gK 0;have v:=u.nY (a:=36) O9;have s:(Pg p 0).2.tx=(Pg b 0).2.tx:=by
  rcases A with j|⟨⟨C,z⟩,_⟩
  ·rw[rb,rb,j]
  ·
   cases w:b.2 with
   | mk B F l E=>
    rw[w] at z m;change B=24 at m;subst m
    cases z with
    | YV e=>
     have k:=Xz (d:=b) (a:=0) (c:=_) (by rw[w];rfl)
     rw[<-k] at e
     rcases e with e|e
     ·exact(u.nY (a:=23) O9).2 e
     ·exact v.2 e
    | YW h=>cases h
    | _=>omega
 unfold n0;simp only
 by_cases l:(Pg b 0).2.kd=36
 ·rw[fL l,fL (v.1.2 l)]
  rcases(f.v (p:=a) ((u.ee O9).1.gK 0) h).ca with ⟨x,z,k⟩|⟨x,j,z,B,k,w,e⟩
  ·rw[k];exact .inl rfl
  ·rw[k,w]
   cases j with
   | no=>
    simp only
    rcases(f.v (p:=a) (n.gK 1) e).ca with ⟨y,o,i⟩|⟨y,j,o,D,i,t,g⟩
    ·rw[i];exact .inl rfl
    ·rw[i,t]
     cases j with
     | no=>
      simp only;rw[s,g.m]
      split
      ·exact .mk g
      ·exact .mk (g.Rj _ _ _ _)
     | _=>exact .mk g
   | _=>exact .mk e
 ·rw[fK l,fK λx=>l (v.1.1 x)];obtain⟨C,w⟩:=Sr.look (p:=a) h s
  rcases(f.v (p:=a) (n.gK 1) w).ca with ⟨y,o,i⟩|⟨y,j,o,D,i,t,g⟩
  ·rw[i];exact .inl rfl
  ·rw[i,t]
   cases j with
   | no=>
    simp only;rw[s,C];obtain⟨B,z⟩:=GV g (look (Pg b 0) a c).1 (Pg b 0).2.tx y a.fT;rw[B];exact .mk z
   | _=>exact .mk g
section
variable (g:En b p) (h:Sr c d)
include g h
def ZZ:jo (lE q b a c) (lE G p a d):=by
 have l:=g.gK 0;have o:=l.nY (a:=23) O9;have s:=l.nY (a:=36) O9;unfold lE;simp only
 by_cases k:(Pg b 0).2.kd=23
 ·rw[fL k,fL (o.1.2 k),o.2 k,h.m];exact .mk (h.mm _)
 ·rw[fK k,fK λx=>k (o.1.1 x)]
  by_cases j:(Pg b 0).2.kd=36
  ·rw[fL j,fL (s.1.2 j),s.2 j]
   rcases(y4 f (a:=a) ((l.ee O9).1.gK 0) h).ca with ⟨x,t,e⟩|⟨x,n,t,u,e,m,i⟩
   ·rw[e];exact .inl rfl
   ·rw[e,m]
    cases n with
    | no=>
     simp only;rw[i.m]
     split
     all_goals
      exact .mk (i.mm _)
    | _=>exact .mk i
  ·rw[fK j,fK λx=>j (s.1.1 x)]
   rcases(f.v (p:=a) l h).ca with ⟨x,t,e⟩|⟨x,n,t,u,e,m,i⟩
   ·rw[e];exact .inl rfl
   ·rw[e,m]
    cases n <;> exact .mk i
def Gk:jo (ZJ q b a c) (ZJ G p a d):=by
 unfold ZJ;rw[g.kd]
 rcases(f.v (p:=a) (g.gK 0) h).ca with ⟨x,l,e⟩|⟨x,k,l,m,e,j,i⟩
 ·rw[e];exact .inl rfl
 ·rw[e,j]
  cases k with
  | no=>
   simp only
   split
   ·exact .mk i
   ·exact f.v (g.gK 1) i
  | _=>exact .mk i
def rj:jo (YQ q b a c) (YQ G p a d):=by
 unfold YQ
 rcases(Cy f (a:=a) g.el [] h).ca with ⟨x,n,i⟩|⟨x,m,n,o,i,l,e⟩
 ·rw[i];rcases x with _|⟨j,_|⟨k,x⟩⟩ <;> exact .inl rfl
 ·rw[i,l]
  cases m with
  | no=>
   rcases x with _|⟨j,_|⟨k,x⟩⟩
   ·exact .mk e
   ·exact .mk e
   ·simp only;rw[g.kd,e.m];exact .mk e
  | _=>rcases x with _|⟨j,_|⟨k,x⟩⟩ <;> exact .mk e
end
def IH {e g:List Nd}(j:iQ Ed e g)(h:Sr c d):jo (U8 q e a c) (U8 G g a d):=by
 cases j with
 | nil=>exact .mk h
 | cons i _=>exact f.v i h
def Lp (j:En b p):∀ {e n:Nat} (r:Option Va) {c d:St},e<=n->Sr c d->l1 (Yp q b a e r c) (Yp G p a n r d)
 | 0,_,_,_,_,_,_=>.inl rfl
 | e+1,0,_,_,_,s,_=>by omega
 | e+1,n+1,r,c,d,s,h=>by
  rw[Yp,Yp]
  rcases(f.v (p:=a) (j.gK 0) h).ca with ⟨x,z,k⟩|⟨x,l,z,A,k,t,m⟩
  ·rw[k];exact .inl rfl
  ·rw[k,t]
   cases l with
   | no=>
    simp only
    split
    ·rcases(f.s (p:=a) (l:=r) (j.gK 1) m).ca with ⟨w,o,u,i⟩|⟨w,l,o,u,B,i,v,g⟩
     ·rw[i];exact .inl rfl
     ·rw[i,v]
      cases l with
      | no=>
       simp only
       split
       ·exact .mk g
       ·exact Lp j o O9 g
      | _=>exact .mk g
    ·exact .mk m
   | _=>exact .mk m
section
variable (l:En b p) (j:Oc) (e:Er) (h:Sr c d)
include l j e h
def azJ:l1 (WR q b a j e r c) (WR G p a j e r d):=by
 cases e with
 | Yq g=>
  simp only[WR];rw[h.gg,l.tx];exact f.s (l.gK 0) ((h.gq _ _ _ _).hi _ _ _ _)
 | _=>exact .mk h
def azK:l1 (VG q b a j e r c) (VG G p a j e r d):=by
 have n:∀ e:Er,l1 (match q.s (Pg b 0) a r c with
  | ((i,.no,g),k)=>if i.ret then ((i,.no,g),k) else ((j,e,g),k)
  | o=>o) (match G.s (Pg p 0) a r d with
  | ((i,.no,g),k)=>if i.ret then ((i,.no,g),k) else ((j,e,g),k)
  | o=>o):=λe=>by
  rcases(f.s (p:=a) (l:=r) (l.gK 0) h).ca with ⟨i,g,t,m⟩|⟨i,v,g,t,w,m,u,s⟩
  ·rw[m];exact .inl rfl
  ·rw[m,u]
   cases v with
   | no=>
    simp only
    split
    all_goals
     exact .mk s
   | _=>exact .mk s
 cases e with
 | stop=>exact .inl rfl
 | no=>exact n .no
 | Yq m=>exact n (.Yq m)
 | ir=>exact n .ir
end
def I2 {l s:List Nd}(A:iQ En l s):∀ {g:Oc} {e:Er} {r:Option Va} {c d:St},(e=.stop\/Sr c d)->∀ i,(e≠.stop->i=((g,e,r),d))->l1 (Yr q a l g e r c) (Yr G a s i.1.1 i.1.2.1 i.1.2.2 i.2):=by
 induction A with
 | nil=>
  intro g e r c d h i m;rw[Yr,Yr]
  rcases h with h|h
  ·exact .inl h
  ·by_cases j:e=.stop
   ·exact .inl j
   ·rw[m j];exact .mk h
 | @cons b p l s o _ n=>
  intro g e r c d h i m;rw[Yr,Yr]
  by_cases j:e=.stop
  ·subst j;have k:(if b.2.kd=13 then WR q b a g .stop r c else VG q b a g .stop r c)=((g,.stop,r),c):=by split <;> rfl
   rw[k];exact n (d:=d) (.inl rfl) _ λh=>absurd rfl h
  ·rcases h with h|h
   ·exact absurd h j
   ·rw[m j,o.kd];have B:l1 (if b.2.kd=13 then WR q b a g e r c else VG q b a g e r c) (if b.2.kd=13 then WR G p a g e r d else VG G p a g e r d):=by
     split
     ·exact azJ f o g e h
     ·exact azK f o g e h
    rcases B.ca with ⟨w,v,u,k⟩|⟨w,C,v,u,D,k,z,t⟩
    ·rw[k];exact n (d:=d) (.inl rfl) _ λh=>absurd rfl h
    ·rw[k,z];exact n (.inr t) _ λ_=>rfl
end
def VH (e:Tr):Va:=if e.kd=17 then WT e.n else if e.kd=18 then Vk e.tx else if e.kd=19 then QE true else if e.kd=20 then QE false else if e.kd=21 then oR else vU
def sC {e:Tr}(f:c.steps<20000)(m:RY e=true)(x:Option Nat):YR q (x,e) a c=((VH e,.no),c.step):=by
 have m:=kc m;unfold VH
 by_cases g:e.kd=17
 ·rw[q3 f g,fL g]
 rw[fK g]
 by_cases i:e.kd=18
 ·rw[si f i,fL i]
 rw[fK i]
 by_cases l:e.kd=19
 ·rw[sj f l,fL l]
 rw[fK l]
 by_cases j:e.kd=20
 ·rw[rW f j,fL j]
 rw[fK j]
 by_cases k:e.kd=21
 ·rw[sa f k,fL k]
 rw[fK k];have:e.kd=22:=O9;exact qN f (by show e.kd≠17/\_;simp only[this];decide)
section
variable {e:Tr} (h:TW 0 e) (f:RY e=true)
include e h f
def GR:(VH e).iU=k8 e:=by
 rcases Yj h f with ⟨g,_,rfl⟩|⟨i,_,rfl⟩|rfl|rfl|rfl|rfl
 all_goals
  rfl
def avN (g:Mo):UO g (VH e)=tT e:=by
 rcases Yj h f with ⟨i,_,rfl⟩|⟨j,_,rfl⟩|rfl|rfl|rfl|rfl <;> rfl
def Jk (g:Mo):g.hu (VH e)=lK e:=by
 rcases Yj h f with ⟨i,_,rfl⟩|⟨j,_,rfl⟩|rfl|rfl|rfl|rfl <;> rfl
end
def o6 (e:Bool):VH (ZI e)=QE e/\RY (ZI e)=true:=by cases e <;> exact⟨rfl,rfl⟩
def x5 {e:Py}{f:Tr}(h:nj e=some f):VH f=Vk e/\RY f=true/\¬ 500<e.size:=by
 unfold nj at h
 split at h
 ·
  cases h
 ·rename_i g;cases h;exact⟨rfl,rfl,g⟩
def qo {f:Int}{e:Tr}(h:nZ f=some e):VH e=WT f/\RY e=true/\Vl f=(VH e,.no):=by
 unfold nZ at h
 split at h
 ·
  cases h
 ·rename_i g;cases h
  exact⟨rfl,rfl,by unfold Vl;rw[fK O9];rfl⟩
def J0 {j:Int}{e f:Tr}(h:ny j e=some f)(l:TW 0 e)(m:Mo):RY e=true/\RY f=true/\(j=32->VH f=QE (!(VH e).iU))/\(j≠32->VH f=Vk (UO m (VH e))):=by
 unfold ny at h
 split at h
 ·rename_i i
  refine⟨i,?_⟩;rw[GR l i,avN l i]
  split at h
  ·rename_i g;cases h;exact⟨(o6 _).2,λ_=>(o6 _).1,λk=>absurd g k⟩
  ·rename_i g;exact⟨(x5 h).2.1,λk=>absurd k g,λ_=>(x5 h).1⟩
 ·
  cases h
def avO {e f:Tr}(i:TW 0 e)(g:TW 0 f)(j:RY e=true)(k:RY f=true):VH e=VH f↔(e.kd=f.kd/\e.n=f.n/\e.tx=f.tx):=by
 rcases Yj i j with ⟨m,_,rfl⟩|⟨n,_,rfl⟩|rfl|rfl|rfl|rfl <;> rcases Yj g k with ⟨l,_,rfl⟩|⟨o,_,rfl⟩|rfl|rfl|rfl|rfl <;> simp[VH,Tr.kd,Tr.n,Tr.tx,WT,Vk,QE,oR,vU]
def C7 {e:Tr}(f:TW 0 e)(g:RY e=true):((VH e).k=3↔e.kd=17)/\((VH e).k=4↔e.kd=18)/\(e.kd=17->(VH e).n=e.n)/\(e.kd=18->(VH e).s=e.tx):=by
 rcases Yj f g with ⟨i,_,rfl⟩|⟨j,_,rfl⟩|rfl|rfl|rfl|rfl <;> simp[VH,Tr.kd,Tr.n,Tr.tx,WT,Vk,QE,oR,vU]
def aq1 (e f:Py):(XI e f).size=e.size+f.size:=by
 show ((e.data.toList++f.data.toList).toArray).size=e.data.size+f.data.size
 rw[jK,gj,mX,mX]
def LG {k:Int}{i j w:Tr}(h:lZ k i j=some w)(_:27<=k/\k<=31)(s:TW 0 i)(n:TW 0 j)(D:Mo):RY i=true/\RY j=true/\RY w=true/\Wl D k (VH i) (VH j)=(VH w,.no):=by
 unfold lZ at h
 split at h
 ·rename_i B
  rw[kw] at B;obtain⟨l,m⟩:=B;refine⟨l,m,?_⟩;obtain⟨z,o,E,F⟩:=C7 s l;obtain⟨A,u,L,H⟩:=C7 n m;unfold Wl;rw[Jk s l,Jk n m]
  split at h
  ·rename_i t
   cases h;rw[fL t,(o6 _).1];exact⟨(o6 _).2,by congr 2;exact decide_eq_decide.2 (avO s n l m)⟩
  ·rename_i t
   rw[fK t]
   split at h
   ·rename_i g
    rw[fL ⟨z.2 g.1,A.2 g.2⟩,E g.1,L g.2];unfold pG at h
    split at h
    ·rename_i e;cases h;rw[fL e,(o6 _).1];exact⟨(o6 _).2,rfl⟩
    ·rename_i e
     rw[fK e]
     split at h
     ·rename_i f;rw[fL f];exact⟨(qo h).2.1,(qo h).2.2⟩
     ·rename_i f
      rw[fK f]
      split at h
      ·rename_i v;rw[fL v];exact⟨(qo h).2.1,(qo h).2.2⟩
      ·rename_i v;rw[fK v];exact⟨(qo h).2.1,(qo h).2.2⟩
   ·rename_i g
    rw[fK λx=>g ⟨z.1 x.1,A.1 x.2⟩]
    split at h
    ·rename_i f
     obtain⟨I,C,v⟩:=x5 h;rw[aq1] at v;rw[fL ⟨f.1,f.2.imp o.2 u.2⟩,fK v,I];exact⟨C,rfl⟩
    ·rename_i f
     rw[fK λx=>f ⟨x.1,x.2.imp o.1 u.1⟩]
     split at h
     ·rename_i e
      cases h;rw[fL ⟨e.1,o.2 e.2.1,u.2 e.2.2⟩,F e.2.1,H e.2.2,(o6 _).1];exact⟨(o6 _).2,rfl⟩
     ·
      cases h
 ·
  cases h
def MS {f m:Int}{n:Py}{l:List Tr}{k:Tr}(h:hY (.mk f n m l)=some k):(∃ e,l=[e]/\(f=32\/f=33)/\ny f e=some k)\/∃ e g,l=[e,g]/\(((f=25\/f=26)/\my f e g=some k)\/((27<=f/\f<=31)/\lZ f e g=some k)):=by
 unfold hY at h
 split at h
 ·rename_i e j
  split at h
  ·rename_i i;exact .inl ⟨e,j,i,h⟩
  ·
   cases h
 ·rename_i e g j
  split at h
  ·rename_i i;exact .inr ⟨e,g,j,.inl ⟨i,h⟩⟩
  ·split at h
   ·rename_i i;exact .inr ⟨e,g,j,.inr ⟨i,h⟩⟩
   ·
    cases h
 ·
  cases h
section
variable (z:FF q G)
include z
section
variable {H:Fx} (o:∀ b a c,G.v b a c=YR H b a c)
include H o
def sZ {x:Nd}(l:TW 0 x.2)(n:RY (PG x.2)=true)(h:Sr c d)(k:d.steps<20000):(∃ f e,q.v x a c=((f,.stop),e))\/∃ e,q.v x a c=((VH (PG x.2),.no),e)/\Sr e d.step:=by
 have i:=z.v (d:=x) (d':=(none,PG x.2)) (p:=a) (.inr ⟨⟨0,l⟩,rfl⟩) h;rw[o,sC k n] at i
 rcases i.ca with ⟨f,e,g⟩|⟨f,s,e,t,g,m,j⟩
 ·exact .inl ⟨f,e,g⟩
 ·
  cases m;exact .inr ⟨e,g,j⟩
def R4 (F:TW 0 b.2)(D:lY b.2)(g:hY (.mk b.2.kd b.2.tx b.2.n (b.2.fJ.map PG))=some p.2)(h:Sr c d):jo (YR q b a c) (G.v p a d):=by
 by_cases m:c.steps<20000
 ·have v:d.steps<20000:=by have:=h.s;omega
  rcases MS g with ⟨E,s,am,g⟩|⟨E,T,s,ad⟩
  ·obtain⟨x,i,rfl⟩:∃ x,b.2.fJ=[x]/\PG x=E:=by
    rcases w:b.2.fJ with _|⟨x,_|⟨y,r⟩⟩ <;> rw[w] at s <;> simp at s
    exact⟨x,rfl,s⟩
   have n:TW 0 x:=by
    cases w:b.2 with
    | mk B ap aj R=>
     rw[w] at F i D;change R=[x] at i;subst i;change 25<=B/\B<=33 at D
     cases F with
     | one _ h=>exact h
     | _=>omega
   have j:(Pg b 0).2=x:=Xz (by rw[i];rfl)
   obtain⟨t,O,L,M⟩:=J0 g (Tz n) c.M;have k:=sZ z o (x:=Pg b 0) (a:=a) (by rw[j];exact n) (by rw[j];exact t) h.fst v
   rw[j] at k;have A:G.v p a d=((VH p.2,.no),d.step):=by rw[o];exact sC (e:=p.2) v O p.1
   rw[A]
   rcases am with e|e
   ·rw[qF m e];unfold oU
    rcases k with ⟨I,u,f⟩|⟨u,f,l⟩
    ·rw[f];exact .inl rfl
    ·rw[f,L e];exact .mk l
   ·rw[ri m e];unfold mC;have C:¬ ((Pg b 0).2.kd=23/\c.step.M.find a.scope (Pg b 0).2.tx = -1):=λP=>by
     have:=(he n (a:=23) O9).1.2 (by rw[<-j];exact P.1)
     have:=kc t;omega
    rw[fK C]
    rcases k with ⟨I,u,f⟩|⟨u,f,l⟩
    ·rw[f];exact .inl rfl
    ·have:=(J0 g (Tz n) u.M).2.2.2 O9;rw[f,this];exact .mk l
  ·obtain⟨x,y,i,rfl,rfl⟩:∃ x y,b.2.fJ=[x,y]/\PG x=E/\PG y=T:=by
    rcases w:b.2.fJ with _|⟨x,_|⟨y,_|⟨M,r⟩⟩⟩ <;> rw[w] at s <;> simp at s
    exact⟨x,y,rfl,s.1,s.2⟩
   have ac:TW 0 x/\TW 0 y:=by
    cases w:b.2 with
    | mk B ap aj R=>
     rw[w] at F i D;change R=[x,y] at i;subst i;change 25<=B/\B<=33 at D
     cases F with
     | two _ k l=>exact⟨k,l⟩
     | _=>omega
   obtain⟨n,L⟩:=ac;have j:(Pg b 0).2=x:=Xz (by rw[i];rfl)
   have C:(Pg b 1).2=y:=Xz (by rw[i];rfl)
   rcases ad with ⟨ak,g⟩|⟨W,g⟩
   ·have N:YR q b a c=ZJ q b a c.step:=by
     rcases ak with e|e
     ·exact qy m e
     ·exact ru m e
    rw[N];unfold my at g
    split at g
    ·rename_i t
     have k:=sZ z o (x:=Pg b 0) (a:=a) (by rw[j];exact n) (by rw[j];exact t) h.fst v
     rw[j] at k;unfold ZJ
     rcases k with ⟨I,u,f⟩|⟨u,f,l⟩
     ·rw[f];exact .inl rfl
     ·rw[f];simp only;rw[GR (Tz n) t]
      split at g
      ·rename_i M
       rw[fL M];have S:PG x=p.2:=gQ g;have A:G.v p a d=((VH p.2,.no),d.step):=by rw[o];exact sC (e:=p.2) v (S ▸ t) p.1
       rw[A,S];exact .mk l
      ·rename_i M
       rw[fK M];exact z.v (d:=Pg b 1) (d':=p) (.inr ⟨⟨0,by rw[C];exact L⟩,by rw[C];exact(gQ g).symm⟩) l.Hb
    ·
     cases g
   ·have N:YR q b a c=YQ q b a c.step:=by
     have P:b.2.kd=27\/b.2.kd=28\/b.2.kd=29\/b.2.kd=30\/b.2.kd=31:=O9
     rcases P with e|e|e|e|e
     ·exact r5 m e
     ·exact qQ m e
     ·exact rJ m e
     ·exact rD m e
     ·exact r0 m e
    rw[N];obtain⟨t,O,X,_⟩:=LG g W (Tz n) (Tz L) c.M;have A:G.v p a d=((VH p.2,.no),d.step):=by rw[o];exact sC (e:=p.2) v X p.1
    rw[A];have ai:QB b=[Pg b 0,Pg b 1]:=by
     have M:=RU b;rw[i] at M;unfold Pg
     generalize QB b=r at M
     rcases r with _|⟨E,_|⟨T,_|⟨S,r⟩⟩⟩ <;> simp at M
     rfl
    unfold YQ;rw[ai,UD];have k:=sZ z o (x:=Pg b 0) (a:=a) (by rw[j];exact n) (by rw[j];exact t) h.fst v
    rw[j] at k
    rcases k with ⟨I,u,f⟩|⟨u,f,l⟩
    ·rw[f];exact .inl rfl
    ·rw[f];simp only;rw[UD];have S:=sZ z o (x:=Pg b 1) (a:=a) (by rw[C];exact L) (by rw[C];exact O) l.Hb v
     rw[C] at S
     rcases S with ⟨I,U,M⟩|⟨U,M,ah⟩
     ·rw[M];exact .inl rfl
     ·rw[M];simp only[hR,hS,UD];rw[(LG g W (Tz n) (Tz L) U.M).2.2.2];exact .mk ah
 ·left;rw[vC m]
end
end
def aEs (j:FF q G)(f:En b p)(F:Ed b p)(h:Sr c d):jo (YR q b a c) (YR G p a d):=by
 have e:=h.step
 by_cases k:c.steps<20000
 ·have o:d.steps<20000:=by have:=h.s;omega
  have n:=f.kd
  by_cases B:b.2.kd=17
  ·rw[q3 k B,q3 o (n.trans B),f.n];exact .mk e
  by_cases C:b.2.kd=18
  ·rw[si k C,si o (n.trans C),f.tx];exact .mk e
  by_cases S:b.2.kd=19
  ·rw[sj k S,sj o (n.trans S)];exact .mk e
  by_cases O:b.2.kd=20
  ·rw[rW k O,rW o (n.trans O)];exact .mk e
  by_cases P:b.2.kd=21
  ·rw[sa k P,sa o (n.trans P)];exact .mk e
  by_cases I:b.2.kd=23
  ·rw[tu k I,tu o (n.trans I)];obtain⟨s,A⟩:=Sr.look (p:=a) e f.tx;unfold qk;simp only;rw[s,A.m,f.tx]
   split
   all_goals
    exact .mk A
  by_cases w:b.2.kd=24
  ·rw[tc k w,tc o (n.trans w)];exact azH j F w e
  by_cases R:b.2.kd=25
  ·rw[qy k R,qy o (n.trans R)];exact Gk j f e
  by_cases W:b.2.kd=26
  ·rw[ru k W,ru o (n.trans W)];exact Gk j f e
  by_cases D:b.2.kd=27
  ·rw[r5 k D,r5 o (n.trans D)];exact rj j f e
  by_cases H:b.2.kd=28
  ·rw[qQ k H,qQ o (n.trans H)];exact rj j f e
  by_cases E:b.2.kd=29
  ·rw[rJ k E,rJ o (n.trans E)];exact rj j f e
  by_cases M:b.2.kd=30
  ·rw[rD k M,rD o (n.trans M)];exact rj j f e
  by_cases ad:b.2.kd=31
  ·rw[r0 k ad,r0 o (n.trans ad)];exact rj j f e
  by_cases T:b.2.kd=32
  ·rw[qF k T,qF o (n.trans T)];unfold oU;exact wH
  by_cases X:b.2.kd=33
  ·rw[ri k X,ri o (n.trans X)];have A:=(f.gK 0).nY (a:=23) O9;have ai:jo (match q.v (Pg b 0) a c.step with
    | ((ac,.no),l)=>((Vk (UO l.M ac),.no),l)
    | ((_,m),l)=>((vU,m),l)) (match G.v (Pg p 0) a d.step with
    | ((ac,.no),l)=>((Vk (UO l.M ac),.no),l)
    | ((_,m),l)=>((vU,m),l)):=by
    rcases(j.v (p:=a) (f.gK 0) e).ca with ⟨x,l,g⟩|⟨x,m,l,v,g,s,i⟩
    ·rw[g];exact .inl rfl
    ·rw[g,s]
     cases m with
     | no=>simp only;rw[i.m];exact .mk i
     | _=>exact .mk i
   unfold mC
   by_cases t:(Pg b 0).2.kd=23
   ·rw[A.1.2 t,A.2 t,t,e.m]
    split
    ·exact .mk e
    ·exact ai
   ·rw[fK λx=>t x.1,fK λx=>t (A.1.1 x.1)];exact ai
  by_cases N:b.2.kd=34
  ·rw[tE k N,tE o (n.trans N)];exact ZZ j f e
  by_cases U:b.2.kd=35
  ·rw[sV k U,sV o (n.trans U)];exact avM j f e
  by_cases L:b.2.kd=36
  ·rw[uP k L,uP o (n.trans L)];unfold pb
   rcases(y4 j (a:=a) (f.gK 0) e).ca with ⟨x,l,g⟩|⟨x,m,l,v,g,s,i⟩
   ·rw[g];exact .inl rfl
   ·rw[g,s]
    cases m with
    | no=>simp only;rw[i.m,f.tx];exact .mk i
    | _=>exact .mk i
  by_cases z:b.2.kd=37
  ·rw[sK k z,sK o (n.trans z)];obtain⟨i,A⟩:=e.jP (p:=a) F z;rw[i];exact .mk A
  by_cases u:b.2.kd=38
  ·rw[vm k u,vm o (n.trans u),e.m];refine MA j _ (F.parts (show ¬ lY b.2 from λh=>by have:=h.2;omega) λaj ac ai A=>?_) (e.mm _)
   have:ai.kd=39:=by
    cases aj:b.2 with
    | mk ak ap t am=>
     rw[aj] at ac A u;change ak=38 at u;subst u
     cases ac with
     | obj k _=>cases k ai A;rfl
     | YW h=>cases h
     | _=>omega
   exact λh=>by have:=h.2;omega
  have ah:b.2.kd≠17/\b.2.kd≠18/\b.2.kd≠19/\b.2.kd≠20/\b.2.kd≠21/\b.2.kd≠23/\b.2.kd≠24/\b.2.kd≠25/\b.2.kd≠26/\b.2.kd≠27/\b.2.kd≠28/\b.2.kd≠29/\b.2.kd≠30/\b.2.kd≠31/\b.2.kd≠32/\b.2.kd≠33/\b.2.kd≠34/\b.2.kd≠35/\b.2.kd≠36/\b.2.kd≠37/\b.2.kd≠38:=⟨B,C,S,O,P,I,w,R,W,D,H,E,M,ad,T,X,N,U,L,z,u⟩;rw[qN k ah,qN o (by rw[n];exact ah)]
  exact .mk e
 ·left;rw[vC k]
def aEt (j:FF q G)(F:Ed b p)(h:Sr c d){B N:Nat}(au:B<=N):l1 (jp q B b a r c) (jp G N p a r d):=by
 have e:=h.step
 by_cases k:c.steps<20000
 ·have n:d.steps<20000:=by have:=h.s;omega
  by_cases z:lY b.2
  ·have D:17<=p.2.kd:=by
    rcases F with m|⟨⟨ai,w⟩,m⟩
    ·rw[m];have:=z.1;omega
    ·rw[m];exact(pB (Tz (rM w z)) (.inl rfl)).1.1
   have i:=z.1;rw[o4 k O9,o4 n O9];exact .mk e
  obtain⟨f,ap⟩:=F.ee z;have t:=f.kd
  by_cases M:b.2.kd=2
  ·rw[ti k M,ti n (t.trans M),f.len]
   split
   ·exact .mk e
   ·unfold oY;rw[f.tx,e.m]
    rcases(j.v (p:=a) (f.gK 0) e).ca with ⟨x,l,g⟩|⟨x,m,l,v,g,s,i⟩
    ·rw[g];exact .inl rfl
    ·rw[g,s]
     cases m with
     | no=>
      simp only;obtain⟨E,u⟩:=GV i (c.step.M.find a.scope b.2.tx) b.2.tx x a.fT;rw[E];exact .mk u
     | _=>exact .mk i
  by_cases O:b.2.kd=3\/b.2.kd=4
  ·have g:∀ (q:Fx) (B:Nat) (b:Nd) (τ:St),(b.2.kd=3\/b.2.kd=4)->τ.steps<20000->jp q B b a r τ=((RS,(k0 b a (U8 q (QB b) a τ.step)).1,r),(k0 b a (U8 q (QB b) a τ.step)).2):=λq B b τ o A=>by
    rcases o with o|o
    ·exact wV A o
    ·exact zp A o
   rw[g _ _ _ _ O k,g _ _ _ _ (by rw[t];exact O) n]
   unfold k0;rw[f.tx]
   rcases(IH j (a:=a) f.el e).ca with ⟨x,l,g⟩|⟨x,m,l,v,g,s,i⟩
   ·rw[g];exact .inl rfl
   ·rw[g,s]
    cases m with
    | no=>simp only;rw[i.m];exact .mk (i.mm _)
    | _=>exact .mk i
  by_cases R:b.2.kd=6
  ·rw[sA k R,sA n (t.trans R)];obtain⟨i,D⟩:=e.gw (p:=a) f ap;rw[i];exact sR j f.el r D
  by_cases P:b.2.kd=7
  ·rw[tQ k P,tQ n (t.trans P)];unfold mY;rw[f.len]
   rcases(j.v (p:=a) (f.gK 0) e).ca with ⟨x,l,g⟩|⟨x,m,l,v,g,s,i⟩
   ·rw[g];exact .inl rfl
   ·rw[g,s]
    cases m with
    | no=>
     simp only
     split
     ·exact j.s (f.gK 1) i
     ·split
      ·exact j.s (f.gK 2) i
      ·exact .mk i
    | _=>exact .mk i
  by_cases T:b.2.kd=8
  ·rw[uD k T,uD n (t.trans T)];exact Lp j f r au e
  by_cases L:b.2.kd=9
  ·rw[ue k L,ue n (t.trans L)];unfold pJ
   rcases(y4 j (a:=a) (f.gK 0) e).ca with ⟨x,l,g⟩|⟨x,m,l,v,g,s,i⟩
   ·rw[g];exact .inl rfl
   ·rw[g,s]
    cases m with
    | no=>simp only;rw[i.gg];exact j.s (f.gK 1) (i.gq _ _ _ _)
    | _=>exact .mk i
  by_cases S:b.2.kd=10
  ·rw[tV k S,tV n (t.trans S)]
   rcases(IH j (a:=a) f.el e).ca with ⟨x,l,g⟩|⟨x,m,l,v,g,s,i⟩
   ·rw[g];exact .inl rfl
   ·rw[g,s];exact .mk i
  by_cases H:b.2.kd=11
  ·rw[tw k H,tw n (t.trans H)];unfold qn;exact wH
  by_cases C:b.2.kd=12
  ·rw[vj k C,vj n (t.trans C)];have ac:iQ En (QB b) (QB p):=F.parts z λai w o u=>by
    have:o.kd=6\/o.kd=13\/o.kd=14:=by
     cases X:b.2 with
     | mk ak aC ay ax=>
      rw[X] at w u C;change ak=12 at C;subst C
      cases w with
      | lc U w W _=>
       rcases gP.1 u with rfl|u
       ·
        cases U;exact .inl rfl
       ·rcases gU.1 u with u|u
        ·
         cases w o u;exact .inr (.inl rfl)
        ·
         cases W o u;exact .inr (.inr rfl)
      | YW h=>cases h
      | _=>omega
    exact λh=>by have:=h.1;omega
   have A:=avJ ac
   rcases(j.s (p:=a) (l:=r) (f.gK 0) e).ca with ⟨am,ah,ad,E⟩|⟨am,m,ah,ad,aD,E,aj,D⟩
   ·rw[E];exact I2 j A (d:=d) (.inl rfl) _ λh=>absurd rfl h
   ·rw[E,aj];exact I2 j A (.inr D) _ λ_=>rfl
  by_cases I:b.2.kd=15
  ·rw[sB k I,sB n (t.trans I)];unfold nO;exact wH
  rw[o4 k O9,o4 n O9];exact .mk e
 ·left;rw[ya k]
def uM:∀ (e f:Nat),e<=f->FF (fx e) (fx f)
 | 0,_,_=>⟨λ_ _=>.inl rfl,λ_ _=>.inl rfl⟩
 | e+1,0,h=>by omega
 | e+1,f+1,h=>⟨fun {b p a c d} i g=>by
   rcases i.ca with k|⟨m,j,l⟩
   ·exact aEs (uM e f O9) k i g
   ·exact R4 (uM e (f+1) O9) (H:=fx f) (λ_ _ _=>rfl) m j l g,λi g=>aEt (uM e f O9) i g O9⟩
def Ty {e:Tr}(h:TW 9 e):(Rh e).1=.stop\/((Rh (PG e)).1=(Rh e).1/\Sr (Rh e).2 (Rh (PG e)).2):=by
 have g:¬ lY e:=λn=>by cases h;have:=n.1;simp[Tr.kd] at this
 have f:Ed ((some 0,e):Nd) ((some 0,PG e):Nd):=.inr ⟨⟨9,h⟩,rfl⟩;obtain⟨l,m⟩:=f.ee g;have z:Sr Q5 Q5:=⟨rfl,rfl,rfl,g9 _,rfl,λA v k=>by change ([]:List Fu)[A]? = some v at k;simp at k⟩
 have o:(QI (some 0,PG e) Q5).1=(QI (some 0,e) Q5).1:=by
  show (⟨1,0,PO (PG e)⟩:Pl)=_
  rw[f.str];rfl
 have w:Sr (QI (some 0,e) Q5).2 (QI (some 0,PG e) Q5).2:=by
  unfold QI;simp only;rw[m.va,show PO (PG e)=PO e from f.str];refine zW (ww l) (Sr.lets (Yo _ z λk c d h=>?_) m _) λb p c d f h=>?_
  ·rw[h.m]
   split
   ·exact h
   ·exact h.Rj _ _ _ _
  ·have g:=Ai f.2;obtain⟨k,i⟩:=h.fun (p:=⟨1,0,PO e⟩) f.1 (.inl g);rw[k,(f.1.nY (a:=5) O9).2 g];exact i.Rj _ _ _ _
 unfold Rh;simp only;rw[o]
 rcases(sR (uM 20002 20002 (g9 _)) (a:=(QI (some 0,e) Q5).1) l.el none w).ca with ⟨B,t,s,j⟩|⟨B,C,t,s,D,j,u,i⟩
 ·left;rw[j]
 ·right;rw[j,u];exact⟨rfl,i⟩
